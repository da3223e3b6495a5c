/- What the laws do with lists of cells: compared, marked, looked for. -/
import Derived.Test.YtkdnddckogbgaaaDoorDGC
namespace Go.Proofs.YtkdnddckogbgaaaDoor
open Go.RowKit Go.Deep
set_option linter.unusedVariables false
set_option maxRecDepth 10000

theorem mem_seg {w : World} {cs : List Bs} (h : Mem w (cs.map Bs.seg)) (k : Nat) (hk : k < cs.length) : Cells w cs[k].a (bys cs[k].L) := h cs[k].seg (List.mem_map.2 ⟨_, List.getElem_mem hk, rfl⟩)
set_option maxHeartbeats 1000000 in
theorem eqCellS_k (a a' : Option Addr) (cap cap' : Nat) (xs ys : List Bs) (w : World) (he : ys.map Bs.L = xs.map Bs.L) (hc : Cells w a (ccells xs)) (hm : Mem w (xs.map Bs.seg)) (hc' : Cells w a' (ccells ys)) (hm' : Mem w (ys.map Bs.seg)) (hl : xs.length ≤ 1048576) (ht : ∀ b ∈ xs, b.L.length ≤ 16777216) :
    Calls Tryd.prog 31 #[.slice a xs.length cap, .slice a' ys.length cap'] w fun e w' => e = .returned (.bool true) ∧ Keeps w w' := by
  have HC := hide hc
  have HC' := hide hc'
  have HM := hide hm
  have HM' := hide hm'
  have hn : ys.length = xs.length := by have := congrArg List.length he; simpa using this
  have HE := hide he
  have HT := hide ht
  have hn' : ((xs.length : Int) != (ys.length : Int)) = false := by rw [hn]; simp
  have HN := hide hn
  clear hc hc' hm hm' he ht hn
  go_enter Tryd.func31, Tryd.ntmps31
  go_wp2_with fail
  go_loopw [5] (fun y w1 => ∃ k : Nat, k ≤ xs.length ∧ y = .int .i64 (k : Int) ∧ Keeps w w1) (fun y _ => xs.length - (intOf y).toNat)
  case atStart => exact ⟨0, by omega, rfl, Keeps.refl _⟩
  case round =>
    obtain ⟨k, hk, rfl, hkw⟩ := hrel
    by_cases hlt : k < xs.length
    · have hlt' : k < ys.length := by have := HN.out; omega
      obtain ⟨b, off, ea, c0⟩ := cell1 (HC.out.kept hkw) k hlt
      obtain ⟨b', off', ea', d0⟩ := cell1 (HC'.out.kept hkw) k hlt'
      subst ea ea'
      have hL : ys[k].L = xs[k].L := by
        have h := congrArg (fun l => l[k]?) HE.out
        simpa [hlt, hlt'] using h
      have HQ := hide (fun t => eqCell_k xs[k].a ys[k].a xs[k].cap ys[k].cap xs[k].L (gr wr t) (((mem_seg HM.out k hlt).kept hkw).kept (gr_keeps wr t)) (by rw [← hL]; exact ((mem_seg HM'.out k hlt').kept hkw).kept (gr_keeps wr t)) (HT.out _ (List.getElem_mem hlt)))
      have g0 := gr_cell c0
      have g1 := gr_cell d0
      unfold Bs.v at c0 d0 g0 g1
      rw [hL] at d0 g1
      clear hL
      generalize xs[k] = x at *
      generalize ys[k] = y at *
      obtain ⟨xa, xc, xL⟩ := x
      obtain ⟨ya, yc, yL⟩ := y
      dsimp only at c0 d0 g0 g1 HQ
      go_wp2_with fail
      refine region_gr (by kernel_rfl) (by kernel_rfl) ?_
      repeat (go_big_quiet_step (first | (go_at_call 50; exact gr_call (unhide HQ _))))
      refine wpQuiet_nil ?_
      intro w' hw'
      have hk' := hkw.trans (Keeps.of_gr hw')
      clear hw'
      go_wp2_with fail
      go_roundw
      case rel => exact ⟨k + 1, by omega, by go_num, hk'⟩
      case measure => simp [intOf]; omega
    · go_wp2_with fail
      go_ret
      exact ⟨rfl, hkw⟩

theorem tot_append (xs ys : List Bs) : tot (xs ++ ys) = tot xs + tot ys := by simp [tot]
theorem tot_take_le (cs : List Bs) (k : Nat) : tot (cs.take k) ≤ tot cs := by
  have := tot_append (cs.take k) (cs.drop k)
  rw [List.take_append_drop] at this
  omega
/-- The lists with marks from n on. -/
def markC (n : Nat) : List Bs → List Bs
  | [] => []
  | b :: t => ⟨b.a, b.cap, marksB n b.L.length⟩ :: markC (n + b.L.length) t
theorem markC_len : ∀ (n : Nat) (cs : List Bs), (markC n cs).length = cs.length
  | _, [] => rfl
  | n, b :: t => by simp [markC, markC_len]
theorem markC_cells : ∀ (n : Nat) (cs : List Bs), ccells (markC n cs) = ccells cs
  | _, [] => rfl
  | n, b :: t => by
    have := markC_cells (n + b.L.length) t
    simp only [ccells, markC, List.flatMap_cons, Bs.cells, Bs.v, marksB_length] at this ⊢
    rw [this]
theorem markC_append : ∀ (n : Nat) (xs ys : List Bs), markC n (xs ++ ys) = markC n xs ++ markC (n + tot xs) ys
  | n, [], ys => by simp [markC, tot]
  | n, b :: t, ys => by
    have := markC_append (n + b.L.length) t ys
    simp only [List.cons_append, markC, this, tot, List.map_cons, List.sum_cons]
    congr 3
    omega
theorem markC_at (n : Nat) (cs : List Bs) (k : Nat) (h : k < cs.length) : (markC n cs)[k]? = some ⟨cs[k].a, cs[k].cap, marksB (n + tot (cs.take k)) cs[k].L.length⟩ := by
  have e : cs = cs.take k ++ cs[k] :: cs.drop (k + 1) := by rw [← List.drop_eq_getElem_cons h]; simp
  have hl : (markC n (cs.take k)).length = k := by rw [markC_len]; simp; omega
  rw [show markC n cs = markC n (cs.take k ++ cs[k] :: cs.drop (k + 1)) by rw [← e], markC_append, List.getElem?_append_right (by omega), hl]
  simp [markC]
set_option maxHeartbeats 2000000 in
theorem markCellS_k (a : Option Addr) (cap : Nat) (cs : List Bs) (n : Nat) (w : World) (h : Own w ((a, ccells cs) :: cs.map Bs.seg)) (hl : cs.length ≤ 1048576) (ht : tot cs ≤ 16777216) (hn : n ≤ 1000000000) :
    Calls Tryd.prog 33 #[.slice a cs.length cap, .int .i64 (n : Int)] w fun e w' => e = .returned (.int .i64 ((n + tot cs : Nat) : Int)) ∧ Own w' ((a, ccells cs) :: (markC n cs).map Bs.seg) ∧ Turn (fp ((a, ccells cs) :: cs.map Bs.seg)) w w' := by
  have HO := hide h
  clear h
  go_enter Tryd.func33, Tryd.ntmps33
  go_wp2_with fail
  go_loopw [1, 5] (fun x y wr => ∃ k : Nat, k ≤ cs.length ∧ x = .int .i64 ((n + tot (cs.take k) : Nat) : Int) ∧ y = .int .i64 (k : Int) ∧ Hid (Own wr ((a, ccells cs) :: (markC n (cs.take k) ++ cs.drop k).map Bs.seg)) ∧ Hid (fp ((a, ccells cs) :: (markC n (cs.take k) ++ cs.drop k).map Bs.seg) = fp ((a, ccells cs) :: cs.map Bs.seg)) ∧ Hid (Turn (fp ((a, ccells cs) :: cs.map Bs.seg)) w wr)) (fun _ y _ => cs.length - (intOf y).toNat)
  case atStart => exact ⟨0, by omega, by simp [tot], rfl, by show Own _ _; simpa [markC] using HO.out, by show _ = _; simp [markC], Turn.refl _ _⟩
  case round =>
    obtain ⟨k, hk, rfl, rfl, HOr, HF, HT⟩ := hrel
    by_cases hlt : k < cs.length
    · have hc : Cells wr a (ccells cs) := HOr.out.mem (a, ccells cs) (by simp)
      obtain ⟨b, off, ea, c0⟩ := cell1 hc k hlt
      subst ea
      have HTt := hide (tot_take cs k hlt)
      have hle : cs[k].L.length ≤ tot cs := tot_le (List.getElem_mem hlt)
      have hle2 : tot (cs.take k) ≤ tot cs := tot_take_le cs k
      have HD : Hid ((some (⟨b, off, none⟩ : Addr), ccells cs) :: (markC n (cs.take k) ++ cs.drop k).map Bs.seg = ((some ⟨b, off, none⟩, ccells cs) :: (markC n (cs.take k)).map Bs.seg) ++ cs[k].seg :: (cs.drop (k + 1)).map Bs.seg) := by
        show _ = _
        rw [List.drop_eq_getElem_cons hlt, List.map_append, List.map_cons, List.cons_append]
      have HD2 : Hid ((some (⟨b, off, none⟩ : Addr), ccells cs) :: (markC n (cs.take (k + 1)) ++ cs.drop (k + 1)).map Bs.seg = ((some ⟨b, off, none⟩, ccells cs) :: (markC n (cs.take k)).map Bs.seg) ++ Bs.seg (Bs.mk cs[k].a cs[k].cap (marksB (n + tot (cs.take k)) cs[k].L.length)) :: (cs.drop (k + 1)).map Bs.seg) := by
        show _ = _
        rw [List.take_succ_eq_append_getElem hlt, markC_append, List.append_assoc, List.map_append, List.cons_append]; rfl
      have HOk : Hid (Own wr [(cs[k].a, bys cs[k].L)]) := by
        have h2 := HOr.out
        rw [HD.out] at h2
        exact Own.left (S := [_]) (T := (cs.drop (k + 1)).map Bs.seg) h2.right
      have HMk := hide (markByteS_k cs[k].a cs[k].cap cs[k].L (n + tot (cs.take k)) wr HOk.out (by omega) (by omega))
      have HFS : Hid (fpS (Bs.seg (Bs.mk cs[k].a cs[k].cap (marksB (n + tot (cs.take k)) cs[k].L.length))) = fpS cs[k].seg) := fpS_len (by simp [bys_length, marksB_length])
      unfold Bs.v at c0
      generalize cs[k] = c at *
      obtain ⟨ka, kc, kL⟩ := c
      dsimp only at c0 HTt HMk HD HD2 HFS hle
      have HMk' := HMk.out
      simp only [Int.natCast_add] at HMk'
      replace HMk := hide HMk'
      clear HMk'
      go_wp2_with fail
      refine (unhide HMk).mono ?_
      rintro e w1 ⟨rfl, ho, htu⟩
      have HO1 := hide ho
      have HT1 := hide htu
      clear ho htu
      go_wp2_with fail
      go_roundw
      case rel =>
        refine ⟨k + 1, by omega, by rw [HTt.out]; congr 1; omega, by go_num, ?_, ?_, ?_⟩
        · show Own _ _
          rw [HD2.out]
          have h2 := HOr.out
          rw [HD.out] at h2
          exact h2.upd HO1.out HFS.out HT1.out
        · show _ = _
          rw [HD2.out, fp_upd _ _ HFS.out, ← HD.out, HF.out]
        · refine HT.out.trans' (HT1.out.mono ?_)
          intro x hx
          rw [← HF.out, HD.out, fp_append, fp_cons]
          exact List.mem_append_right _ (List.mem_append_left _ (by rw [fp_one] at hx; exact hx))
      case measure => simp [intOf]; omega
    · have e : k = cs.length := by omega
      subst e
      go_wp2_with fail
      go_ret
      have h2 := HOr.out
      rw [List.take_length, List.drop_length, List.append_nil] at h2
      exact ⟨by simp, h2, HT.out⟩

end Go.Proofs.YtkdnddckogbgaaaDoor
