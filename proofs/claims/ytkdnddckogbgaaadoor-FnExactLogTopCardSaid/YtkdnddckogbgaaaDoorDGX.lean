/- What the laws do with lists of writes: compared, marked, looked for. -/
import Derived.Test.YtkdnddckogbgaaaDoorDGW
namespace Go.Proofs.YtkdnddckogbgaaaDoor
open Go.RowKit Go.Deep
set_option linter.unusedVariables false
set_option maxRecDepth 10000

set_option maxHeartbeats 1000000 in
theorem eqWriteS_k (a a' : Option Addr) (cap cap' : Nat) (xs ys : List Wr) (w : World) (he : ys.map Wr.key = xs.map Wr.key) (hc : Cells w a (wcells xs)) (hm : Mem w (xs.map Wr.seg)) (hc' : Cells w a' (wcells ys)) (hm' : Mem w (ys.map Wr.seg)) (hl : xs.length ≤ 1048576) (ht : ∀ x ∈ xs, x.b.L.length ≤ 16777216) :
    Calls Tryd.prog 32 #[.slice a xs.length cap, .slice a' ys.length cap'] w fun e w' => e = .returned (.bool true) ∧ Keeps w w' := by
  have HC := hide hc
  have HC' := hide hc'
  have HM := hide hm
  have HM' := hide hm'
  have hn : ys.length = xs.length := by have := congrArg List.length he; simpa using this
  have HE := hide he
  have HT := hide ht
  have hn' : ((xs.length : Int) != (ys.length : Int)) = false := by rw [hn]; simp
  have HN := hide hn
  clear hc hc' hm hm' he ht hn
  go_enter Tryd.func32, Tryd.ntmps32
  go_wp2_with fail
  go_loopw [5] (fun y w1 => ∃ k : Nat, k ≤ xs.length ∧ y = .int .i64 (k : Int) ∧ Keeps w w1) (fun y _ => xs.length - (intOf y).toNat)
  case atStart => exact ⟨0, by omega, rfl, Keeps.refl _⟩
  case round =>
    obtain ⟨k, hk, rfl, hkw⟩ := hrel
    by_cases hlt : k < xs.length
    · have hlt' : k < ys.length := by have := HN.out; omega
      obtain ⟨b, off, ea, c0, c1⟩ := cell2 (HC.out.kept hkw) k hlt
      obtain ⟨b', off', ea', d0, d1⟩ := cell2 (HC'.out.kept hkw) k hlt'
      subst ea ea'
      have hK : ys[k].key = xs[k].key := by
        have h := congrArg (fun l => l[k]?) HE.out
        simpa [hlt, hlt'] using h
      have hL : ys[k].b.L = xs[k].b.L := congrArg Prod.snd hK
      have hI : ys[k].i = xs[k].i := congrArg Prod.fst hK
      clear hK
      have HQ := hide (fun t => eqWrite_k xs[k].i xs[k].b.a ys[k].b.a xs[k].b.cap ys[k].b.cap xs[k].b.L (gr wr t) (((mem_segW HM.out k hlt).kept hkw).kept (gr_keeps wr t)) (by rw [← hL]; exact ((mem_segW HM'.out k hlt').kept hkw).kept (gr_keeps wr t)) (HT.out _ (List.getElem_mem hlt)))
      have g0 := gr_cell c0
      have g1 := gr_cell c1
      have g2 := gr_cell d0
      have g3 := gr_cell d1
      unfold Bs.v at c1 d1 g1 g3
      rw [hL] at d1 g3
      rw [hI] at d0 g2
      clear hL hI
      generalize xs[k] = x at *
      generalize ys[k] = y at *
      obtain ⟨xi, xa, xc, xL⟩ := x
      obtain ⟨yi, ya, yc, yL⟩ := y
      dsimp only at c0 c1 d0 d1 g0 g1 g2 g3 HQ
      go_wp2_with fail
      refine region_gr (by kernel_rfl) (by kernel_rfl) ?_
      repeat (go_big_quiet_step (first | (go_at_call 51; exact gr_call (unhide HQ _))))
      refine wpQuiet_nil ?_
      intro w' hw'
      have hk' := hkw.trans (Keeps.of_gr hw')
      clear hw'
      go_wp2_with fail
      go_roundw
      case rel => exact ⟨k + 1, by omega, by go_num, hk'⟩
      case measure => simp [intOf]; omega
    · go_wp2_with fail
      go_ret
      exact ⟨rfl, hkw⟩

/-- The writes with marks from n on. -/
def markW (n : Nat) : List Wr → List Wr
  | [] => []
  | x :: t => ⟨(n : Int), ⟨x.b.a, x.b.cap, marksB (n + 1) x.b.L.length⟩⟩ :: markW (n + 1 + x.b.L.length) t
theorem markW_len : ∀ (n : Nat) (ds : List Wr), (markW n ds).length = ds.length
  | _, [] => rfl
  | n, b :: t => by simp [markW, markW_len]
theorem markW_append : ∀ (n : Nat) (xs ys : List Wr), markW n (xs ++ ys) = markW n xs ++ markW (n + xs.length + totW xs) ys
  | n, [], ys => by simp [markW, totW]
  | n, b :: t, ys => by
    have := markW_append (n + 1 + b.b.L.length) t ys
    simp only [List.cons_append, markW, this, totW, List.map_cons, List.sum_cons, List.length_cons]
    congr 3
    omega
theorem markW_at (n : Nat) (ds : List Wr) (k : Nat) (h : k < ds.length) : (markW n ds)[k]? = some ⟨((n + k + totW (ds.take k) : Nat) : Int), ⟨ds[k].b.a, ds[k].b.cap, marksB (n + k + totW (ds.take k) + 1) ds[k].b.L.length⟩⟩ := by
  have e : ds = ds.take k ++ ds[k] :: ds.drop (k + 1) := by rw [← List.drop_eq_getElem_cons h]; simp
  have hk : (ds.take k).length = k := by simp; omega
  have hl : (markW n (ds.take k)).length = k := by rw [markW_len, hk]
  rw [show markW n ds = markW n (ds.take k ++ ds[k] :: ds.drop (k + 1)) by rw [← e], markW_append, List.getElem?_append_right (by omega), hl, hk]
  simp [markW]
theorem totW_markW : ∀ (n : Nat) (ds : List Wr), totW (markW n ds) = totW ds
  | _, [] => rfl
  | n, b :: t => by
    have := totW_markW (n + 1 + b.b.L.length) t
    simp only [totW, markW, List.map_cons, List.sum_cons, marksB_length] at this ⊢
    omega
theorem wcells_append (xs ys : List Wr) : wcells (xs ++ ys) = wcells xs ++ wcells ys := by simp [wcells]
theorem cells_set {w : World} {g off : Nat} {xs : List Value} (hc : ∀ j (hj : j < xs.length), w.cell? ⟨g, off + j, none⟩ = some xs[j]) (i : Nat) (v : Value) (hi : i < xs.length) : ∀ j (hj : j < (xs.set i v).length), (w.setCell ⟨g, off + i, none⟩ v).cell? ⟨g, off + j, none⟩ = some (xs.set i v)[j] := by
  intro j hj
  have hj' : j < xs.length := by simpa using hj
  by_cases e : j = i
  · subst e
    rw [World.cell?_setCell_same _ _ _ (hc j hj')]; simp
  · rw [World.cell?_setCell_other _ _ _ _ (by simp), hc j hj', List.getElem_set_ne (Ne.symm e)]
/-- One cell of a list of one's own was written. -/
theorem Own.setCell {w : World} {g off : Nat} {xs : List Value} (h : Own w [(some ⟨g, off, none⟩, xs)]) (i : Nat) (v : Value) (hi : i < xs.length) : Own (w.setCell ⟨g, off + i, none⟩ v) [(some ⟨g, off, none⟩, xs.set i v)] := by
  refine h.wrote (by simp) (Or.inr ⟨g, off, rfl, cells_set ?_ i v hi⟩) (fun p => frozen_set ..)
  rcases h.one with h' | ⟨g', off', e, h'⟩
  · rw [h'] at hi; simp at hi
  · have e' := Option.some.inj e
    injection e' with e1 e2
    subst e1 e2
    exact h'
theorem wcells_set (A B : List Wr) (x : Wr) (n : Int) : (wcells (A ++ x :: B)).set (A.length * 2) (.int .i64 n) = wcells (A ++ ⟨n, x.b⟩ :: B) := by
  have hl := wcells_len A
  rw [wcells_append, wcells_append, List.set_append_right _ _ (by omega), hl]
  simp [wcells, Wr.cells]
set_option maxHeartbeats 4000000 in
theorem markWriteS_k (a : Option Addr) (cap : Nat) (ds : List Wr) (n : Nat) (w : World) (h : Own w ((a, wcells ds) :: ds.map Wr.seg)) (hl : ds.length ≤ 1048576) (ht : totW ds ≤ 16777216) (hn : n ≤ 1000000000) :
    Calls Tryd.prog 34 #[.slice a ds.length cap, .int .i64 (n : Int)] w fun e w' => e = .returned (.int .i64 ((n + ds.length + totW ds : Nat) : Int)) ∧ Own w' ((a, wcells (markW n ds)) :: (markW n ds).map Wr.seg) ∧ Turn (fp ((a, wcells ds) :: ds.map Wr.seg)) w w' := by
  have HO := hide h
  clear h
  go_enter Tryd.func34, Tryd.ntmps34
  go_wp2_with fail
  go_loopw [1, 5] (fun x y wr => ∃ k : Nat, k ≤ ds.length ∧ x = .int .i64 ((n + k + totW (ds.take k) : Nat) : Int) ∧ y = .int .i64 (k : Int) ∧ Hid (Own wr ((a, wcells (markW n (ds.take k) ++ ds.drop k)) :: (markW n (ds.take k) ++ ds.drop k).map Wr.seg)) ∧ Hid (fp ((a, wcells (markW n (ds.take k) ++ ds.drop k)) :: (markW n (ds.take k) ++ ds.drop k).map Wr.seg) = fp ((a, wcells ds) :: ds.map Wr.seg)) ∧ Hid (Turn (fp ((a, wcells ds) :: ds.map Wr.seg)) w wr)) (fun _ y _ => ds.length - (intOf y).toNat)
  case atStart => exact ⟨0, by omega, by simp [totW], rfl, by show Own _ _; simpa [markW] using HO.out, by show _ = _; simp [markW], Turn.refl _ _⟩
  case round =>
    obtain ⟨k, hk, rfl, rfl, HOr, HF, HT⟩ := hrel
    by_cases hlt : k < ds.length
    · have HTt := hide (totW_take ds k hlt)
      have hle : ds[k].b.L.length ≤ totW ds := totW_le (List.getElem_mem hlt)
      have hle2 : totW (ds.take k) ≤ totW ds := totW_take_le ds k
      have HDr : Hid (ds.drop k = ds[k] :: ds.drop (k + 1)) := List.drop_eq_getElem_cons hlt
      have HTk : Hid (markW n (ds.take (k + 1)) ++ ds.drop (k + 1) = markW n (ds.take k) ++ (Wr.mk ((n + k + totW (ds.take k) : Nat) : Int) (Bs.mk ds[k].b.a ds[k].b.cap (marksB (n + k + totW (ds.take k) + 1) ds[k].b.L.length))) :: ds.drop (k + 1)) := by
        show _ = _
        rw [List.take_succ_eq_append_getElem hlt, markW_append, List.append_assoc, show (ds.take k).length = k by simp; omega]; rfl
      have HLA : Hid ((markW n (ds.take k)).length = k) := by show _ = _; rw [markW_len]; simp; omega
      rw [HDr.out] at HOr HF
      generalize ds[k] = c at *
      obtain ⟨ki, ka, kc, kL⟩ := c
      dsimp only at HTt HTk hle
      generalize markW n (ds.take k) = A at *
      generalize hB : ds.drop (k + 1) = B at HTk HDr HOr HF
      have HBB := hide hB
      clear hB
      generalize totW (ds.take k) = t at *
      have hcl : Cells wr a (wcells (A ++ Wr.mk ki (Bs.mk ka kc kL) :: B)) := HOr.out.mem (a, wcells (A ++ Wr.mk ki (Bs.mk ka kc kL) :: B)) (by simp)
      have hkl : k < (A ++ Wr.mk ki (Bs.mk ka kc kL) :: B).length := by have := HLA.out; simp; omega
      obtain ⟨b, off, ea, c0, c1⟩ := cell2 hcl k hkl
      subst ea
      have he : (A ++ Wr.mk ki (Bs.mk ka kc kL) :: B)[k] = Wr.mk ki (Bs.mk ka kc kL) := by
        rw [List.getElem_append_right (by have := HLA.out; omega)]
        simp [HLA.out]
      rw [he] at c0 c1
      dsimp only [Bs.v] at c0 c1
      have HOo : Hid (Own wr [(some (⟨b, off, none⟩ : Addr), wcells (A ++ Wr.mk ki (Bs.mk ka kc kL) :: B))]) := Own.left (S := [_]) (T := (A ++ Wr.mk ki (Bs.mk ka kc kL) :: B).map Wr.seg) HOr.out
      have hne : wcells (A ++ Wr.mk ki (Bs.mk ka kc kL) :: B) ≠ [] := by
        intro e
        have := wcells_len (A ++ Wr.mk ki (Bs.mk ka kc kL) :: B)
        rw [e] at this
        simp at this
      have f0 : wr.frozen? ⟨b, off + k * 2, none⟩ = false := HOo.out.free b (by rw [fp_one, fpS_some hne]; simp) _
      have hset := wcells_set A B (Wr.mk ki (Bs.mk ka kc kL)) ((n + k + t : Nat) : Int)
      rw [HLA.out] at hset
      have HO1 : Hid (Own (wr.setCell ⟨b, off + k * 2, none⟩ (.int .i64 ((n + k + t : Nat) : Int))) [(some ⟨b, off, none⟩, wcells (A ++ Wr.mk ((n + k + t : Nat) : Int) (Bs.mk ka kc kL) :: B))]) := by
        have h1 := HOo.out.setCell (k * 2) (.int .i64 ((n + k + t : Nat) : Int)) (by rw [wcells_len]; have := HLA.out; simp; omega)
        rw [hset] at h1
        exact h1
      have hfs : fpS (some (⟨b, off, none⟩ : Addr), wcells (A ++ Wr.mk ((n + k + t : Nat) : Int) (Bs.mk ka kc kL) :: B)) = fpS (some (⟨b, off, none⟩ : Addr), wcells (A ++ Wr.mk ki (Bs.mk ka kc kL) :: B)) := fpS_len (by simp [wcells_len])
      have HOw : Hid (Own (wr.setCell ⟨b, off + k * 2, none⟩ (.int .i64 ((n + k + t : Nat) : Int))) ((some ⟨b, off, none⟩, wcells (A ++ Wr.mk ((n + k + t : Nat) : Int) (Bs.mk ka kc kL) :: B)) :: (A ++ Wr.mk ki (Bs.mk ka kc kL) :: B).map Wr.seg)) :=
        Own.upd (A := []) HOr.out HO1.out hfs (Turn.set (by rw [fp_one, fpS_some hne]; simp) _)
      have HTw : Hid (Turn (fp ((some (⟨b, off, none⟩ : Addr), wcells ds) :: ds.map Wr.seg)) w (wr.setCell ⟨b, off + k * 2, none⟩ (.int .i64 ((n + k + t : Nat) : Int)))) :=
        HT.out.trans' (Turn.set (by rw [← HF.out, fp_cons, fpS_some hne]; simp) _)
      have HFw : Hid (fp ((some (⟨b, off, none⟩ : Addr), wcells (A ++ Wr.mk ((n + k + t : Nat) : Int) (Bs.mk ka kc kL) :: B)) :: (A ++ Wr.mk ki (Bs.mk ka kc kL) :: B).map Wr.seg) = fp ((some (⟨b, off, none⟩ : Addr), wcells ds) :: ds.map Wr.seg)) := by
        show _ = _
        rw [← HF.out, fp_cons, fp_cons, hfs]
      have d1 : (wr.setCell ⟨b, off + k * 2, none⟩ (.int .i64 ((n + k + t : Nat) : Int))).cell? ⟨b, off + k * 2 + 1, none⟩ = some (.slice ka kL.length kc) := by
        rw [World.cell?_setCell_other _ _ _ _ (by simp)]; exact c1
      simp only [Int.natCast_add] at d1 HO1 HOw HTw HFw
      clear HOo HOr HF HT hcl he hset hfs HO1
      go_wp2_with fail
      generalize wr.setCell ⟨b, off + k * 2, none⟩ (.int .i64 ((n : Int) + (k : Int) + (t : Int))) = W1 at *
      have HD : Hid ((some (⟨b, off, none⟩ : Addr), wcells (A ++ Wr.mk ((n : Int) + (k : Int) + (t : Int)) (Bs.mk ka kc kL) :: B)) :: (A ++ Wr.mk ki (Bs.mk ka kc kL) :: B).map Wr.seg = ((some ⟨b, off, none⟩, wcells (A ++ Wr.mk ((n : Int) + (k : Int) + (t : Int)) (Bs.mk ka kc kL) :: B)) :: A.map Wr.seg) ++ (ka, bys kL) :: B.map Wr.seg) := by
        show _ = _
        rw [List.map_append, List.map_cons, List.cons_append]; rfl
      have HOk : Hid (Own W1 [(ka, bys kL)]) := by
        have h2 := HOw.out
        rw [HD.out] at h2
        exact Own.left (S := [_]) (T := B.map Wr.seg) h2.right
      have HMk' := markByteS_k ka kc kL (n + k + t + 1) W1 HOk.out (by omega) (by omega)
      simp only [Int.natCast_add, Int.cast_ofNat_Int] at HMk'
      refine HMk'.mono ?_
      clear HMk'
      rintro e w1 ⟨rfl, ho, htu⟩
      have HO1 := hide ho
      have HT1 := hide htu
      clear ho htu
      have HFS : Hid (fpS (ka, bys (marksB (n + k + t + 1) kL.length)) = fpS (ka, bys kL)) := fpS_len (by simp [bys_length, marksB_length])
      have HWE : Hid (wcells (A ++ Wr.mk ((n : Int) + (k : Int) + (t : Int)) (Bs.mk ka kc kL) :: B) = wcells (A ++ Wr.mk ((n + k + t : Nat) : Int) (Bs.mk ka kc (marksB (n + k + t + 1) kL.length)) :: B)) := by
        show _ = _
        rw [wcells_append, wcells_append]
        simp [wcells, Wr.cells, Bs.v, marksB_length]
      go_wp2_with fail
      go_roundw
      case rel =>
        have hD2 : (some (⟨b, off, none⟩ : Addr), wcells (markW n (ds.take (k + 1)) ++ ds.drop (k + 1))) :: (markW n (ds.take (k + 1)) ++ ds.drop (k + 1)).map Wr.seg = ((some ⟨b, off, none⟩, wcells (A ++ Wr.mk ((n : Int) + (k : Int) + (t : Int)) (Bs.mk ka kc kL) :: B)) :: A.map Wr.seg) ++ (ka, bys (marksB (n + k + t + 1) kL.length)) :: B.map Wr.seg := by
          rw [HBB.out, HTk.out, HWE.out, List.map_append, List.map_cons, List.cons_append]; rfl
        refine ⟨k + 1, by omega, by rw [HTt.out]; congr 1; omega, by go_num, ?_, ?_, ?_⟩
        · show Own _ _
          rw [hD2]
          have h2 := HOw.out
          rw [HD.out] at h2
          exact h2.upd HO1.out HFS.out HT1.out
        · show _ = _
          rw [hD2, fp_upd _ _ HFS.out, ← HD.out, HFw.out]
        · refine HTw.out.trans' (HT1.out.mono ?_)
          intro x hx
          rw [← HFw.out, HD.out, fp_append, fp_cons]
          exact List.mem_append_right _ (List.mem_append_left _ (by rw [fp_one] at hx; exact hx))
      case measure => simp [intOf]; omega
    · have e : k = ds.length := by omega
      subst e
      go_wp2_with fail
      go_ret
      have h2 := HOr.out
      rw [List.take_length, List.drop_length, List.append_nil] at h2
      exact ⟨by simp, h2, HT.out⟩

end Go.Proofs.YtkdnddckogbgaaaDoor
