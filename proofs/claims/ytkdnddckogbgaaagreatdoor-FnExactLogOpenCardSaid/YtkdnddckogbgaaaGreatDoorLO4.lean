/- Texts of the verifier, joined: DGX, DGK. -/
import Derived.Test.YtkdnddckogbgaaaGreatDoorLO3
namespace Go.Proofs.YtkdnddckogbgaaaGreatDoor
open Go.RowKit Go.Deep
set_option linter.unusedVariables false
set_option maxRecDepth 10000

set_option maxHeartbeats 1000000 in
theorem eqWriteS_k (a a' : Option Addr) (cap cap' : Nat) (xs ys : List Wr) (w : World) (he : ys.map Wr.key = xs.map Wr.key) (hc : Cells w a (wcells xs)) (hm : Mem w (xs.map Wr.seg)) (hc' : Cells w a' (wcells ys)) (hm' : Mem w (ys.map Wr.seg)) (hl : xs.length ≤ 1048576) (ht : ∀ x ∈ xs, x.b.L.length ≤ 16777216) :
    Calls Tryz.prog 63 #[.slice a xs.length cap, .slice a' ys.length cap'] w fun e w' => e = .returned (.bool true) ∧ Keeps w w' := by
  have HC := hide hc
  have HC' := hide hc'
  have HM := hide hm
  have HM' := hide hm'
  have hn : ys.length = xs.length := by have := congrArg List.length he; simpa using this
  have HE := hide he
  have HT := hide ht
  have hn' : ((xs.length : Int) != (ys.length : Int)) = false := by rw [hn]; simp
  have HN := hide hn
  clear hc hc' hm hm' he ht hn
  go_enter Tryz.func63, Tryz.ntmps63
  go_wp2_with fail
  go_loopw [5] (fun y w1 => ∃ k : Nat, k ≤ xs.length ∧ y = .int .i64 (k : Int) ∧ Keeps w w1) (fun y _ => xs.length - (intOf y).toNat)
  case atStart => exact ⟨0, by omega, rfl, Keeps.refl _⟩
  case round =>
    obtain ⟨k, hk, rfl, hkw⟩ := hrel
    by_cases hlt : k < xs.length
    · have hlt' : k < ys.length := by have := HN.out; omega
      obtain ⟨b, off, ea, c0, c1⟩ := cell2 (HC.out.kept hkw) k hlt
      obtain ⟨b', off', ea', d0, d1⟩ := cell2 (HC'.out.kept hkw) k hlt'
      subst ea ea'
      have hK : ys[k].key = xs[k].key := by
        have h := congrArg (fun l => l[k]?) HE.out
        simpa [hlt, hlt'] using h
      have hL : ys[k].b.L = xs[k].b.L := congrArg Prod.snd hK
      have hI : ys[k].i = xs[k].i := congrArg Prod.fst hK
      clear hK
      have HQ := hide (fun t => eqWrite_k xs[k].i xs[k].b.a ys[k].b.a xs[k].b.cap ys[k].b.cap xs[k].b.L (gr wr t) (((mem_segW HM.out k hlt).kept hkw).kept (gr_keeps wr t)) (by rw [← hL]; exact ((mem_segW HM'.out k hlt').kept hkw).kept (gr_keeps wr t)) (HT.out _ (List.getElem_mem hlt)))
      have g0 := gr_cell c0
      have g1 := gr_cell c1
      have g2 := gr_cell d0
      have g3 := gr_cell d1
      unfold Bs.v at c1 d1 g1 g3
      rw [hL] at d1 g3
      rw [hI] at d0 g2
      clear hL hI
      generalize xs[k] = x at *
      generalize ys[k] = y at *
      obtain ⟨xi, xa, xc, xL⟩ := x
      obtain ⟨yi, ya, yc, yL⟩ := y
      dsimp only at c0 c1 d0 d1 g0 g1 g2 g3 HQ
      go_wp2_with fail
      refine region_gr (by kernel_rfl) (by kernel_rfl) ?_
      repeat (go_big_quiet_step (first | (go_at_call 98; exact gr_call (unhide HQ _))))
      refine wpQuiet_nil ?_
      intro w' hw'
      have hk' := hkw.trans (Keeps.of_gr hw')
      clear hw'
      go_wp2_with fail
      go_roundw
      case rel => exact ⟨k + 1, by omega, by go_num, hk'⟩
      case measure => simp [intOf]; omega
    · go_wp2_with fail
      go_ret
      exact ⟨rfl, hkw⟩

/-- The writes with marks from n on. -/
def markW (n : Nat) : List Wr → List Wr
  | [] => []
  | x :: t => ⟨(n : Int), ⟨x.b.a, x.b.cap, marksB (n + 1) x.b.L.length⟩⟩ :: markW (n + 1 + x.b.L.length) t
theorem markW_len : ∀ (n : Nat) (ds : List Wr), (markW n ds).length = ds.length
  | _, [] => rfl
  | n, b :: t => by simp [markW, markW_len]
theorem markW_append : ∀ (n : Nat) (xs ys : List Wr), markW n (xs ++ ys) = markW n xs ++ markW (n + xs.length + totW xs) ys
  | n, [], ys => by simp [markW, totW]
  | n, b :: t, ys => by
    have := markW_append (n + 1 + b.b.L.length) t ys
    simp only [List.cons_append, markW, this, totW, List.map_cons, List.sum_cons, List.length_cons]
    congr 3
    omega
theorem markW_at (n : Nat) (ds : List Wr) (k : Nat) (h : k < ds.length) : (markW n ds)[k]? = some ⟨((n + k + totW (ds.take k) : Nat) : Int), ⟨ds[k].b.a, ds[k].b.cap, marksB (n + k + totW (ds.take k) + 1) ds[k].b.L.length⟩⟩ := by
  have e : ds = ds.take k ++ ds[k] :: ds.drop (k + 1) := by rw [← List.drop_eq_getElem_cons h]; simp
  have hk : (ds.take k).length = k := by simp; omega
  have hl : (markW n (ds.take k)).length = k := by rw [markW_len, hk]
  rw [show markW n ds = markW n (ds.take k ++ ds[k] :: ds.drop (k + 1)) by rw [← e], markW_append, List.getElem?_append_right (by omega), hl, hk]
  simp [markW]
theorem wcells_append (xs ys : List Wr) : wcells (xs ++ ys) = wcells xs ++ wcells ys := by simp [wcells]
theorem cells_set {w : World} {g off : Nat} {xs : List Value} (hc : ∀ j (hj : j < xs.length), w.cell? ⟨g, off + j, none⟩ = some xs[j]) (i : Nat) (v : Value) (hi : i < xs.length) : ∀ j (hj : j < (xs.set i v).length), (w.setCell ⟨g, off + i, none⟩ v).cell? ⟨g, off + j, none⟩ = some (xs.set i v)[j] := by
  intro j hj
  have hj' : j < xs.length := by simpa using hj
  by_cases e : j = i
  · subst e
    rw [World.cell?_setCell_same _ _ _ (hc j hj')]; simp
  · rw [World.cell?_setCell_other _ _ _ _ (by simp), hc j hj', List.getElem_set_ne (Ne.symm e)]
/-- One cell of a list of one's own was written. -/
theorem Own.setCell {w : World} {g off : Nat} {xs : List Value} (h : Own w [(some ⟨g, off, none⟩, xs)]) (i : Nat) (v : Value) (hi : i < xs.length) : Own (w.setCell ⟨g, off + i, none⟩ v) [(some ⟨g, off, none⟩, xs.set i v)] := by
  refine h.wrote (by simp) (Or.inr ⟨g, off, rfl, cells_set ?_ i v hi⟩) (fun p => frozen_set ..)
  rcases h.one with h' | ⟨g', off', e, h'⟩
  · rw [h'] at hi; simp at hi
  · have e' := Option.some.inj e
    injection e' with e1 e2
    subst e1 e2
    exact h'
theorem wcells_set (A B : List Wr) (x : Wr) (n : Int) : (wcells (A ++ x :: B)).set (A.length * 2) (.int .i64 n) = wcells (A ++ ⟨n, x.b⟩ :: B) := by
  have hl := wcells_len A
  rw [wcells_append, wcells_append, List.set_append_right _ _ (by omega), hl]
  simp [wcells, Wr.cells]
set_option maxHeartbeats 4000000 in
theorem markWriteS_k (a : Option Addr) (cap : Nat) (ds : List Wr) (n : Nat) (w : World) (h : Own w ((a, wcells ds) :: ds.map Wr.seg)) (hl : ds.length ≤ 1048576) (ht : totW ds ≤ 16777216) (hn : n ≤ 1000000000) :
    Calls Tryz.prog 65 #[.slice a ds.length cap, .int .i64 (n : Int)] w fun e w' => e = .returned (.int .i64 ((n + ds.length + totW ds : Nat) : Int)) ∧ Own w' ((a, wcells (markW n ds)) :: (markW n ds).map Wr.seg) ∧ Turn (fp ((a, wcells ds) :: ds.map Wr.seg)) w w' := by
  have HO := hide h
  clear h
  go_enter Tryz.func65, Tryz.ntmps65
  go_wp2_with fail
  go_loopw [1, 5] (fun x y wr => ∃ k : Nat, k ≤ ds.length ∧ x = .int .i64 ((n + k + totW (ds.take k) : Nat) : Int) ∧ y = .int .i64 (k : Int) ∧ Hid (Own wr ((a, wcells (markW n (ds.take k) ++ ds.drop k)) :: (markW n (ds.take k) ++ ds.drop k).map Wr.seg)) ∧ Hid (fp ((a, wcells (markW n (ds.take k) ++ ds.drop k)) :: (markW n (ds.take k) ++ ds.drop k).map Wr.seg) = fp ((a, wcells ds) :: ds.map Wr.seg)) ∧ Hid (Turn (fp ((a, wcells ds) :: ds.map Wr.seg)) w wr)) (fun _ y _ => ds.length - (intOf y).toNat)
  case atStart => exact ⟨0, by omega, by simp [totW], rfl, by show Own _ _; simpa [markW] using HO.out, by show _ = _; simp [markW], Turn.refl _ _⟩
  case round =>
    obtain ⟨k, hk, rfl, rfl, HOr, HF, HT⟩ := hrel
    by_cases hlt : k < ds.length
    · have HTt := hide (totW_take ds k hlt)
      have hle : ds[k].b.L.length ≤ totW ds := totW_le (List.getElem_mem hlt)
      have hle2 : totW (ds.take k) ≤ totW ds := totW_take_le ds k
      have HDr : Hid (ds.drop k = ds[k] :: ds.drop (k + 1)) := List.drop_eq_getElem_cons hlt
      have HTk : Hid (markW n (ds.take (k + 1)) ++ ds.drop (k + 1) = markW n (ds.take k) ++ (Wr.mk ((n + k + totW (ds.take k) : Nat) : Int) (Bs.mk ds[k].b.a ds[k].b.cap (marksB (n + k + totW (ds.take k) + 1) ds[k].b.L.length))) :: ds.drop (k + 1)) := by
        show _ = _
        rw [List.take_succ_eq_append_getElem hlt, markW_append, List.append_assoc, show (ds.take k).length = k by simp; omega]; rfl
      have HLA : Hid ((markW n (ds.take k)).length = k) := by show _ = _; rw [markW_len]; simp; omega
      rw [HDr.out] at HOr HF
      generalize ds[k] = c at *
      obtain ⟨ki, ka, kc, kL⟩ := c
      dsimp only at HTt HTk hle
      generalize markW n (ds.take k) = A at *
      generalize hB : ds.drop (k + 1) = B at HTk HDr HOr HF
      have HBB := hide hB
      clear hB
      generalize totW (ds.take k) = t at *
      have hcl : Cells wr a (wcells (A ++ Wr.mk ki (Bs.mk ka kc kL) :: B)) := HOr.out.mem (a, wcells (A ++ Wr.mk ki (Bs.mk ka kc kL) :: B)) (by simp)
      have hkl : k < (A ++ Wr.mk ki (Bs.mk ka kc kL) :: B).length := by have := HLA.out; simp; omega
      obtain ⟨b, off, ea, c0, c1⟩ := cell2 hcl k hkl
      subst ea
      have he : (A ++ Wr.mk ki (Bs.mk ka kc kL) :: B)[k] = Wr.mk ki (Bs.mk ka kc kL) := by
        rw [List.getElem_append_right (by have := HLA.out; omega)]
        simp [HLA.out]
      rw [he] at c0 c1
      dsimp only [Bs.v] at c0 c1
      have HOo : Hid (Own wr [(some (⟨b, off, none⟩ : Addr), wcells (A ++ Wr.mk ki (Bs.mk ka kc kL) :: B))]) := Own.left (S := [_]) (T := (A ++ Wr.mk ki (Bs.mk ka kc kL) :: B).map Wr.seg) HOr.out
      have hne : wcells (A ++ Wr.mk ki (Bs.mk ka kc kL) :: B) ≠ [] := by
        intro e
        have := wcells_len (A ++ Wr.mk ki (Bs.mk ka kc kL) :: B)
        rw [e] at this
        simp at this
      have f0 : wr.frozen? ⟨b, off + k * 2, none⟩ = false := HOo.out.free b (by rw [fp_one, fpS_some hne]; simp) _
      have hset := wcells_set A B (Wr.mk ki (Bs.mk ka kc kL)) ((n + k + t : Nat) : Int)
      rw [HLA.out] at hset
      have HO1 : Hid (Own (wr.setCell ⟨b, off + k * 2, none⟩ (.int .i64 ((n + k + t : Nat) : Int))) [(some ⟨b, off, none⟩, wcells (A ++ Wr.mk ((n + k + t : Nat) : Int) (Bs.mk ka kc kL) :: B))]) := by
        have h1 := HOo.out.setCell (k * 2) (.int .i64 ((n + k + t : Nat) : Int)) (by rw [wcells_len]; have := HLA.out; simp; omega)
        rw [hset] at h1
        exact h1
      have hfs : fpS (some (⟨b, off, none⟩ : Addr), wcells (A ++ Wr.mk ((n + k + t : Nat) : Int) (Bs.mk ka kc kL) :: B)) = fpS (some (⟨b, off, none⟩ : Addr), wcells (A ++ Wr.mk ki (Bs.mk ka kc kL) :: B)) := fpS_len (by simp [wcells_len])
      have HOw : Hid (Own (wr.setCell ⟨b, off + k * 2, none⟩ (.int .i64 ((n + k + t : Nat) : Int))) ((some ⟨b, off, none⟩, wcells (A ++ Wr.mk ((n + k + t : Nat) : Int) (Bs.mk ka kc kL) :: B)) :: (A ++ Wr.mk ki (Bs.mk ka kc kL) :: B).map Wr.seg)) :=
        Own.upd (A := []) HOr.out HO1.out hfs (Turn.set (by rw [fp_one, fpS_some hne]; simp) _)
      have HTw : Hid (Turn (fp ((some (⟨b, off, none⟩ : Addr), wcells ds) :: ds.map Wr.seg)) w (wr.setCell ⟨b, off + k * 2, none⟩ (.int .i64 ((n + k + t : Nat) : Int)))) :=
        HT.out.trans' (Turn.set (by rw [← HF.out, fp_cons, fpS_some hne]; simp) _)
      have HFw : Hid (fp ((some (⟨b, off, none⟩ : Addr), wcells (A ++ Wr.mk ((n + k + t : Nat) : Int) (Bs.mk ka kc kL) :: B)) :: (A ++ Wr.mk ki (Bs.mk ka kc kL) :: B).map Wr.seg) = fp ((some (⟨b, off, none⟩ : Addr), wcells ds) :: ds.map Wr.seg)) := by
        show _ = _
        rw [← HF.out, fp_cons, fp_cons, hfs]
      have d1 : (wr.setCell ⟨b, off + k * 2, none⟩ (.int .i64 ((n + k + t : Nat) : Int))).cell? ⟨b, off + k * 2 + 1, none⟩ = some (.slice ka kL.length kc) := by
        rw [World.cell?_setCell_other _ _ _ _ (by simp)]; exact c1
      simp only [Int.natCast_add] at d1 HO1 HOw HTw HFw
      clear HOo HOr HF HT hcl he hset hfs HO1
      go_wp2_with fail
      generalize wr.setCell ⟨b, off + k * 2, none⟩ (.int .i64 ((n : Int) + (k : Int) + (t : Int))) = W1 at *
      have HD : Hid ((some (⟨b, off, none⟩ : Addr), wcells (A ++ Wr.mk ((n : Int) + (k : Int) + (t : Int)) (Bs.mk ka kc kL) :: B)) :: (A ++ Wr.mk ki (Bs.mk ka kc kL) :: B).map Wr.seg = ((some ⟨b, off, none⟩, wcells (A ++ Wr.mk ((n : Int) + (k : Int) + (t : Int)) (Bs.mk ka kc kL) :: B)) :: A.map Wr.seg) ++ (ka, bys kL) :: B.map Wr.seg) := by
        show _ = _
        rw [List.map_append, List.map_cons, List.cons_append]; rfl
      have HOk : Hid (Own W1 [(ka, bys kL)]) := by
        have h2 := HOw.out
        rw [HD.out] at h2
        exact Own.left (S := [_]) (T := B.map Wr.seg) h2.right
      have HMk' := markByteS_k ka kc kL (n + k + t + 1) W1 HOk.out (by omega) (by omega)
      simp only [Int.natCast_add, Int.cast_ofNat_Int] at HMk'
      refine HMk'.mono ?_
      clear HMk'
      rintro e w1 ⟨rfl, ho, htu⟩
      have HO1 := hide ho
      have HT1 := hide htu
      clear ho htu
      have HFS : Hid (fpS (ka, bys (marksB (n + k + t + 1) kL.length)) = fpS (ka, bys kL)) := fpS_len (by simp [bys_length, marksB_length])
      have HWE : Hid (wcells (A ++ Wr.mk ((n : Int) + (k : Int) + (t : Int)) (Bs.mk ka kc kL) :: B) = wcells (A ++ Wr.mk ((n + k + t : Nat) : Int) (Bs.mk ka kc (marksB (n + k + t + 1) kL.length)) :: B)) := by
        show _ = _
        rw [wcells_append, wcells_append]
        simp [wcells, Wr.cells, Bs.v, marksB_length]
      go_wp2_with fail
      go_roundw
      case rel =>
        have hD2 : (some (⟨b, off, none⟩ : Addr), wcells (markW n (ds.take (k + 1)) ++ ds.drop (k + 1))) :: (markW n (ds.take (k + 1)) ++ ds.drop (k + 1)).map Wr.seg = ((some ⟨b, off, none⟩, wcells (A ++ Wr.mk ((n : Int) + (k : Int) + (t : Int)) (Bs.mk ka kc kL) :: B)) :: A.map Wr.seg) ++ (ka, bys (marksB (n + k + t + 1) kL.length)) :: B.map Wr.seg := by
          rw [HBB.out, HTk.out, HWE.out, List.map_append, List.map_cons, List.cons_append]; rfl
        refine ⟨k + 1, by omega, by rw [HTt.out]; congr 1; omega, by go_num, ?_, ?_, ?_⟩
        · show Own _ _
          rw [hD2]
          have h2 := HOw.out
          rw [HD.out] at h2
          exact h2.upd HO1.out HFS.out HT1.out
        · show _ = _
          rw [hD2, fp_upd _ _ HFS.out, ← HD.out, HFw.out]
        · refine HTw.out.trans' (HT1.out.mono ?_)
          intro x hx
          rw [← HFw.out, HD.out, fp_append, fp_cons]
          exact List.mem_append_right _ (List.mem_append_left _ (by rw [fp_one] at hx; exact hx))
      case measure => simp [intOf]; omega
    · have e : k = ds.length := by omega
      subst e
      go_wp2_with fail
      go_ret
      have h2 := HOr.out
      rw [List.take_length, List.drop_length, List.append_nil] at h2
      exact ⟨by simp, h2, HT.out⟩

set_option maxHeartbeats 1000000 in
theorem heldWriteS_k (a : Option Addr) (cap : Nat) (ds : List Wr) (n : Nat) (w : World) (hc : Cells w a (wcells (markW n ds))) (hm : Mem w ((markW n ds).map Wr.seg)) (hl : ds.length ≤ 1048576) (ht : totW ds ≤ 16777216) (hn : n ≤ 1000000000) :
    Calls Tryz.prog 101 #[.slice a ds.length cap, .int .i64 (n : Int)] w fun e w' => e = .returned (.int .i64 ((n + ds.length + totW ds : Nat) : Int)) ∧ w' = w := by
  have HC := hide hc
  have HM := hide hm
  clear hc hm
  go_enter Tryz.func101, Tryz.ntmps101
  go_wp2_with fail
  go_loop [1, 5] (fun x y => ∃ k : Nat, k ≤ ds.length ∧ x = .int .i64 ((n + k + totW (ds.take k) : Nat) : Int) ∧ y = .int .i64 (k : Int)) (fun _ y => ds.length - (intOf y).toNat)
  case atStart => exact ⟨0, by omega, by simp [totW], rfl⟩
  case round =>
    obtain ⟨k, hk, rfl, rfl⟩ := hrel
    by_cases hlt : k < ds.length
    · have HTt := hide (totW_take ds k hlt)
      have hle : ds[k].b.L.length ≤ totW ds := totW_le (List.getElem_mem hlt)
      have hle2 : totW (ds.take k) ≤ totW ds := totW_take_le ds k
      obtain ⟨hlt', e⟩ := List.getElem?_eq_some_iff.1 (markW_at n ds k hlt)
      obtain ⟨b, off, ea, c0, c1⟩ := cell2 HC.out k hlt'
      have h := mem_segW HM.out k hlt'
      rw [e] at c0 c1 h
      have HH' := heldByteS_k ds[k].b.a ds[k].b.cap ds[k].b.L.length (n + k + totW (ds.take k) + 1) w h (by omega) (by omega)
      clear h e
      subst ea
      generalize ds[k] = c at *
      obtain ⟨ki, ka, kc, kL⟩ := c
      dsimp only [Bs.v] at c0 c1 HTt HH' hle
      rw [marksB_length] at c1
      generalize totW (ds.take k) = t at *
      simp only [Int.natCast_add, Int.cast_ofNat_Int] at HH' c0
      have HH := hide HH'
      clear HH'
      go_wp2_with fail
      refine (unhide HH).mono ?_
      rintro e w1 ⟨rfl, hw⟩
      obtain rfl := Eq.symm hw
      go_wp2_with fail
      go_round
      case rel => exact ⟨k + 1, by omega, by rw [HTt.out]; congr 1; omega, by go_num⟩
      case measure => simp [intOf]; omega
    · have e : k = ds.length := by omega
      subst e
      go_wp2_with fail
      go_ret
      exact ⟨by simp, rfl⟩
end Go.Proofs.YtkdnddckogbgaaaGreatDoor
namespace Go.Proofs.YtkdnddckogbgaaaGreatDoor
open Go.RowKit Go.Deep Go.ChangeShapes Go.WideShapes
set_option linter.unusedVariables false
set_option maxRecDepth 10000

abbrev dskV (ca : Option Addr) (cn cc : Nat) (da : Option Addr) (dn dc : Nat) : Value := .agg #[.slice ca cn cc, .slice da dn dc]
/-- The lists of a disk. -/
def dsk (ca : Option Addr) (cs : List Bs) (da : Option Addr) (ds : List Wr) : List Seg := ((ca, ccells cs) :: cs.map Bs.seg) ++ ((da, wcells ds) :: ds.map Wr.seg)
theorem dsk_mem {w : World} {ca : Option Addr} {cs : List Bs} {da : Option Addr} {ds : List Wr} (h : Mem w (dsk ca cs da ds)) : Cells w ca (ccells cs) ∧ Mem w (cs.map Bs.seg) ∧ Cells w da (wcells ds) ∧ Mem w (ds.map Wr.seg) := by
  obtain ⟨h1, h2⟩ := mem_append.1 h
  obtain ⟨h3, h4⟩ := mem_cons.1 h1
  obtain ⟨h5, h6⟩ := mem_cons.1 h2
  exact ⟨h3, h4, h5, h6⟩
set_option maxHeartbeats 1000000 in
theorem szDisk_k (ca : Option Addr) (cc : Nat) (cs : List Bs) (da : Option Addr) (dc : Nat) (ds : List Wr) (w : World) (hm : Mem w (dsk ca cs da ds)) (hc : ∀ b ∈ cs, b.L.length ≤ 9223372036854775807) (hd : ∀ x ∈ ds, x.b.L.length ≤ 9223372036854775807) (hl : cs.length ≤ 9223372036854775807) (hl' : ds.length ≤ 9223372036854775807) :
    Calls Tryz.prog 20 #[dskV ca cs.length cc da ds.length dc, .int .i64 1048576] w fun e w' => ∃ r : Int, e = .returned (.int .i64 r) ∧ (0 ≤ r → (cs.length : Int) + tot cs + ds.length + totW ds ≤ 1048576) ∧ Keeps w w' := by
  have HKA := hide (Keeps.alloc (Keeps.refl w) (.cells #[.slice ca cs.length cc, .slice da ds.length dc] 50))
  have HM := hide (hm.kept HKA.out)
  have HD := hide hd
  have HL := hide hl'
  have HS := hide (szCellS_k ca cc cs 1048576 _ (dsk_mem HM.out).1 hc (by decide) (by decide) hl)
  clear hm hc hd hl hl'
  go_enter Tryz.func20, Tryz.ntmps20
  go_wp2_with fail
  refine (unhide HS).mono ?_
  rintro e w1 ⟨r, rfl, hr, hk⟩
  have HR := hide hr
  replace HM := hide (HM.out.kept hk)
  have d0 := hk.cell (p := ⟨w.heap.size, 0, none⟩) (v := .slice ca cs.length cc) (by simp)
  have d1 := hk.cell (p := ⟨w.heap.size, 1, none⟩) (v := .slice da ds.length dc) (by simp)
  replace HKA := hide (HKA.out.trans hk)
  clear hk hr HS
  by_cases h0 : r < 0
  · go_wp2_with fail
    go_ret
    exact ⟨-1, rfl, fun h => absurd h (by decide), HKA.out⟩
  · have e := HR.out (by omega)
    have hr2 : r ≤ 1048576 := by omega
    have HE := hide e
    clear e
    have HS2 := hide (szWriteS_k da dc ds r w1 (dsk_mem HM.out).2.2.1 HD.out (by omega) hr2 HL.out)
    go_wp2_with fail
    refine (unhide HS2).mono ?_
    rintro e w2 ⟨r2, rfl, hr2, hk⟩
    have HR2 := hide hr2
    replace HKA := hide (HKA.out.trans hk)
    clear hk hr2 HS2
    by_cases h2 : r2 < 0
    · go_wp2_with fail
      go_ret
      exact ⟨-1, rfl, fun h => absurd h (by decide), HKA.out⟩
    · go_wp2_with fail
      go_ret
      refine ⟨r2, rfl, fun h => ?_, HKA.out⟩
      have e2 := HR2.out h
      have e1 := HE.out
      omega
set_option maxHeartbeats 1000000 in
theorem eqDisk_k (ca : Option Addr) (cc : Nat) (cs : List Bs) (da : Option Addr) (dc : Nat) (ds : List Wr) (ca' : Option Addr) (cc' : Nat) (cs' : List Bs) (da' : Option Addr) (dc' : Nat) (ds' : List Wr) (w : World)
    (e1 : cs'.map Bs.L = cs.map Bs.L) (e2 : ds'.map Wr.key = ds.map Wr.key) (hm : Mem w (dsk ca cs da ds)) (hm' : Mem w (dsk ca' cs' da' ds')) (hl : cs.length ≤ 1048576) (hl' : ds.length ≤ 1048576) (ht : ∀ b ∈ cs, b.L.length ≤ 16777216) (ht' : ∀ x ∈ ds, x.b.L.length ≤ 16777216) :
    Calls Tryz.prog 24 #[dskV ca cs.length cc da ds.length dc, dskV ca' cs'.length cc' da' ds'.length dc'] w fun e w' => e = .returned (.bool true) ∧ Keeps w w' := by
  have HKA := hide (Keeps.alloc (Keeps.alloc (Keeps.refl w) (.cells #[.slice ca cs.length cc, .slice da ds.length dc] 26)) (.cells #[.slice ca' cs'.length cc', .slice da' ds'.length dc'] 26))
  have HD : Hid (∀ w', Keeps ((w.alloc (.cells #[.slice ca cs.length cc, .slice da ds.length dc] 26)).alloc (.cells #[.slice ca' cs'.length cc', .slice da' ds'.length dc'] 26)) w' → w'.cell? ⟨w.heap.size, 1, none⟩ = some (.slice da ds.length dc) ∧ w'.cell? ⟨w.heap.size + 1, 1, none⟩ = some (.slice da' ds'.length dc')) :=
    fun w' hk => ⟨hk.cell (by simp), hk.cell (by simp)⟩
  have HM := hide (hm.kept HKA.out)
  have HM' := hide (hm'.kept HKA.out)
  have HQ := hide (eqCellS_k ca ca' cc cc' cs cs' _ e1 (dsk_mem HM.out).1 (dsk_mem HM.out).2.1 (dsk_mem HM'.out).1 (dsk_mem HM'.out).2.1 hl ht)
  have HQ2 := hide (fun w1 (hm : Mem w1 (dsk ca cs da ds)) (hm' : Mem w1 (dsk ca' cs' da' ds')) => eqWriteS_k da da' dc dc' ds ds' w1 e2 (dsk_mem hm).2.2.1 (dsk_mem hm).2.2.2 (dsk_mem hm').2.2.1 (dsk_mem hm').2.2.2 hl' ht')
  clear hm hm' e1 e2 hl hl' ht ht'
  go_enter Tryz.func24, Tryz.ntmps24
  go_wp2_with fail
  refine (unhide HQ).mono ?_
  rintro x w1 ⟨rfl, hk⟩
  obtain ⟨d0, d1⟩ := HD.out _ hk
  replace HQ2 := hide (HQ2.out w1 (HM.out.kept hk) (HM'.out.kept hk))
  replace HKA := hide (HKA.out.trans hk)
  clear hk HQ HD
  go_wp2_with fail
  refine (unhide HQ2).mono ?_
  rintro x w2 ⟨rfl, hk⟩
  replace HKA := hide (HKA.out.trans hk)
  clear hk
  go_wp2_with fail
  go_ret
  exact ⟨rfl, HKA.out⟩
theorem fp_segC : ∀ (n : Nat) (cs : List Bs), fp ((markC n cs).map Bs.seg) = fp (cs.map Bs.seg)
  | _, [] => rfl
  | n, b :: t => by
    simp only [markC, List.map_cons, fp_cons, fp_segC (n + b.L.length) t]
    congr 1
    exact fpS_len (by simp [bys_length, marksB_length])
theorem fp_markC (n : Nat) (ca : Option Addr) (cs : List Bs) : fp ((ca, ccells cs) :: (markC n cs).map Bs.seg) = fp ((ca, ccells cs) :: cs.map Bs.seg) := by
  rw [fp_cons, fp_cons, fp_segC]
theorem fp_segW : ∀ (n : Nat) (ds : List Wr), fp ((markW n ds).map Wr.seg) = fp (ds.map Wr.seg)
  | _, [] => rfl
  | n, b :: t => by
    simp only [markW, List.map_cons, fp_cons, fp_segW (n + 1 + b.b.L.length) t]
    congr 1
    exact fpS_len (by simp [bys_length, marksB_length])
theorem fp_markW (n : Nat) (da : Option Addr) (ds : List Wr) : fp ((da, wcells (markW n ds)) :: (markW n ds).map Wr.seg) = fp ((da, wcells ds) :: ds.map Wr.seg) := by
  rw [fp_cons, fp_cons, fp_segW]
  congr 1
  exact fpS_len (by simp [wcells_len, markW_len])
set_option maxHeartbeats 1000000 in
theorem markDisk_k (ca : Option Addr) (cc : Nat) (cs : List Bs) (da : Option Addr) (dc : Nat) (ds : List Wr) (n : Nat) (w : World) (h : Own w (dsk ca cs da ds)) (hl : cs.length ≤ 1048576) (hl' : ds.length ≤ 1048576) (ht : tot cs ≤ 16777216) (ht' : totW ds ≤ 16777216) (hn : n ≤ 100000000) :
    Calls Tryz.prog 25 #[dskV ca cs.length cc da ds.length dc, .int .i64 (n : Int)] w fun e w' => e = .returned (.int .i64 ((n + tot cs + ds.length + totW ds : Nat) : Int)) ∧ Own w' (dsk ca (markC n cs) da (markW (n + tot cs) ds)) ∧ Turn (fp (dsk ca cs da ds)) w w' := by
  have HKA := hide (Keeps.alloc (Keeps.refl w) (.cells #[.slice ca cs.length cc, .slice da ds.length dc] 26))
  have HO := hide (h.kept HKA.out)
  have HX : Hid (∀ b ∈ fp (dsk ca cs da ds), b < w.heap.size) := h.mem.lt
  have HM := hide (markCellS_k ca cc cs n _ (Own.left HO.out) hl ht (by omega))
  clear h
  go_enter Tryz.func25, Tryz.ntmps25
  go_wp2_with fail
  have hcell : (w.alloc (.cells #[.slice ca cs.length cc, .slice da ds.length dc] 26)).cell? ⟨w.heap.size, 1, none⟩ = some (.slice da ds.length dc) := by simp
  generalize w.alloc (.cells #[.slice ca cs.length cc, .slice da ds.length dc] 26) = W at *
  refine (unhide HM).mono ?_
  rintro e w1 ⟨rfl, ho, htu⟩
  have d1 := htu.cell (p := ⟨w.heap.size, 1, none⟩) (fun hx => by have := HX.out w.heap.size (by unfold dsk; rw [fp_append]; exact List.mem_append_left _ hx); omega) hcell
  have hr : Own w1 ((da, wcells ds) :: ds.map Wr.seg) := (Own.right HO.out).turn htu (fun b hb hb' => HO.out.apart b hb' hb)
  have HA : Hid (∀ b ∈ fp ((ca, ccells cs) :: cs.map Bs.seg), b ∉ fp ((da, wcells ds) :: ds.map Wr.seg)) := HO.out.apart
  have HO1 := hide ho
  have HT := hide ((Turn.of_keeps HKA.out (fp (dsk ca cs da ds))).trans' (htu.mono (fun x hx => by unfold dsk; rw [fp_append]; exact List.mem_append_left _ hx)))
  have hm2 := markWriteS_k da dc ds (n + tot cs) w1 hr hl' ht' (by omega)
  simp only [Int.natCast_add] at hm2
  have HM2 := hide hm2
  clear ho htu hr HO hm2 hcell
  go_wp2_with fail
  refine (unhide HM2).mono ?_
  rintro e w2 ⟨rfl, ho, htu⟩
  have HO2 := hide ho
  have hfC : fp ((ca, ccells cs) :: (markC n cs).map Bs.seg) = fp ((ca, ccells cs) :: cs.map Bs.seg) := fp_markC n ca cs
  have HO3 : Hid (Own w2 ((ca, ccells cs) :: (markC n cs).map Bs.seg)) := HO1.out.turn htu (fun b hb => HA.out b (by rw [hfC] at hb; exact hb))
  have HT2 := hide (HT.out.trans' (htu.mono (fun x hx => by unfold dsk; rw [fp_append]; exact List.mem_append_right _ hx)))
  clear ho htu
  go_wp2_with fail
  go_ret
  refine ⟨by simp, ?_, HT2.out⟩
  unfold dsk
  rw [markC_cells]
  refine HO3.out.append HO2.out (fun b hb hb' => ?_)
  rw [hfC] at hb
  rw [fp_markW] at hb'
  exact HA.out b hb hb'
set_option maxHeartbeats 1000000 in
theorem heldDisk_k (ca : Option Addr) (cc : Nat) (cs : List Bs) (da : Option Addr) (dc : Nat) (ds : List Wr) (n : Nat) (w : World) (h : Mem w (dsk ca (markC n cs) da (markW (n + tot cs) ds))) (hl : cs.length ≤ 1048576) (hl' : ds.length ≤ 1048576) (ht : tot cs ≤ 16777216) (ht' : totW ds ≤ 16777216) (hn : n ≤ 100000000) :
    Calls Tryz.prog 66 #[dskV ca cs.length cc da ds.length dc, .int .i64 (n : Int)] w fun e w' => e = .returned (.int .i64 ((n + tot cs + ds.length + totW ds : Nat) : Int)) ∧ Keeps w w' := by
  have HKA := hide (Keeps.alloc (Keeps.refl w) (.cells #[.slice ca cs.length cc, .slice da ds.length dc] 26))
  obtain ⟨h1, h2, h3, h4⟩ := dsk_mem (h.kept HKA.out)
  rw [markC_cells] at h1
  have HH := hide (heldCellS_k ca cc cs n _ h1 h2 hl ht (by omega))
  have hh2 := heldWriteS_k da dc ds (n + tot cs) _ h3 h4 hl' ht' (by omega)
  simp only [Int.natCast_add] at hh2
  have HH2 := hide hh2
  clear h h1 h2 h3 h4 hh2
  go_enter Tryz.func66, Tryz.ntmps66
  go_wp2_with fail
  refine (unhide HH).mono ?_
  rintro e w1 ⟨rfl, hw⟩
  subst hw
  go_wp2_with fail
  refine (unhide HH2).mono ?_
  rintro e w1 ⟨rfl, hw⟩
  subst hw
  go_wp2_with fail
  go_ret
  exact ⟨by simp, HKA.out⟩
set_option maxHeartbeats 2000000 in
theorem toDisk_k (ca : Option Addr) (cc : Nat) (cs : List Bs) (da : Option Addr) (dc : Nat) (ds : List Wr) (w : World) (hm : Mem w (dsk ca cs da ds)) (hl : cs.length ≤ 1048576) (hl' : ds.length ≤ 1048576) (ht : ∀ b ∈ cs, b.L.length ≤ 1048576) (ht' : ∀ x ∈ ds, x.b.L.length ≤ 1048576) :
    Calls Tryz.prog 21 #[dskV ca cs.length cc da ds.length dc] w fun e w' => ∃ (g1 g2 : Nat) (nb : List Bs) (nw : List Wr), e = .returned (dskV (some ⟨g1, 0, none⟩) cs.length cs.length (some ⟨g2, 0, none⟩) ds.length ds.length) ∧ nb.map Bs.L = cs.map Bs.L ∧ nw.map Wr.key = ds.map Wr.key ∧
      (∀ b ∈ nb, b.fit) ∧ (∀ x ∈ nw, x.b.fit) ∧ Born w w' (dsk (some ⟨g1, 0, none⟩) nb (some ⟨g2, 0, none⟩) nw) ∧ Keeps w w' := by
  have HKA := hide (Keeps.alloc (Keeps.alloc (Keeps.alloc (Keeps.refl w) (.cells #[.slice ca cs.length cc, .slice da ds.length dc] 50)) (.cells #[.slice none 0 0, .slice none 0 0] 26)) (.cells #[.slice none 0 0, .slice none 0 0] 26))
  have HZ : Hid ((((w.alloc (.cells #[.slice ca cs.length cc, .slice da ds.length dc] 50)).alloc (.cells #[.slice none 0 0, .slice none 0 0] 26)).alloc (.cells #[.slice none 0 0, .slice none 0 0] 26)).heap.size = w.heap.size + 3) := by show _ = _; rw [World.size_alloc, World.size_alloc, World.size_alloc]
  have HX : Hid (∀ b ∈ fp (dsk ca cs da ds), b < w.heap.size) := hm.lt
  have HM := hide (hm.kept HKA.out)
  have HT2 : Hid (∀ w', Mem w' (dsk ca cs da ds) → Calls Tryz.prog 60 #[.slice da ds.length dc] w' fun e w'' => ∃ (g : Nat) (nb : List Wr), e = .returned (.slice (some ⟨g, 0, none⟩) ds.length ds.length) ∧ nb.map Wr.key = ds.map Wr.key ∧ (∀ x ∈ nb, x.b.fit) ∧ Born w' w'' ((some ⟨g, 0, none⟩, wcells nb) :: nb.map Wr.seg) ∧ Keeps w' w'') :=
    fun w' hm => toWriteS_k da dc ds w' (dsk_mem hm).2.2.1 (dsk_mem hm).2.2.2 hl' ht'
  have HT := hide (toCellS_k ca cc cs _ (dsk_mem HM.out).1 (dsk_mem HM.out).2.1 hl ht)
  have HR1 := hide ((row_new (w.alloc (.cells #[.slice ca cs.length cc, .slice da ds.length dc] 50)) #[.slice none 0 0, .slice none 0 0] 26).alloc (.cells #[.slice none 0 0, .slice none 0 0] 26))
  have HR2 := hide (row_new ((w.alloc (.cells #[.slice ca cs.length cc, .slice da ds.length dc] 50)).alloc (.cells #[.slice none 0 0, .slice none 0 0] 26)) #[.slice none 0 0, .slice none 0 0] 26)
  have HA : Hid (((w.alloc (.cells #[.slice ca cs.length cc, .slice da ds.length dc] 50)).alloc (.cells #[.slice none 0 0, .slice none 0 0] 26)).heap.size = w.heap.size + 1 + 1 ∧ (w.alloc (.cells #[.slice ca cs.length cc, .slice da ds.length dc] 50)).heap.size = w.heap.size + 1) := by show _ ∧ _; exact ⟨by simp, by simp⟩
  have HC1 : Hid ((((w.alloc (.cells #[.slice ca cs.length cc, .slice da ds.length dc] 50)).alloc (.cells #[.slice none 0 0, .slice none 0 0] 26)).alloc (.cells #[.slice none 0 0, .slice none 0 0] 26)).cell? ⟨w.heap.size, 1, none⟩ = some (.slice da ds.length dc)) := Keeps.cell (w := w.alloc (.cells #[.slice ca cs.length cc, .slice da ds.length dc] 50)) (Keeps.alloc (Keeps.alloc (Keeps.refl _) _) _) (by simp)
  rw [HA.out.1] at HR2
  rw [HA.out.2] at HR1
  clear hm hl hl' ht ht' HA
  go_enter Tryz.func21, Tryz.ntmps21
  go_wp2_with fail
  generalize ((w.alloc (.cells #[.slice ca cs.length cc, .slice da ds.length dc] 50)).alloc (.cells #[.slice none 0 0, .slice none 0 0] 26)).alloc (.cells #[.slice none 0 0, .slice none 0 0] 26) = W0 at *
  refine (unhide HT).mono ?_
  rintro e w1 ⟨g1, nb, rfl, hd1, hn1, hb1, hk1⟩
  have HK1 := hide hk1
  have HB1 := hide hb1
  have HE1 := hide hd1
  have HN1 := hide hn1
  replace HR1 := hide (hk1.row HR1.out)
  replace HR2 := hide (hk1.row HR2.out)
  have c1 := hk1.cell HC1.out
  have r0 := HR2.out.cell (i := 0) (by decide)
  have r1 := HR2.out.cell (i := 1) (by decide)
  have f0 := HR2.out.frozen 0
  have f1 := HR2.out.frozen 1
  have hz : w.heap.size + 3 ≤ w1.heap.size := by have := hk1.size; have := HZ.out; omega
  simp only [Array.getD] at r0 r1
  simp at r0 r1
  clear hk1 hb1 hd1 hn1 HT
  go_wp2_with fail
  have HM1 : Hid (Mem (w1.setCell ⟨w.heap.size + 1 + 1, 0, none⟩ (.slice (some ⟨g1, 0, none⟩) cs.length cs.length)) (dsk ca cs da ds)) :=
    (HM.out.kept HK1.out).turn (Turn.set (fs := [w.heap.size + 1 + 1]) (by simp) _) (fun b hb hx => by have := HX.out b hb; simp at hx; omega)
  refine (HT2.out _ HM1.out).mono ?_
  rintro e w2 ⟨g2, nw, rfl, hd2, hn2, hb2, hk2⟩
  have HB2 := hide hb2
  have HE2 := hide hd2
  have HN2 := hide hn2
  have HT1 : Hid (Turn [w.heap.size + 1 + 1] w1 (w1.setCell ⟨w.heap.size + 1 + 1, 0, none⟩ (.slice (some ⟨g1, 0, none⟩) cs.length cs.length))) := Turn.set (by simp) _
  have HBB : Hid (Born W0 w2 ((some ⟨g1, 0, none⟩, ccells nb) :: nb.map Bs.seg)) :=
    (HB1.out.turn HT1.out (fun b hb hx => by have := HB1.out.new b hb; have := HZ.out; simp at hx; omega)).kept hk2
  have HAP : Hid (∀ b ∈ fp ((some (⟨g1, 0, none⟩ : Addr), ccells nb) :: nb.map Bs.seg), b ∉ fp ((some (⟨g2, 0, none⟩ : Addr), wcells nw) :: nw.map Wr.seg)) :=
    hb2.apart (HB1.out.turn HT1.out (fun b hb hx => by have := HB1.out.new b hb; have := HZ.out; simp at hx; omega)).mem
  have q1 := hk2.row (HR1.out.setOther (a := ⟨w.heap.size + 1 + 1, 0, none⟩) (by simp) (.slice (some ⟨g1, 0, none⟩) cs.length cs.length))
  have q2 := hk2.row (HR2.out.set 0 (.slice (some ⟨g1, 0, none⟩) cs.length cs.length))
  have s0 := q2.cell (i := 0) (by decide)
  have s1 := q2.cell (i := 1) (by decide)
  have t0 := q1.cell (i := 0) (by decide)
  have t1 := q1.cell (i := 1) (by decide)
  have u0 := q2.frozen 0
  have u1 := q2.frozen 1
  have v0 := q1.frozen 0
  have v1 := q1.frozen 1
  simp at s0 s1 t0 t1
  have HQ1 := hide q1
  have HSz : Hid (w1.heap.size ≤ (w1.setCell ⟨w.heap.size + 1 + 1, 0, none⟩ (.slice (some ⟨g1, 0, none⟩) cs.length cs.length)).heap.size) := HT1.out.size
  have HKK : Hid (Keeps w w2) := HT1.out.keeps (HKA.out.trans HK1.out) (fun b hb => by simp at hb; omega) |>.trans hk2
  clear hb2 hd2 hn2 hk2 q1 q2 HR1 HR2 HM1 HM r0 r1 f0 f1 c1 HT2 HC1
  generalize w1.setCell ⟨w.heap.size + 1 + 1, 0, none⟩ (.slice (some ⟨g1, 0, none⟩) cs.length cs.length) = W1 at *
  go_wp2_with fail
  have r3 := ((HQ1.out.setOther (a := ⟨w.heap.size + 1 + 1, 1, none⟩) (by simp) (.slice (some ⟨g2, 0, none⟩) ds.length ds.length)).set 0 (.slice (some ⟨g1, 0, none⟩) cs.length cs.length)).set 1 (.slice (some ⟨g2, 0, none⟩) ds.length ds.length)
  have c0 := r3.cell (i := 0) (by decide)
  have c1 := r3.cell (i := 1) (by decide)
  simp at c0 c1
  have HS : Hid (Turn [w.heap.size + 1, w.heap.size + 1 + 1] w2 (((w2.setCell ⟨w.heap.size + 1 + 1, 1, none⟩ (.slice (some ⟨g2, 0, none⟩) ds.length ds.length)).setCell ⟨w.heap.size + 1, 0, none⟩ (.slice (some ⟨g1, 0, none⟩) cs.length cs.length)).setCell ⟨w.heap.size + 1, 1, none⟩ (.slice (some ⟨g2, 0, none⟩) ds.length ds.length))) :=
    (((Turn.set (by simp) _).trans' (Turn.set (by simp) _)).trans' (Turn.set (by simp) _))
  clear r3 HQ1 s0 s1 t0 t1 u0 u1 v0 v1
  revert c0 c1 HS
  generalize World.setCell _ _ _ = W
  intro c0 c1 HS
  refine bodyPost_ret (v := dskV (some ⟨g1, 0, none⟩) cs.length cs.length (some ⟨g2, 0, none⟩) ds.length ds.length) ?_ rfl ⟨g1, g2, nb, nw, rfl, HE1.out, HE2.out, HN1.out, HN2.out, ⟨?_, ?_⟩, ?_⟩
  · simp [results, Tryz.results21, go_sem, c0, c1]
  · refine (HBB.out.toOwn.turn HS.out ?_).append (HB2.out.toOwn.turn HS.out ?_) HAP.out
    · intro b hb hx
      have := HBB.out.new b hb
      have := HZ.out
      simp at hx
      omega
    · intro b hb hx
      have := HB2.out.new b hb
      have := HSz.out
      simp at hx
      omega
  · intro b hb
    unfold dsk at hb
    rw [fp_append] at hb
    rcases List.mem_append.1 hb with hb | hb
    · have := HBB.out.new b hb
      have := HZ.out
      omega
    · have := HB2.out.new b hb
      have := HSz.out
      omega
  · refine HS.out.keeps HKK.out ?_
    intro b hb
    simp at hb
    omega
section
variable {H : Type} {enc : TypeId × Value → H} {W : World} {n : Nat} {cs : List Value} {y : DataW H × List MemPlace} {base : Nat} {sp : Nat → Bool} {hd : Bool} {v : Value} {d : DataW H} {ps : List MemPlace}
theorem open_cell (h : DataW.trod enc Tryz.prog W base sp hd n 126 cs = some y) : ∃ b : Bs, cs = b.cells ∧ Cells W b.a (bys b.L) ∧ b.ok := by
  have hs : Tryz.prog.cellsOf 126 = 1 := by kernel_rfl
  obtain ⟨y0, m, _, hl, h0⟩ := trod_struct1 Tryz.underlying126 h
  rw [hs] at hl
  match cs, hl with
  | [v0], _ =>
    simp [cellsBytes] at h0
    obtain ⟨b, e, hc, ho⟩ := open_bytes h0
    exact ⟨b, by rw [e]; rfl, hc, ho⟩
theorem open_write (h : DataW.trod enc Tryz.prog W base sp hd n 128 cs = some y) : ∃ x : Wr, cs = x.cells ∧ Cells W x.b.a (bys x.b.L) ∧ x.b.ok ∧ (Lit.int .i64 x.i).wf = true := by
  have hs : Tryz.prog.cellsOf 128 = 2 := by kernel_rfl
  obtain ⟨y0, y1, m, _, hl, h0, h1⟩ := trod_struct2 Tryz.underlying128 h
  rw [hs] at hl
  match cs, hl with
  | [v0, v1], _ =>
    simp [cellsBytes, cellsInt] at h0 h1
    obtain ⟨i, e0, _, hw⟩ := DataW.trod_int Tryz.underlying3 h0
    obtain ⟨b, e, hc, ho⟩ := open_bytes h1
    simp at e0
    exact ⟨⟨i, b⟩, by rw [e0, e]; rfl, hc, ho, hw⟩
theorem cells_of : ∀ M : List (List Value), (∀ c ∈ M, c.length = 1 ∧ ∃ b : Bs, c = b.cells ∧ Cells W b.a (bys b.L) ∧ b.ok) → ∃ cs : List Bs, cs.length = M.length ∧ M.flatten = ccells cs ∧ Mem W (cs.map Bs.seg) ∧ ∀ b ∈ cs, b.ok
  | [], _ => ⟨[], rfl, rfl, Mem.nil W, fun b hb => absurd hb (by simp)⟩
  | c :: M, h => by
    obtain ⟨cs, hl, hf, hm, ho⟩ := cells_of M (fun c hc => h c (List.mem_cons_of_mem _ hc))
    obtain ⟨_, b, rfl, hc, hb⟩ := h c (List.mem_cons_self ..)
    refine ⟨b :: cs, by simp [hl], by simp [ccells, hf], mem_cons.2 ⟨hc, hm⟩, ?_⟩
    intro x hx
    rcases List.mem_cons.1 hx with rfl | hx
    · exact hb
    · exact ho x hx
theorem writes_of : ∀ M : List (List Value), (∀ c ∈ M, c.length = 2 ∧ ∃ x : Wr, c = x.cells ∧ Cells W x.b.a (bys x.b.L) ∧ x.b.ok ∧ (Lit.int .i64 x.i).wf = true) → ∃ ds : List Wr, ds.length = M.length ∧ M.flatten = wcells ds ∧ Mem W (ds.map Wr.seg) ∧ ∀ x ∈ ds, x.b.ok ∧ (Lit.int .i64 x.i).wf = true
  | [], _ => ⟨[], rfl, rfl, Mem.nil W, fun b hb => absurd hb (by simp)⟩
  | c :: M, h => by
    obtain ⟨ds, hl, hf, hm, ho⟩ := writes_of M (fun c hc => h c (List.mem_cons_of_mem _ hc))
    obtain ⟨_, b, rfl, hc, hb⟩ := h c (List.mem_cons_self ..)
    refine ⟨b :: ds, by simp [hl], by simp [wcells, hf], mem_cons.2 ⟨hc, hm⟩, ?_⟩
    intro x hx
    rcases List.mem_cons.1 hx with rfl | hx
    · exact hb
    · exact ho x hx
theorem disk_row {b0 : Nat} (hv : Value.okWide Tryz.prog W .any b0 50 v) (h : DataW.Trod enc Tryz.prog W base sp hd 50 v d ps) :
    ∃ (ca : Option Addr) (cc : Nat) (cs : List Bs) (da : Option Addr) (dc : Nat) (ds : List Wr), v = dskV ca cs.length cc da ds.length dc ∧ Mem W (dsk ca cs da ds) ∧ Dk.ok ⟨ca, cc, cs, da, dc, ds⟩ := by
  have hs : Tryz.prog.cellsOf 50 = 2 := by kernel_rfl
  have h1 : Tryz.prog.cellsOf 47 = 1 := by kernel_rfl
  have h2 : Tryz.prog.cellsOf 48 = 1 := by kernel_rfl
  have k1 : Tryz.prog.cellsOf 126 = 1 := by kernel_rfl
  have k2 : Tryz.prog.cellsOf 128 = 2 := by kernel_rfl
  obtain ⟨cs, rfl, hz⟩ := okWide_struct Tryz.underlying50 hv
  obtain ⟨m, h⟩ := h
  obtain ⟨y0, y1, n, _, hl, h0, h3⟩ := trod_struct2 Tryz.underlying50 h
  rw [hs] at hz
  match cs, hz with
  | ⟨[v0, v1]⟩, _ =>
    simp [Value.cells, h1, h2] at h0 h3
    obtain ⟨ca, cc, M, e0, hq, hc, hn, hle⟩ := open_cells' Tryz.underlying47 k1 (by decide) h0 (fun c => ∃ b : Bs, c = b.cells ∧ Cells W b.a (bys b.L) ∧ b.ok) (fun _ _ _ h => open_cell h)
    obtain ⟨cs, el, ef, hm, ho⟩ := cells_of M hq
    obtain ⟨da, dc, M', e1, hq', hc', hn', hle'⟩ := open_cells' Tryz.underlying48 k2 (by decide) h3 (fun c => ∃ x : Wr, c = x.cells ∧ Cells W x.b.a (bys x.b.L) ∧ x.b.ok ∧ (Lit.int .i64 x.i).wf = true) (fun _ _ _ h => open_write h)
    obtain ⟨ds, el', ef', hm', ho'⟩ := writes_of M' hq'
    rw [ef] at hc
    rw [ef'] at hc'
    exact ⟨ca, cc, cs, da, dc, ds, by rw [e0, e1, el, el'], mem_append.2 ⟨mem_cons.2 ⟨hc, hm⟩, mem_cons.2 ⟨hc', hm'⟩⟩, hn.1, hn'.1, by show cs.length ≤ _; rw [el]; exact hle, by show ds.length ≤ _; rw [el']; exact hle', ho, ho'⟩
end
end Go.Proofs.YtkdnddckogbgaaaGreatDoor
