/- A sector is read as it was written. -/
import Derived.Test.YtecjjkgdgmjgmaaDoorSRW
import Derived.Test.YtecjjkgdgmjgmaaDoorStr
import Derived.Test.YtecjjkgdgmjgmaaDoorDrS
namespace Go.Proofs.YtecjjkgdgmjgmaaDoor
open Go.RowKit Go.Deep
set_option linter.unusedVariables false
set_option linter.unusedSimpArgs false
set_option maxRecDepth 100000
theorem numL_digs : ∀ (s n : Nat), n < 256 ^ s → numL (digs n s) = n
  | 0, n, h => by
    have : n = 0 := by simpa using h
    subst this
    rfl
  | s + 1, n, h => by
    rw [digs_snoc, numL_snoc, numL_digs s (n / 256) (by rw [Nat.pow_succ] at h; omega)]
    have e : (UInt8.ofNat n).toNat = n % 256 := by simp
    rw [e]
    omega
theorem cut_at {M A X C : List UInt8} {p s : Nat} (h : M = A ++ (X ++ C)) (hp : A.length = p) (hs : X.length = s) : cut M p s = X := by
  subst h hp hs
  simp [cut]
theorem sec_back {q e : Int} {L : List UInt8} (h : secB q e L.length = true) :
    srB (secR q e L) = true ∧ srQ (secR q e L) = q ∧ srE (secR q e L) = e ∧ srL (secR q e L) = L ∧ (secR q e L).length = 128 := by
  obtain ⟨q0, q1, e0, e1, hl⟩ := secB_true h
  obtain ⟨q, rfl⟩ := Int.eq_ofNat_of_zero_le q0
  obtain ⟨e, rfl⟩ := Int.eq_ofNat_of_zero_le (show 0 ≤ e by omega)
  have hM : secR q e L = secL q e L := by unfold secR; rw [if_pos h]; rfl
  have hlen := secL_length (q := q) (e := e) hl
  have c0 : cut (secL q e L) 0 1 = [74] := cut_at (A := []) (C := digs q 3 ++ digs e 3 ++ digs L.length 1 ++ L ++ List.replicate (114 - L.length) 0 ++ digs q 3 ++ digs e 3) (by simp [secL, List.append_assoc]) rfl rfl
  have c1 : cut (secL q e L) 1 3 = digs q 3 := cut_at (A := [74]) (C := digs e 3 ++ digs L.length 1 ++ L ++ List.replicate (114 - L.length) 0 ++ digs q 3 ++ digs e 3) (by simp [secL, List.append_assoc]) rfl (digs_length _ _)
  have c4 : cut (secL q e L) 4 3 = digs e 3 := cut_at (A := [74] ++ digs q 3) (C := digs L.length 1 ++ L ++ List.replicate (114 - L.length) 0 ++ digs q 3 ++ digs e 3) (by simp [secL, List.append_assoc]) (by simp [digs_length]) (digs_length _ _)
  have c7 : cut (secL q e L) 7 1 = digs L.length 1 := cut_at (A := [74] ++ digs q 3 ++ digs e 3) (C := L ++ List.replicate (114 - L.length) 0 ++ digs q 3 ++ digs e 3) (by simp [secL, List.append_assoc]) (by simp [digs_length]) (digs_length _ _)
  have c8 : cut (secL q e L) 8 L.length = L := cut_at (A := [74] ++ digs q 3 ++ digs e 3 ++ digs L.length 1) (C := List.replicate (114 - L.length) 0 ++ digs q 3 ++ digs e 3) (by simp [secL, List.append_assoc]) (by simp [digs_length]) rfl
  have cR : cut (secL q e L) (8 + L.length) (114 - L.length) = List.replicate (114 - L.length) 0 := cut_at (A := [74] ++ digs q 3 ++ digs e 3 ++ digs L.length 1 ++ L) (C := digs q 3 ++ digs e 3) (by simp [secL, List.append_assoc]) (by simp [digs_length]; omega) (by simp)
  have c122 : cut (secL q e L) 122 3 = digs q 3 := cut_at (A := [74] ++ digs q 3 ++ digs e 3 ++ digs L.length 1 ++ L ++ List.replicate (114 - L.length) 0) (C := digs e 3) (by simp [secL, List.append_assoc]) (by simp [digs_length]; omega) (digs_length _ _)
  have c125 : cut (secL q e L) 125 3 = digs e 3 := cut_at (A := [74] ++ digs q 3 ++ digs e 3 ++ digs L.length 1 ++ L ++ List.replicate (114 - L.length) 0 ++ digs q 3) (C := []) (by simp [secL, List.append_assoc]) (by simp [digs_length]; omega) (digs_length _ _)
  have nq : numL (digs q 3) = q := numL_digs 3 q (by omega)
  have ne : numL (digs e 3) = e := numL_digs 3 e (by omega)
  have nl : numL (digs L.length 1) = L.length := numL_digs 1 L.length (by omega)
  have hB : srB (secL q e L) = true := by
    unfold srB
    rw [c0, c1, c4, c7, nl, cR, c122, c125, nq, ne, h, hlen]
    simp [numL_one, hl]
  rw [hM]
  unfold srQ srE srL
  rw [if_pos hB, if_pos hB, if_pos hB, c1, c4, c7, nl, c8, nq, ne]
  exact ⟨hB, rfl, rfl, rfl, hlen⟩
theorem str_nil (n cap : Nat) (w : World) : (convert 22 9 (.slice none n cap)).run Tryd.prog w = .ok (.string (strL [])) w := by
  rw [run_convert_bytes_string w 22 9 5 _ _ _ underBytes Tryd.underlying5 Tryd.underlying9]
  rfl
/-- Bytes in memory as a text. -/
theorem str_own {w : World} {p : Option Addr} {l c : Nat} {L : List UInt8} (hl : L.length = l) (hc : Cells w p (bys L)) : (convert 22 9 (.slice p l c)).run Tryd.prog w = .ok (.string (strL L)) w := by
  subst hl
  rcases hc with h | ⟨b, off, rfl, h⟩
  · have h0 := bys_nil.1 h
    subst h0
    cases p with
    | none => exact str_nil _ _ _
    | some x =>
      rw [run_convert_bytes_string w 22 9 5 _ _ _ underBytes Tryd.underlying5 Tryd.underlying9]
      have h := run_loadCells_list (P := Tryd.prog) (w := w) x [] (fun j v hj => by simp at hj)
      exact run_bytesToString w x 0 c [] h
  · exact str_of _ _ L w b off rfl (.inr ⟨b, off, rfl, h⟩)
set_option maxHeartbeats 4000000 in
theorem secread_nil (w : World) (u : TypeId) (pv : Value) (hv : w.cell? ⟨1, 0, none⟩ = some (.iface u pv)) :
    Calls Tryd.prog 7 #[.slice none 0 0] w (SrPost w []) := by
  have hmf : ∀ (fn : Fn) (first cap : Array Value) (w : World), (Instr.makeFunc fn first cap).run Tryd.prog w = .ok (.func fn first cap) w := fun _ _ _ _ => rfl
  have hk3 := threeS_keeps w none 0 0
  have hgl := lt_of_cell hv
  have hB : srB [] = false := by simp [srB]
  have HE := hide (sector_len (w.heap.size + 1 + 1) none 0 0 (threeS w none 0 0) u pv (hk3.cell hv) (threeS_rd w none [] 0).1 (by omega) (by omega))
  have HO := hide (threeS_own w none 0 0)
  have H1 := hide (threeS_b w none 0 0)
  have H2 := hide (threeS_zb w none 0 0)
  have HK := hide hk3
  have HSZ : Hid ((threeS w none 0 0).heap.size = w.heap.size + 3) := by show _ = _; simp
  have HB := hide hB
  clear hk3 hv hB hgl
  go_enter_defers Tryd.func7, Tryd.ntmps7
  go_wp2_with fail
  go_at_call 20
  refine (unhide HE).mono ?_
  rintro e w1 ⟨rfl, ht⟩
  have hO := HO.out.turn ht (fun x hx hb => by
    rw [fp_one, fpS_some (by simp)] at hx
    simp at hx hb
    omega)
  have t1 := ht.cell (p := ⟨w.heap.size + 1, 0, none⟩) (by simp) H1.out
  have z1 : w1.frozen? ⟨w.heap.size + 1, 0, none⟩ = false := by rw [← H2.out]; exact World.frozen?_of_block (ht.block _ (by simp) (by simp))
  have hk1 : Keeps w w1 := ht.keeps HK.out (fun x hx => by simp at hx; omega)
  clear ht HE HO H1 H2 HK HSZ
  have hO2 := own_setB (a := ⟨w.heap.size + 1, 0, none⟩) (own_threeB hO (.int .i64 0) (.int .i64 0) (.slice none 0 0)) (.bool false) (fp_ne (by simp))
  have hk2 := (keeps_threeB hk1 (Nat.le_refl _) (.int .i64 0) (.int .i64 0) (.slice none 0 0)).setCell (p := ⟨w.heap.size + 1, 0, none⟩) (Nat.le_succ _) (.bool false)
  have e8 := World.cell?_setCell_same (((w1.setCell ⟨w.heap.size, 0, none⟩ (.int .i64 0)).setCell ⟨w.heap.size, 1, none⟩ (.int .i64 0)).setCell ⟨w.heap.size, 2, none⟩ (.slice none 0 0)) ⟨w.heap.size + 1, 0, none⟩ (.bool false) (three_other (R := w.heap.size) (p := ⟨w.heap.size + 1, 0, none⟩) (by simp) t1 (.int .i64 0) (.int .i64 0) (.slice none 0 0))
  have e0 := cell_at hO2.mem 0 (by simp)
  have e1 := cell_at hO2.mem 1 (by simp)
  have e2 := cell_at hO2.mem 2 (by simp)
  simp only [Nat.zero_add, List.getElem_cons_zero, List.getElem_cons_succ] at e0 e1 e2
  have hP := SrPost.no HB.out hk2
  refine leaves_cons (f := 19) (args := #[.pointer (some ⟨w.heap.size, 0, none⟩), .pointer (some ⟨w.heap.size + 1, 0, none⟩)]) (by simp) rfl ?_
  refine (catchS_panic w.heap.size (w.heap.size + 1) (by omega) _ _ _ _ u pv [] w1 hO t1 z1).mono ?_
  rintro e u' w' ⟨rfl, rfl, hw'⟩
  rw [← hw'] at e0 e1 e2 e8 hP
  simp [Leaves, settle, results, Tryd.results7, go_sem, e0, e1, e2, e8]
  exact hP
/-- SectorRead of bytes that the call has made. -/
theorem secread_own {w : World} {base : Nat} {v : Value} {L : List UInt8} (u : TypeId) (pv : Value) (hv : w.cell? ⟨1, 0, none⟩ = some (.iface u pv)) (ho : OwnsB w base v L) (hl : L.length ≤ 16777216) :
    Calls Tryd.prog 7 #[v] w (SrPost w L) := by
  have hO := Own.of_owns ho
  rcases ho.2 with ⟨rfl, h'⟩ | ⟨g, cap, cur, rfl, hb, hg, hn, hm, hsz, ht⟩
  · have h0 : L = [] := List.length_eq_zero_iff.1 h'
    subst h0
    exact secread_nil w u pv hv
  · obtain ⟨a, c, hv', hlc, hcm, _, hown, _⟩ := hO
    injection hv' with e1 e2 e3
    subst e1 e3
    exact secread_impl g 0 L cap w u pv hv hown.one hl hlc (by unfold maxLen at hcm; omega)
theorem Keeps.ownsB {w w' : World} (hk : Keeps w w') {base : Nat} {v : Value} {L : List UInt8} (h : OwnsB w base v L) : OwnsB w' base v L :=
  World.ownsRow.kept h (hk.grows none) (by
    cases hh : v.ownBlock with
    | none => exact .inl rfl
    | some k => exact .inr (by simp))
end Go.Proofs.YtecjjkgdgmjgmaaDoor
