/- Marks in lists of Chan. -/
import Derived.Test.YteoloapjhlpnjaaGreatDoorBgC
namespace Go.Proofs.YteoloapjhlpnjaaGreatDoor
open Go.RowKit Go.Deep
set_option linter.unusedVariables false
set_option linter.unusedSimpArgs false
set_option maxRecDepth 10000

/-- One with marks from n on. -/
def markChn (n : Nat) : Chn := ⟨(n : Int), (n : Int) + 1, (n : Int) + 1 + 1, (n : Int) + 1 + 1 + 1, (n : Int) + 1 + 1 + 1 + 1, (n : Int) + 1 + 1 + 1 + 1 + 1, (n : Int) + 1 + 1 + 1 + 1 + 1 + 1⟩
def marksChn (n k : Nat) : List Chn := (List.range k).map fun i => markChn (n + 7 * i)
theorem marksChn_succ (n k : Nat) : marksChn n (k + 1) = marksChn n k ++ [markChn (n + 7 * k)] := by simp [marksChn, List.range_succ]
theorem marksChn_len (n k : Nat) : (marksChn n k).length = k := by simp [marksChn]
theorem chs_set0 (A B : List Chn) (x : Chn) (n : Int) {k : Nat} (hA : A.length = k) : (chs (A ++ x :: B)).set (k * 7) (.int .i64 n) = chs (A ++ ⟨n, x.sz, x.lo, x.re, x.ba, x.pp, x.sc⟩ :: B) := by
  subst hA
  have hl := chs_len A
  rw [chs_append, chs_append, List.set_append_right _ _ (by omega), hl]
  simp [chs, Chn.cells]
theorem chs_set1 (A B : List Chn) (x : Chn) (n : Int) {k : Nat} (hA : A.length = k) : (chs (A ++ x :: B)).set (k * 7 + 1) (.int .i64 n) = chs (A ++ ⟨x.id, n, x.lo, x.re, x.ba, x.pp, x.sc⟩ :: B) := by
  subst hA
  have hl := chs_len A
  rw [chs_append, chs_append, List.set_append_right _ _ (by omega), hl, show A.length * 7 + 1 - A.length * 7 = 1 by omega]
  simp [chs, Chn.cells]
theorem chs_set2 (A B : List Chn) (x : Chn) (n : Int) {k : Nat} (hA : A.length = k) : (chs (A ++ x :: B)).set (k * 7 + 2) (.int .i64 n) = chs (A ++ ⟨x.id, x.sz, n, x.re, x.ba, x.pp, x.sc⟩ :: B) := by
  subst hA
  have hl := chs_len A
  rw [chs_append, chs_append, List.set_append_right _ _ (by omega), hl, show A.length * 7 + 2 - A.length * 7 = 2 by omega]
  simp [chs, Chn.cells]
theorem chs_set3 (A B : List Chn) (x : Chn) (n : Int) {k : Nat} (hA : A.length = k) : (chs (A ++ x :: B)).set (k * 7 + 3) (.int .i64 n) = chs (A ++ ⟨x.id, x.sz, x.lo, n, x.ba, x.pp, x.sc⟩ :: B) := by
  subst hA
  have hl := chs_len A
  rw [chs_append, chs_append, List.set_append_right _ _ (by omega), hl, show A.length * 7 + 3 - A.length * 7 = 3 by omega]
  simp [chs, Chn.cells]
theorem chs_set4 (A B : List Chn) (x : Chn) (n : Int) {k : Nat} (hA : A.length = k) : (chs (A ++ x :: B)).set (k * 7 + 4) (.int .i64 n) = chs (A ++ ⟨x.id, x.sz, x.lo, x.re, n, x.pp, x.sc⟩ :: B) := by
  subst hA
  have hl := chs_len A
  rw [chs_append, chs_append, List.set_append_right _ _ (by omega), hl, show A.length * 7 + 4 - A.length * 7 = 4 by omega]
  simp [chs, Chn.cells]
theorem chs_set5 (A B : List Chn) (x : Chn) (n : Int) {k : Nat} (hA : A.length = k) : (chs (A ++ x :: B)).set (k * 7 + 5) (.int .i64 n) = chs (A ++ ⟨x.id, x.sz, x.lo, x.re, x.ba, n, x.sc⟩ :: B) := by
  subst hA
  have hl := chs_len A
  rw [chs_append, chs_append, List.set_append_right _ _ (by omega), hl, show A.length * 7 + 5 - A.length * 7 = 5 by omega]
  simp [chs, Chn.cells]
theorem chs_set6 (A B : List Chn) (x : Chn) (n : Int) {k : Nat} (hA : A.length = k) : (chs (A ++ x :: B)).set (k * 7 + 6) (.int .i64 n) = chs (A ++ ⟨x.id, x.sz, x.lo, x.re, x.ba, x.pp, n⟩ :: B) := by
  subst hA
  have hl := chs_len A
  rw [chs_append, chs_append, List.set_append_right _ _ (by omega), hl, show A.length * 7 + 6 - A.length * 7 = 6 by omega]
  simp [chs, Chn.cells]
set_option maxHeartbeats 16000000 in
theorem markChanS_k (a : Option Addr) (cap : Nat) (ds : List Chn) (n : Nat) (w : World) (h : Own w [(a, chs ds)]) (hl : ds.length ≤ 1048576) (hn : n ≤ 1000000000) :
    Calls Tryz.prog 52 #[.slice a ds.length cap, .int .i64 (n : Int)] w fun e w' => e = .returned (.int .i64 ((n + 7 * ds.length : Nat) : Int)) ∧ Own w' [(a, chs (marksChn n ds.length))] ∧ Turn (fp [(a, chs ds)]) w w' := by
  have HO := hide h
  clear h
  go_enter Tryz.func52, Tryz.ntmps52
  go_wp2_with fail
  go_loopw [1, 5] (fun x y wr => ∃ (k z : Nat), k ≤ ds.length ∧ Hid (n + 7 * k = z) ∧ x = .int .i64 (z : Int) ∧ y = .int .i64 (k : Int) ∧ Hid (Own wr [(a, chs (marksChn n k ++ ds.drop k))]) ∧ Hid (Turn (fp [(a, chs ds)]) w wr)) (fun _ y _ => ds.length - (intOf y).toNat)
  case atStart => exact ⟨0, n, by omega, by show _ = _; simp, rfl, rfl, by show Own _ _; simpa [marksChn] using HO.out, Turn.refl _ _⟩
  case round =>
    obtain ⟨k, z, hk, HZ, rfl, rfl, HO0, HT⟩ := hrel
    by_cases hlt : k < ds.length
    · have hz : z ≤ 1200000000 := by have := HZ.out; omega
      have HDr : Hid (ds.drop k = ds[k] :: ds.drop (k + 1)) := List.drop_eq_getElem_cons hlt
      have HLA : Hid ((marksChn n k).length = k) := marksChn_len n k
      have HTk : Hid (marksChn n (k + 1) ++ ds.drop (k + 1) = marksChn n k ++ Chn.mk ((z : Int)) ((z : Int) + 1) ((z : Int) + 1 + 1) ((z : Int) + 1 + 1 + 1) ((z : Int) + 1 + 1 + 1 + 1) ((z : Int) + 1 + 1 + 1 + 1 + 1) ((z : Int) + 1 + 1 + 1 + 1 + 1 + 1) :: ds.drop (k + 1)) := by
        show _ = _
        rw [marksChn_succ, ← HZ.out, List.append_assoc]; rfl
      have HZn : Hid (n + 7 * (k + 1) = z + 7) := by show _ = _; have := HZ.out; omega
      have HFE : Hid (fp [(a, chs (marksChn n k ++ ds.drop k))] = fp [(a, chs ds)]) := by
        show _ = _
        rw [fp_one, fp_one]
        exact fpS_len (by rw [chs_len, chs_len, List.length_append, HLA.out, List.length_drop]; congr 1; omega)
      rw [HDr.out] at HO0 HFE
      generalize ds[k] = c at *
      obtain ⟨eid, esz, elo, ere, eba, epp, esc⟩ := c
      generalize marksChn n k = A at *
      generalize hB : ds.drop (k + 1) = B at *
      have HBB := hide hB
      clear hB HZ
      have hcl : Cells wr a (chs (A ++ Chn.mk eid esz elo ere eba epp esc :: B)) := HO0.out.mem (a, chs (A ++ Chn.mk eid esz elo ere eba epp esc :: B)) (by simp)
      have hkl : k < (A ++ Chn.mk eid esz elo ere eba epp esc :: B).length := by have := HLA.out; simp; omega
      obtain ⟨b, off, ea, c0, c1, c2, c3, c4, c5, c6⟩ := chs_at hcl k hkl
      subst ea
      have he : (A ++ Chn.mk eid esz elo ere eba epp esc :: B)[k] = Chn.mk eid esz elo ere eba epp esc := by
        rw [List.getElem_append_right (by have := HLA.out; omega)]
        simp [HLA.out]
      rw [he] at c0 c1 c2 c3 c4 c5 c6
      dsimp only at c0 c1 c2 c3 c4 c5 c6
      have hne0 : chs (A ++ Chn.mk eid esz elo ere eba epp esc :: B) ≠ [] := fun e => by
        have := chs_len (A ++ Chn.mk eid esz elo ere eba epp esc :: B)
        rw [e] at this
        simp at this
      have hfp : fp [((some (⟨b, off, none⟩ : Addr)), chs (A ++ Chn.mk eid esz elo ere eba epp esc :: B))] = [b] := by rw [fp_one, fpS_some hne0]
      have f0 : ∀ o, wr.frozen? ⟨b, o, none⟩ = false := HO0.out.free b (by rw [hfp]; simp)
      have z0 := f0 (off + k * 7)
      have z1 := f0 (off + k * 7 + 1)
      have z2 := f0 (off + k * 7 + 2)
      have z3 := f0 (off + k * 7 + 3)
      have z4 := f0 (off + k * 7 + 4)
      have z5 := f0 (off + k * 7 + 5)
      have z6 := f0 (off + k * 7 + 6)
      have HO1 : Hid (Own (wr.setCell ⟨b, off + k * 7, none⟩ (.int .i64 ((z : Int)))) [(some ⟨b, off, none⟩, chs (A ++ Chn.mk ((z : Int)) esz elo ere eba epp esc :: B))]) := by
        have h1 := own_set HO0.out (k * 7) (.int .i64 ((z : Int))) (by rw [chs_len]; have := HLA.out; simp; omega)
        rw [chs_set0 A B _ _ HLA.out] at h1
        skip
        exact h1
      have HO2 : Hid (Own ((wr.setCell ⟨b, off + k * 7, none⟩ (.int .i64 ((z : Int)))).setCell ⟨b, off + k * 7 + 1, none⟩ (.int .i64 ((z : Int) + 1))) [(some ⟨b, off, none⟩, chs (A ++ Chn.mk ((z : Int)) ((z : Int) + 1) elo ere eba epp esc :: B))]) := by
        have h1 := own_set HO1.out (k * 7 + 1) (.int .i64 ((z : Int) + 1)) (by rw [chs_len]; have := HLA.out; simp; omega)
        rw [chs_set1 A B _ _ HLA.out] at h1
        rw [← Nat.add_assoc] at h1
        exact h1
      have HO3 : Hid (Own (((wr.setCell ⟨b, off + k * 7, none⟩ (.int .i64 ((z : Int)))).setCell ⟨b, off + k * 7 + 1, none⟩ (.int .i64 ((z : Int) + 1))).setCell ⟨b, off + k * 7 + 2, none⟩ (.int .i64 ((z : Int) + 1 + 1))) [(some ⟨b, off, none⟩, chs (A ++ Chn.mk ((z : Int)) ((z : Int) + 1) ((z : Int) + 1 + 1) ere eba epp esc :: B))]) := by
        have h1 := own_set HO2.out (k * 7 + 2) (.int .i64 ((z : Int) + 1 + 1)) (by rw [chs_len]; have := HLA.out; simp; omega)
        rw [chs_set2 A B _ _ HLA.out] at h1
        rw [← Nat.add_assoc] at h1
        exact h1
      have HO4 : Hid (Own ((((wr.setCell ⟨b, off + k * 7, none⟩ (.int .i64 ((z : Int)))).setCell ⟨b, off + k * 7 + 1, none⟩ (.int .i64 ((z : Int) + 1))).setCell ⟨b, off + k * 7 + 2, none⟩ (.int .i64 ((z : Int) + 1 + 1))).setCell ⟨b, off + k * 7 + 3, none⟩ (.int .i64 ((z : Int) + 1 + 1 + 1))) [(some ⟨b, off, none⟩, chs (A ++ Chn.mk ((z : Int)) ((z : Int) + 1) ((z : Int) + 1 + 1) ((z : Int) + 1 + 1 + 1) eba epp esc :: B))]) := by
        have h1 := own_set HO3.out (k * 7 + 3) (.int .i64 ((z : Int) + 1 + 1 + 1)) (by rw [chs_len]; have := HLA.out; simp; omega)
        rw [chs_set3 A B _ _ HLA.out] at h1
        rw [← Nat.add_assoc] at h1
        exact h1
      have HO5 : Hid (Own (((((wr.setCell ⟨b, off + k * 7, none⟩ (.int .i64 ((z : Int)))).setCell ⟨b, off + k * 7 + 1, none⟩ (.int .i64 ((z : Int) + 1))).setCell ⟨b, off + k * 7 + 2, none⟩ (.int .i64 ((z : Int) + 1 + 1))).setCell ⟨b, off + k * 7 + 3, none⟩ (.int .i64 ((z : Int) + 1 + 1 + 1))).setCell ⟨b, off + k * 7 + 4, none⟩ (.int .i64 ((z : Int) + 1 + 1 + 1 + 1))) [(some ⟨b, off, none⟩, chs (A ++ Chn.mk ((z : Int)) ((z : Int) + 1) ((z : Int) + 1 + 1) ((z : Int) + 1 + 1 + 1) ((z : Int) + 1 + 1 + 1 + 1) epp esc :: B))]) := by
        have h1 := own_set HO4.out (k * 7 + 4) (.int .i64 ((z : Int) + 1 + 1 + 1 + 1)) (by rw [chs_len]; have := HLA.out; simp; omega)
        rw [chs_set4 A B _ _ HLA.out] at h1
        rw [← Nat.add_assoc] at h1
        exact h1
      have HO6 : Hid (Own ((((((wr.setCell ⟨b, off + k * 7, none⟩ (.int .i64 ((z : Int)))).setCell ⟨b, off + k * 7 + 1, none⟩ (.int .i64 ((z : Int) + 1))).setCell ⟨b, off + k * 7 + 2, none⟩ (.int .i64 ((z : Int) + 1 + 1))).setCell ⟨b, off + k * 7 + 3, none⟩ (.int .i64 ((z : Int) + 1 + 1 + 1))).setCell ⟨b, off + k * 7 + 4, none⟩ (.int .i64 ((z : Int) + 1 + 1 + 1 + 1))).setCell ⟨b, off + k * 7 + 5, none⟩ (.int .i64 ((z : Int) + 1 + 1 + 1 + 1 + 1))) [(some ⟨b, off, none⟩, chs (A ++ Chn.mk ((z : Int)) ((z : Int) + 1) ((z : Int) + 1 + 1) ((z : Int) + 1 + 1 + 1) ((z : Int) + 1 + 1 + 1 + 1) ((z : Int) + 1 + 1 + 1 + 1 + 1) esc :: B))]) := by
        have h1 := own_set HO5.out (k * 7 + 5) (.int .i64 ((z : Int) + 1 + 1 + 1 + 1 + 1)) (by rw [chs_len]; have := HLA.out; simp; omega)
        rw [chs_set5 A B _ _ HLA.out] at h1
        rw [← Nat.add_assoc] at h1
        exact h1
      have HO7 : Hid (Own (((((((wr.setCell ⟨b, off + k * 7, none⟩ (.int .i64 ((z : Int)))).setCell ⟨b, off + k * 7 + 1, none⟩ (.int .i64 ((z : Int) + 1))).setCell ⟨b, off + k * 7 + 2, none⟩ (.int .i64 ((z : Int) + 1 + 1))).setCell ⟨b, off + k * 7 + 3, none⟩ (.int .i64 ((z : Int) + 1 + 1 + 1))).setCell ⟨b, off + k * 7 + 4, none⟩ (.int .i64 ((z : Int) + 1 + 1 + 1 + 1))).setCell ⟨b, off + k * 7 + 5, none⟩ (.int .i64 ((z : Int) + 1 + 1 + 1 + 1 + 1))).setCell ⟨b, off + k * 7 + 6, none⟩ (.int .i64 ((z : Int) + 1 + 1 + 1 + 1 + 1 + 1))) [(some ⟨b, off, none⟩, chs (A ++ Chn.mk ((z : Int)) ((z : Int) + 1) ((z : Int) + 1 + 1) ((z : Int) + 1 + 1 + 1) ((z : Int) + 1 + 1 + 1 + 1) ((z : Int) + 1 + 1 + 1 + 1 + 1) ((z : Int) + 1 + 1 + 1 + 1 + 1 + 1) :: B))]) := by
        have h1 := own_set HO6.out (k * 7 + 6) (.int .i64 ((z : Int) + 1 + 1 + 1 + 1 + 1 + 1)) (by rw [chs_len]; have := HLA.out; simp; omega)
        rw [chs_set6 A B _ _ HLA.out] at h1
        rw [← Nat.add_assoc] at h1
        exact h1
      have d1 : (wr.setCell ⟨b, off + k * 7, none⟩ (.int .i64 ((z : Int)))).cell? ⟨b, off + k * 7 + 1, none⟩ = some (.int .i64 esz) := by
        rw [World.cell?_setCell_other _ _ _ _ (by simp)]; exact c1
      have d2 : ((wr.setCell ⟨b, off + k * 7, none⟩ (.int .i64 ((z : Int)))).setCell ⟨b, off + k * 7 + 1, none⟩ (.int .i64 ((z : Int) + 1))).cell? ⟨b, off + k * 7 + 2, none⟩ = some (.int .i64 elo) := by
        rw [World.cell?_setCell_other _ _ _ _ (by simp), World.cell?_setCell_other _ _ _ _ (by simp)]; exact c2
      have d3 : (((wr.setCell ⟨b, off + k * 7, none⟩ (.int .i64 ((z : Int)))).setCell ⟨b, off + k * 7 + 1, none⟩ (.int .i64 ((z : Int) + 1))).setCell ⟨b, off + k * 7 + 2, none⟩ (.int .i64 ((z : Int) + 1 + 1))).cell? ⟨b, off + k * 7 + 3, none⟩ = some (.int .i64 ere) := by
        rw [World.cell?_setCell_other _ _ _ _ (by simp), World.cell?_setCell_other _ _ _ _ (by simp), World.cell?_setCell_other _ _ _ _ (by simp)]; exact c3
      have d4 : ((((wr.setCell ⟨b, off + k * 7, none⟩ (.int .i64 ((z : Int)))).setCell ⟨b, off + k * 7 + 1, none⟩ (.int .i64 ((z : Int) + 1))).setCell ⟨b, off + k * 7 + 2, none⟩ (.int .i64 ((z : Int) + 1 + 1))).setCell ⟨b, off + k * 7 + 3, none⟩ (.int .i64 ((z : Int) + 1 + 1 + 1))).cell? ⟨b, off + k * 7 + 4, none⟩ = some (.int .i64 eba) := by
        rw [World.cell?_setCell_other _ _ _ _ (by simp), World.cell?_setCell_other _ _ _ _ (by simp), World.cell?_setCell_other _ _ _ _ (by simp), World.cell?_setCell_other _ _ _ _ (by simp)]; exact c4
      have d5 : (((((wr.setCell ⟨b, off + k * 7, none⟩ (.int .i64 ((z : Int)))).setCell ⟨b, off + k * 7 + 1, none⟩ (.int .i64 ((z : Int) + 1))).setCell ⟨b, off + k * 7 + 2, none⟩ (.int .i64 ((z : Int) + 1 + 1))).setCell ⟨b, off + k * 7 + 3, none⟩ (.int .i64 ((z : Int) + 1 + 1 + 1))).setCell ⟨b, off + k * 7 + 4, none⟩ (.int .i64 ((z : Int) + 1 + 1 + 1 + 1))).cell? ⟨b, off + k * 7 + 5, none⟩ = some (.int .i64 epp) := by
        rw [World.cell?_setCell_other _ _ _ _ (by simp), World.cell?_setCell_other _ _ _ _ (by simp), World.cell?_setCell_other _ _ _ _ (by simp), World.cell?_setCell_other _ _ _ _ (by simp), World.cell?_setCell_other _ _ _ _ (by simp)]; exact c5
      have d6 : ((((((wr.setCell ⟨b, off + k * 7, none⟩ (.int .i64 ((z : Int)))).setCell ⟨b, off + k * 7 + 1, none⟩ (.int .i64 ((z : Int) + 1))).setCell ⟨b, off + k * 7 + 2, none⟩ (.int .i64 ((z : Int) + 1 + 1))).setCell ⟨b, off + k * 7 + 3, none⟩ (.int .i64 ((z : Int) + 1 + 1 + 1))).setCell ⟨b, off + k * 7 + 4, none⟩ (.int .i64 ((z : Int) + 1 + 1 + 1 + 1))).setCell ⟨b, off + k * 7 + 5, none⟩ (.int .i64 ((z : Int) + 1 + 1 + 1 + 1 + 1))).cell? ⟨b, off + k * 7 + 6, none⟩ = some (.int .i64 esc) := by
        rw [World.cell?_setCell_other _ _ _ _ (by simp), World.cell?_setCell_other _ _ _ _ (by simp), World.cell?_setCell_other _ _ _ _ (by simp), World.cell?_setCell_other _ _ _ _ (by simp), World.cell?_setCell_other _ _ _ _ (by simp), World.cell?_setCell_other _ _ _ _ (by simp)]; exact c6
      have HTw : Hid (Turn (fp [((some (⟨b, off, none⟩ : Addr)), chs ds)]) w (((((((wr.setCell ⟨b, off + k * 7, none⟩ (.int .i64 ((z : Int)))).setCell ⟨b, off + k * 7 + 1, none⟩ (.int .i64 ((z : Int) + 1))).setCell ⟨b, off + k * 7 + 2, none⟩ (.int .i64 ((z : Int) + 1 + 1))).setCell ⟨b, off + k * 7 + 3, none⟩ (.int .i64 ((z : Int) + 1 + 1 + 1))).setCell ⟨b, off + k * 7 + 4, none⟩ (.int .i64 ((z : Int) + 1 + 1 + 1 + 1))).setCell ⟨b, off + k * 7 + 5, none⟩ (.int .i64 ((z : Int) + 1 + 1 + 1 + 1 + 1))).setCell ⟨b, off + k * 7 + 6, none⟩ (.int .i64 ((z : Int) + 1 + 1 + 1 + 1 + 1 + 1)))) := by
        have h2 : Turn [b] wr (((((((wr.setCell ⟨b, off + k * 7, none⟩ (.int .i64 ((z : Int)))).setCell ⟨b, off + k * 7 + 1, none⟩ (.int .i64 ((z : Int) + 1))).setCell ⟨b, off + k * 7 + 2, none⟩ (.int .i64 ((z : Int) + 1 + 1))).setCell ⟨b, off + k * 7 + 3, none⟩ (.int .i64 ((z : Int) + 1 + 1 + 1))).setCell ⟨b, off + k * 7 + 4, none⟩ (.int .i64 ((z : Int) + 1 + 1 + 1 + 1))).setCell ⟨b, off + k * 7 + 5, none⟩ (.int .i64 ((z : Int) + 1 + 1 + 1 + 1 + 1))).setCell ⟨b, off + k * 7 + 6, none⟩ (.int .i64 ((z : Int) + 1 + 1 + 1 + 1 + 1 + 1))) := (((((((Turn.set (by simp) _).trans' (Turn.set (by simp) _)).trans' (Turn.set (by simp) _)).trans' (Turn.set (by simp) _)).trans' (Turn.set (by simp) _)).trans' (Turn.set (by simp) _)).trans' (Turn.set (by simp) _))
        rw [← HFE.out, hfp] at HT ⊢
        exact HT.out.trans' h2
      clear HO0 HO1 HO2 HO3 HO4 HO5 HO6 hcl he f0 HT HFE hfp
      go_wp2_with fail
      go_roundw
      case rel => exact ⟨k + 1, z + 7, by omega, HZn, congrArg (Value.int .i64) (by omega), by go_num, (by show Own _ _; rw [HBB.out, HTk.out]; exact HO7.out), HTw⟩
      case measure => simp [intOf]; omega
    · have e : k = ds.length := by omega
      subst e
      have HZ2 := hide HZ.out
      go_wp2_with fail
      go_ret
      have h2 := HO0.out
      rw [List.drop_length, List.append_nil] at h2
      exact ⟨by rw [HZ2.out]; rfl, h2, HT.out⟩
end Go.Proofs.YteoloapjhlpnjaaGreatDoor
