/- Marks in lists of Circle. -/
import Derived.Test.YteoloapjhlpnjaaGreatDoorBgR
namespace Go.Proofs.YteoloapjhlpnjaaGreatDoor
open Go.RowKit Go.Deep
set_option linter.unusedVariables false
set_option linter.unusedSimpArgs false
set_option maxRecDepth 10000

/-- One with marks from n on. -/
def markCrc (n : Nat) : Crc := ⟨(n : Int), (n : Int) + 1, (n : Int) + 1 + 1, (n : Int) + 1 + 1 + 1, (n : Int) + 1 + 1 + 1 + 1⟩
def marksCrc (n k : Nat) : List Crc := (List.range k).map fun i => markCrc (n + 5 * i)
theorem marksCrc_succ (n k : Nat) : marksCrc n (k + 1) = marksCrc n k ++ [markCrc (n + 5 * k)] := by simp [marksCrc, List.range_succ]
theorem marksCrc_len (n k : Nat) : (marksCrc n k).length = k := by simp [marksCrc]
theorem crs_set0 (A B : List Crc) (x : Crc) (n : Int) {k : Nat} (hA : A.length = k) : (crs (A ++ x :: B)).set (k * 5) (.int .i64 n) = crs (A ++ ⟨n, x.fr, x.to, x.am, x.fe⟩ :: B) := by
  subst hA
  have hl := crs_len A
  rw [crs_append, crs_append, List.set_append_right _ _ (by omega), hl]
  simp [crs, Crc.cells]
theorem crs_set1 (A B : List Crc) (x : Crc) (n : Int) {k : Nat} (hA : A.length = k) : (crs (A ++ x :: B)).set (k * 5 + 1) (.int .i64 n) = crs (A ++ ⟨x.ky, n, x.to, x.am, x.fe⟩ :: B) := by
  subst hA
  have hl := crs_len A
  rw [crs_append, crs_append, List.set_append_right _ _ (by omega), hl, show A.length * 5 + 1 - A.length * 5 = 1 by omega]
  simp [crs, Crc.cells]
theorem crs_set2 (A B : List Crc) (x : Crc) (n : Int) {k : Nat} (hA : A.length = k) : (crs (A ++ x :: B)).set (k * 5 + 2) (.int .i64 n) = crs (A ++ ⟨x.ky, x.fr, n, x.am, x.fe⟩ :: B) := by
  subst hA
  have hl := crs_len A
  rw [crs_append, crs_append, List.set_append_right _ _ (by omega), hl, show A.length * 5 + 2 - A.length * 5 = 2 by omega]
  simp [crs, Crc.cells]
theorem crs_set3 (A B : List Crc) (x : Crc) (n : Int) {k : Nat} (hA : A.length = k) : (crs (A ++ x :: B)).set (k * 5 + 3) (.int .i64 n) = crs (A ++ ⟨x.ky, x.fr, x.to, n, x.fe⟩ :: B) := by
  subst hA
  have hl := crs_len A
  rw [crs_append, crs_append, List.set_append_right _ _ (by omega), hl, show A.length * 5 + 3 - A.length * 5 = 3 by omega]
  simp [crs, Crc.cells]
theorem crs_set4 (A B : List Crc) (x : Crc) (n : Int) {k : Nat} (hA : A.length = k) : (crs (A ++ x :: B)).set (k * 5 + 4) (.int .i64 n) = crs (A ++ ⟨x.ky, x.fr, x.to, x.am, n⟩ :: B) := by
  subst hA
  have hl := crs_len A
  rw [crs_append, crs_append, List.set_append_right _ _ (by omega), hl, show A.length * 5 + 4 - A.length * 5 = 4 by omega]
  simp [crs, Crc.cells]
set_option maxHeartbeats 16000000 in
theorem markCircleS_k (a : Option Addr) (cap : Nat) (ds : List Crc) (n : Nat) (w : World) (h : Own w [(a, crs ds)]) (hl : ds.length ≤ 1048576) (hn : n ≤ 1000000000) :
    Calls Tryz.prog 54 #[.slice a ds.length cap, .int .i64 (n : Int)] w fun e w' => e = .returned (.int .i64 ((n + 5 * ds.length : Nat) : Int)) ∧ Own w' [(a, crs (marksCrc n ds.length))] ∧ Turn (fp [(a, crs ds)]) w w' := by
  have HO := hide h
  clear h
  go_enter Tryz.func54, Tryz.ntmps54
  go_wp2_with fail
  go_loopw [1, 5] (fun x y wr => ∃ (k z : Nat), k ≤ ds.length ∧ Hid (n + 5 * k = z) ∧ x = .int .i64 (z : Int) ∧ y = .int .i64 (k : Int) ∧ Hid (Own wr [(a, crs (marksCrc n k ++ ds.drop k))]) ∧ Hid (Turn (fp [(a, crs ds)]) w wr)) (fun _ y _ => ds.length - (intOf y).toNat)
  case atStart => exact ⟨0, n, by omega, by show _ = _; simp, rfl, rfl, by show Own _ _; simpa [marksCrc] using HO.out, Turn.refl _ _⟩
  case round =>
    obtain ⟨k, z, hk, HZ, rfl, rfl, HO0, HT⟩ := hrel
    by_cases hlt : k < ds.length
    · have hz : z ≤ 1200000000 := by have := HZ.out; omega
      have HDr : Hid (ds.drop k = ds[k] :: ds.drop (k + 1)) := List.drop_eq_getElem_cons hlt
      have HLA : Hid ((marksCrc n k).length = k) := marksCrc_len n k
      have HTk : Hid (marksCrc n (k + 1) ++ ds.drop (k + 1) = marksCrc n k ++ Crc.mk ((z : Int)) ((z : Int) + 1) ((z : Int) + 1 + 1) ((z : Int) + 1 + 1 + 1) ((z : Int) + 1 + 1 + 1 + 1) :: ds.drop (k + 1)) := by
        show _ = _
        rw [marksCrc_succ, ← HZ.out, List.append_assoc]; rfl
      have HZn : Hid (n + 5 * (k + 1) = z + 5) := by show _ = _; have := HZ.out; omega
      have HFE : Hid (fp [(a, crs (marksCrc n k ++ ds.drop k))] = fp [(a, crs ds)]) := by
        show _ = _
        rw [fp_one, fp_one]
        exact fpS_len (by rw [crs_len, crs_len, List.length_append, HLA.out, List.length_drop]; congr 1; omega)
      rw [HDr.out] at HO0 HFE
      generalize ds[k] = c at *
      obtain ⟨eky, efr, eto, eam, efe⟩ := c
      generalize marksCrc n k = A at *
      generalize hB : ds.drop (k + 1) = B at *
      have HBB := hide hB
      clear hB HZ
      have hcl : Cells wr a (crs (A ++ Crc.mk eky efr eto eam efe :: B)) := HO0.out.mem (a, crs (A ++ Crc.mk eky efr eto eam efe :: B)) (by simp)
      have hkl : k < (A ++ Crc.mk eky efr eto eam efe :: B).length := by have := HLA.out; simp; omega
      obtain ⟨b, off, ea, c0, c1, c2, c3, c4⟩ := crs_at hcl k hkl
      subst ea
      have he : (A ++ Crc.mk eky efr eto eam efe :: B)[k] = Crc.mk eky efr eto eam efe := by
        rw [List.getElem_append_right (by have := HLA.out; omega)]
        simp [HLA.out]
      rw [he] at c0 c1 c2 c3 c4
      dsimp only at c0 c1 c2 c3 c4
      have hne0 : crs (A ++ Crc.mk eky efr eto eam efe :: B) ≠ [] := fun e => by
        have := crs_len (A ++ Crc.mk eky efr eto eam efe :: B)
        rw [e] at this
        simp at this
      have hfp : fp [((some (⟨b, off, none⟩ : Addr)), crs (A ++ Crc.mk eky efr eto eam efe :: B))] = [b] := by rw [fp_one, fpS_some hne0]
      have f0 : ∀ o, wr.frozen? ⟨b, o, none⟩ = false := HO0.out.free b (by rw [hfp]; simp)
      have z0 := f0 (off + k * 5)
      have z1 := f0 (off + k * 5 + 1)
      have z2 := f0 (off + k * 5 + 2)
      have z3 := f0 (off + k * 5 + 3)
      have z4 := f0 (off + k * 5 + 4)
      have HO1 : Hid (Own (wr.setCell ⟨b, off + k * 5, none⟩ (.int .i64 ((z : Int)))) [(some ⟨b, off, none⟩, crs (A ++ Crc.mk ((z : Int)) efr eto eam efe :: B))]) := by
        have h1 := own_set HO0.out (k * 5) (.int .i64 ((z : Int))) (by rw [crs_len]; have := HLA.out; simp; omega)
        rw [crs_set0 A B _ _ HLA.out] at h1
        skip
        exact h1
      have HO2 : Hid (Own ((wr.setCell ⟨b, off + k * 5, none⟩ (.int .i64 ((z : Int)))).setCell ⟨b, off + k * 5 + 1, none⟩ (.int .i64 ((z : Int) + 1))) [(some ⟨b, off, none⟩, crs (A ++ Crc.mk ((z : Int)) ((z : Int) + 1) eto eam efe :: B))]) := by
        have h1 := own_set HO1.out (k * 5 + 1) (.int .i64 ((z : Int) + 1)) (by rw [crs_len]; have := HLA.out; simp; omega)
        rw [crs_set1 A B _ _ HLA.out] at h1
        rw [← Nat.add_assoc] at h1
        exact h1
      have HO3 : Hid (Own (((wr.setCell ⟨b, off + k * 5, none⟩ (.int .i64 ((z : Int)))).setCell ⟨b, off + k * 5 + 1, none⟩ (.int .i64 ((z : Int) + 1))).setCell ⟨b, off + k * 5 + 2, none⟩ (.int .i64 ((z : Int) + 1 + 1))) [(some ⟨b, off, none⟩, crs (A ++ Crc.mk ((z : Int)) ((z : Int) + 1) ((z : Int) + 1 + 1) eam efe :: B))]) := by
        have h1 := own_set HO2.out (k * 5 + 2) (.int .i64 ((z : Int) + 1 + 1)) (by rw [crs_len]; have := HLA.out; simp; omega)
        rw [crs_set2 A B _ _ HLA.out] at h1
        rw [← Nat.add_assoc] at h1
        exact h1
      have HO4 : Hid (Own ((((wr.setCell ⟨b, off + k * 5, none⟩ (.int .i64 ((z : Int)))).setCell ⟨b, off + k * 5 + 1, none⟩ (.int .i64 ((z : Int) + 1))).setCell ⟨b, off + k * 5 + 2, none⟩ (.int .i64 ((z : Int) + 1 + 1))).setCell ⟨b, off + k * 5 + 3, none⟩ (.int .i64 ((z : Int) + 1 + 1 + 1))) [(some ⟨b, off, none⟩, crs (A ++ Crc.mk ((z : Int)) ((z : Int) + 1) ((z : Int) + 1 + 1) ((z : Int) + 1 + 1 + 1) efe :: B))]) := by
        have h1 := own_set HO3.out (k * 5 + 3) (.int .i64 ((z : Int) + 1 + 1 + 1)) (by rw [crs_len]; have := HLA.out; simp; omega)
        rw [crs_set3 A B _ _ HLA.out] at h1
        rw [← Nat.add_assoc] at h1
        exact h1
      have HO5 : Hid (Own (((((wr.setCell ⟨b, off + k * 5, none⟩ (.int .i64 ((z : Int)))).setCell ⟨b, off + k * 5 + 1, none⟩ (.int .i64 ((z : Int) + 1))).setCell ⟨b, off + k * 5 + 2, none⟩ (.int .i64 ((z : Int) + 1 + 1))).setCell ⟨b, off + k * 5 + 3, none⟩ (.int .i64 ((z : Int) + 1 + 1 + 1))).setCell ⟨b, off + k * 5 + 4, none⟩ (.int .i64 ((z : Int) + 1 + 1 + 1 + 1))) [(some ⟨b, off, none⟩, crs (A ++ Crc.mk ((z : Int)) ((z : Int) + 1) ((z : Int) + 1 + 1) ((z : Int) + 1 + 1 + 1) ((z : Int) + 1 + 1 + 1 + 1) :: B))]) := by
        have h1 := own_set HO4.out (k * 5 + 4) (.int .i64 ((z : Int) + 1 + 1 + 1 + 1)) (by rw [crs_len]; have := HLA.out; simp; omega)
        rw [crs_set4 A B _ _ HLA.out] at h1
        rw [← Nat.add_assoc] at h1
        exact h1
      have d1 : (wr.setCell ⟨b, off + k * 5, none⟩ (.int .i64 ((z : Int)))).cell? ⟨b, off + k * 5 + 1, none⟩ = some (.int .i64 efr) := by
        rw [World.cell?_setCell_other _ _ _ _ (by simp)]; exact c1
      have d2 : ((wr.setCell ⟨b, off + k * 5, none⟩ (.int .i64 ((z : Int)))).setCell ⟨b, off + k * 5 + 1, none⟩ (.int .i64 ((z : Int) + 1))).cell? ⟨b, off + k * 5 + 2, none⟩ = some (.int .i64 eto) := by
        rw [World.cell?_setCell_other _ _ _ _ (by simp), World.cell?_setCell_other _ _ _ _ (by simp)]; exact c2
      have d3 : (((wr.setCell ⟨b, off + k * 5, none⟩ (.int .i64 ((z : Int)))).setCell ⟨b, off + k * 5 + 1, none⟩ (.int .i64 ((z : Int) + 1))).setCell ⟨b, off + k * 5 + 2, none⟩ (.int .i64 ((z : Int) + 1 + 1))).cell? ⟨b, off + k * 5 + 3, none⟩ = some (.int .i64 eam) := by
        rw [World.cell?_setCell_other _ _ _ _ (by simp), World.cell?_setCell_other _ _ _ _ (by simp), World.cell?_setCell_other _ _ _ _ (by simp)]; exact c3
      have d4 : ((((wr.setCell ⟨b, off + k * 5, none⟩ (.int .i64 ((z : Int)))).setCell ⟨b, off + k * 5 + 1, none⟩ (.int .i64 ((z : Int) + 1))).setCell ⟨b, off + k * 5 + 2, none⟩ (.int .i64 ((z : Int) + 1 + 1))).setCell ⟨b, off + k * 5 + 3, none⟩ (.int .i64 ((z : Int) + 1 + 1 + 1))).cell? ⟨b, off + k * 5 + 4, none⟩ = some (.int .i64 efe) := by
        rw [World.cell?_setCell_other _ _ _ _ (by simp), World.cell?_setCell_other _ _ _ _ (by simp), World.cell?_setCell_other _ _ _ _ (by simp), World.cell?_setCell_other _ _ _ _ (by simp)]; exact c4
      have HTw : Hid (Turn (fp [((some (⟨b, off, none⟩ : Addr)), crs ds)]) w (((((wr.setCell ⟨b, off + k * 5, none⟩ (.int .i64 ((z : Int)))).setCell ⟨b, off + k * 5 + 1, none⟩ (.int .i64 ((z : Int) + 1))).setCell ⟨b, off + k * 5 + 2, none⟩ (.int .i64 ((z : Int) + 1 + 1))).setCell ⟨b, off + k * 5 + 3, none⟩ (.int .i64 ((z : Int) + 1 + 1 + 1))).setCell ⟨b, off + k * 5 + 4, none⟩ (.int .i64 ((z : Int) + 1 + 1 + 1 + 1)))) := by
        have h2 : Turn [b] wr (((((wr.setCell ⟨b, off + k * 5, none⟩ (.int .i64 ((z : Int)))).setCell ⟨b, off + k * 5 + 1, none⟩ (.int .i64 ((z : Int) + 1))).setCell ⟨b, off + k * 5 + 2, none⟩ (.int .i64 ((z : Int) + 1 + 1))).setCell ⟨b, off + k * 5 + 3, none⟩ (.int .i64 ((z : Int) + 1 + 1 + 1))).setCell ⟨b, off + k * 5 + 4, none⟩ (.int .i64 ((z : Int) + 1 + 1 + 1 + 1))) := (((((Turn.set (by simp) _).trans' (Turn.set (by simp) _)).trans' (Turn.set (by simp) _)).trans' (Turn.set (by simp) _)).trans' (Turn.set (by simp) _))
        rw [← HFE.out, hfp] at HT ⊢
        exact HT.out.trans' h2
      clear HO0 HO1 HO2 HO3 HO4 hcl he f0 HT HFE hfp
      go_wp2_with fail
      go_roundw
      case rel => exact ⟨k + 1, z + 5, by omega, HZn, congrArg (Value.int .i64) (by omega), by go_num, (by show Own _ _; rw [HBB.out, HTk.out]; exact HO5.out), HTw⟩
      case measure => simp [intOf]; omega
    · have e : k = ds.length := by omega
      subst e
      have HZ2 := hide HZ.out
      go_wp2_with fail
      go_ret
      have h2 := HO0.out
      rw [List.drop_length, List.append_nil] at h2
      exact ⟨by rw [HZ2.out]; rfl, h2, HT.out⟩
end Go.Proofs.YteoloapjhlpnjaaGreatDoor
