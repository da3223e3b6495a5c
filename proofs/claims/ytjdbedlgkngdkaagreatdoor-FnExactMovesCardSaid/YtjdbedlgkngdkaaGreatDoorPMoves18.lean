/- Texts of the verifier, joined: BmH, BmR, BmB, Vars. -/
import Derived.Test.YtjdbedlgkngdkaaGreatDoorPMoves17
import Derived.Test.YtjdbedlgkngdkaaGreatDoorPMoves16
import Derived.Deep.Cut
import Derived.Test.YtjdbedlgkngdkaaGreatDoorPMoves1
import Derived.Deep.RegionHeld3
import Derived.Deep.DrawnRows
namespace Go.Proofs.YtjdbedlgkngdkaaGreatDoor
open Go.RowKit Go.Deep
set_option linter.unusedVariables false
set_option linter.unusedSimpArgs false
set_option maxRecDepth 10000

/-- One with marks from n on. -/
def markHtl (n : Nat) : Htl := ⟨(n : Int), (n : Int) + 1, (n : Int) + 1 + 1, (n : Int) + 1 + 1 + 1, (n : Int) + 1 + 1 + 1 + 1, decide ((n + 1 + 1 + 1 + 1 + 1) % 3 = 0), (n : Int) + 1 + 1 + 1 + 1 + 1 + 1⟩
def marksHtl (n k : Nat) : List Htl := (List.range k).map fun i => markHtl (n + 7 * i)
theorem marksHtl_succ (n k : Nat) : marksHtl n (k + 1) = marksHtl n k ++ [markHtl (n + 7 * k)] := by simp [marksHtl, List.range_succ]
theorem marksHtl_len (n k : Nat) : (marksHtl n k).length = k := by simp [marksHtl]
theorem hts_set0 (A B : List Htl) (x : Htl) (n : Int) {k : Nat} (hA : A.length = k) : (hts (A ++ x :: B)).set (k * 7) (.int .i64 n) = hts (A ++ ⟨n, x.inn, x.out, x.ai, x.ao, x.kp, x.ag⟩ :: B) := by
  subst hA
  have hl := hts_len A
  rw [hts_append, hts_append, List.set_append_right _ _ (by omega), hl]
  simp [hts, Htl.cells]
theorem hts_set1 (A B : List Htl) (x : Htl) (n : Int) {k : Nat} (hA : A.length = k) : (hts (A ++ x :: B)).set (k * 7 + 1) (.int .i64 n) = hts (A ++ ⟨x.ky, n, x.out, x.ai, x.ao, x.kp, x.ag⟩ :: B) := by
  subst hA
  have hl := hts_len A
  rw [hts_append, hts_append, List.set_append_right _ _ (by omega), hl, show A.length * 7 + 1 - A.length * 7 = 1 by omega]
  simp [hts, Htl.cells]
theorem hts_set2 (A B : List Htl) (x : Htl) (n : Int) {k : Nat} (hA : A.length = k) : (hts (A ++ x :: B)).set (k * 7 + 2) (.int .i64 n) = hts (A ++ ⟨x.ky, x.inn, n, x.ai, x.ao, x.kp, x.ag⟩ :: B) := by
  subst hA
  have hl := hts_len A
  rw [hts_append, hts_append, List.set_append_right _ _ (by omega), hl, show A.length * 7 + 2 - A.length * 7 = 2 by omega]
  simp [hts, Htl.cells]
theorem hts_set3 (A B : List Htl) (x : Htl) (n : Int) {k : Nat} (hA : A.length = k) : (hts (A ++ x :: B)).set (k * 7 + 3) (.int .i64 n) = hts (A ++ ⟨x.ky, x.inn, x.out, n, x.ao, x.kp, x.ag⟩ :: B) := by
  subst hA
  have hl := hts_len A
  rw [hts_append, hts_append, List.set_append_right _ _ (by omega), hl, show A.length * 7 + 3 - A.length * 7 = 3 by omega]
  simp [hts, Htl.cells]
theorem hts_set4 (A B : List Htl) (x : Htl) (n : Int) {k : Nat} (hA : A.length = k) : (hts (A ++ x :: B)).set (k * 7 + 4) (.int .i64 n) = hts (A ++ ⟨x.ky, x.inn, x.out, x.ai, n, x.kp, x.ag⟩ :: B) := by
  subst hA
  have hl := hts_len A
  rw [hts_append, hts_append, List.set_append_right _ _ (by omega), hl, show A.length * 7 + 4 - A.length * 7 = 4 by omega]
  simp [hts, Htl.cells]
theorem hts_set5 (A B : List Htl) (x : Htl) (n : Bool) {k : Nat} (hA : A.length = k) : (hts (A ++ x :: B)).set (k * 7 + 5) (.bool n) = hts (A ++ ⟨x.ky, x.inn, x.out, x.ai, x.ao, n, x.ag⟩ :: B) := by
  subst hA
  have hl := hts_len A
  rw [hts_append, hts_append, List.set_append_right _ _ (by omega), hl, show A.length * 7 + 5 - A.length * 7 = 5 by omega]
  simp [hts, Htl.cells]
theorem hts_set6 (A B : List Htl) (x : Htl) (n : Int) {k : Nat} (hA : A.length = k) : (hts (A ++ x :: B)).set (k * 7 + 6) (.int .i64 n) = hts (A ++ ⟨x.ky, x.inn, x.out, x.ai, x.ao, x.kp, n⟩ :: B) := by
  subst hA
  have hl := hts_len A
  rw [hts_append, hts_append, List.set_append_right _ _ (by omega), hl, show A.length * 7 + 6 - A.length * 7 = 6 by omega]
  simp [hts, Htl.cells]
set_option maxHeartbeats 16000000 in
theorem markHtlcS_k (a : Option Addr) (cap : Nat) (ds : List Htl) (n : Nat) (w : World) (h : Own w [(a, hts ds)]) (hl : ds.length ≤ 1048576) (hn : n ≤ 1000000000) :
    Calls Tryz.prog 54 #[.slice a ds.length cap, .int .i64 (n : Int)] w fun e w' => e = .returned (.int .i64 ((n + 7 * ds.length : Nat) : Int)) ∧ Own w' [(a, hts (marksHtl n ds.length))] ∧ Turn (fp [(a, hts ds)]) w w' := by
  have HO := hide h
  clear h
  go_enter Tryz.func54, Tryz.ntmps54
  go_wp2_with fail
  go_loopw [1, 5] (fun x y wr => ∃ (k z : Nat), k ≤ ds.length ∧ Hid (n + 7 * k = z) ∧ x = .int .i64 (z : Int) ∧ y = .int .i64 (k : Int) ∧ Hid (Own wr [(a, hts (marksHtl n k ++ ds.drop k))]) ∧ Hid (Turn (fp [(a, hts ds)]) w wr)) (fun _ y _ => ds.length - (intOf y).toNat)
  case atStart => exact ⟨0, n, by omega, by show _ = _; simp, rfl, rfl, by show Own _ _; simpa [marksHtl] using HO.out, Turn.refl _ _⟩
  case round =>
    obtain ⟨k, z, hk, HZ, rfl, rfl, HO0, HT⟩ := hrel
    by_cases hlt : k < ds.length
    · have hz : z ≤ 1200000000 := by have := HZ.out; omega
      have HDr : Hid (ds.drop k = ds[k] :: ds.drop (k + 1)) := List.drop_eq_getElem_cons hlt
      have HLA : Hid ((marksHtl n k).length = k) := marksHtl_len n k
      have HTk : Hid (marksHtl n (k + 1) ++ ds.drop (k + 1) = marksHtl n k ++ Htl.mk ((z : Int)) ((z : Int) + 1) ((z : Int) + 1 + 1) ((z : Int) + 1 + 1 + 1) ((z : Int) + 1 + 1 + 1 + 1) (decide ((z + 1 + 1 + 1 + 1 + 1) % 3 = 0)) ((z : Int) + 1 + 1 + 1 + 1 + 1 + 1) :: ds.drop (k + 1)) := by
        show _ = _
        rw [marksHtl_succ, ← HZ.out, List.append_assoc]; rfl
      have HZn : Hid (n + 7 * (k + 1) = z + 7) := by show _ = _; have := HZ.out; omega
      have HFE : Hid (fp [(a, hts (marksHtl n k ++ ds.drop k))] = fp [(a, hts ds)]) := by
        show _ = _
        rw [fp_one, fp_one]
        exact fpS_len (by rw [hts_len, hts_len, List.length_append, HLA.out, List.length_drop]; congr 1; omega)
      rw [HDr.out] at HO0 HFE
      generalize ds[k] = c at *
      obtain ⟨eky, einn, eout, eai, eao, ekp, eag⟩ := c
      generalize marksHtl n k = A at *
      generalize hB : ds.drop (k + 1) = B at *
      have HBB := hide hB
      clear hB HZ
      have hcl : Cells wr a (hts (A ++ Htl.mk eky einn eout eai eao ekp eag :: B)) := HO0.out.mem (a, hts (A ++ Htl.mk eky einn eout eai eao ekp eag :: B)) (by simp)
      have hkl : k < (A ++ Htl.mk eky einn eout eai eao ekp eag :: B).length := by have := HLA.out; simp; omega
      obtain ⟨b, off, ea, c0, c1, c2, c3, c4, c5, c6⟩ := hts_at hcl k hkl
      subst ea
      have he : (A ++ Htl.mk eky einn eout eai eao ekp eag :: B)[k] = Htl.mk eky einn eout eai eao ekp eag := by
        rw [List.getElem_append_right (by have := HLA.out; omega)]
        simp [HLA.out]
      rw [he] at c0 c1 c2 c3 c4 c5 c6
      dsimp only at c0 c1 c2 c3 c4 c5 c6
      have hne0 : hts (A ++ Htl.mk eky einn eout eai eao ekp eag :: B) ≠ [] := fun e => by
        have := hts_len (A ++ Htl.mk eky einn eout eai eao ekp eag :: B)
        rw [e] at this
        simp at this
      have hfp : fp [((some (⟨b, off, none⟩ : Addr)), hts (A ++ Htl.mk eky einn eout eai eao ekp eag :: B))] = [b] := by rw [fp_one, fpS_some hne0]
      have f0 : ∀ o, wr.frozen? ⟨b, o, none⟩ = false := HO0.out.free b (by rw [hfp]; simp)
      have z0 := f0 (off + k * 7)
      have z1 := f0 (off + k * 7 + 1)
      have z2 := f0 (off + k * 7 + 2)
      have z3 := f0 (off + k * 7 + 3)
      have z4 := f0 (off + k * 7 + 4)
      have z5 := f0 (off + k * 7 + 5)
      have z6 := f0 (off + k * 7 + 6)
      have HO1 : Hid (Own (wr.setCell ⟨b, off + k * 7, none⟩ (.int .i64 ((z : Int)))) [(some ⟨b, off, none⟩, hts (A ++ Htl.mk ((z : Int)) einn eout eai eao ekp eag :: B))]) := by
        have h1 := own_set HO0.out (k * 7) (.int .i64 ((z : Int))) (by rw [hts_len]; have := HLA.out; simp; omega)
        rw [hts_set0 A B _ _ HLA.out] at h1
        skip
        exact h1
      have HO2 : Hid (Own ((wr.setCell ⟨b, off + k * 7, none⟩ (.int .i64 ((z : Int)))).setCell ⟨b, off + k * 7 + 1, none⟩ (.int .i64 ((z : Int) + 1))) [(some ⟨b, off, none⟩, hts (A ++ Htl.mk ((z : Int)) ((z : Int) + 1) eout eai eao ekp eag :: B))]) := by
        have h1 := own_set HO1.out (k * 7 + 1) (.int .i64 ((z : Int) + 1)) (by rw [hts_len]; have := HLA.out; simp; omega)
        rw [hts_set1 A B _ _ HLA.out] at h1
        rw [← Nat.add_assoc] at h1
        exact h1
      have HO3 : Hid (Own (((wr.setCell ⟨b, off + k * 7, none⟩ (.int .i64 ((z : Int)))).setCell ⟨b, off + k * 7 + 1, none⟩ (.int .i64 ((z : Int) + 1))).setCell ⟨b, off + k * 7 + 2, none⟩ (.int .i64 ((z : Int) + 1 + 1))) [(some ⟨b, off, none⟩, hts (A ++ Htl.mk ((z : Int)) ((z : Int) + 1) ((z : Int) + 1 + 1) eai eao ekp eag :: B))]) := by
        have h1 := own_set HO2.out (k * 7 + 2) (.int .i64 ((z : Int) + 1 + 1)) (by rw [hts_len]; have := HLA.out; simp; omega)
        rw [hts_set2 A B _ _ HLA.out] at h1
        rw [← Nat.add_assoc] at h1
        exact h1
      have HO4 : Hid (Own ((((wr.setCell ⟨b, off + k * 7, none⟩ (.int .i64 ((z : Int)))).setCell ⟨b, off + k * 7 + 1, none⟩ (.int .i64 ((z : Int) + 1))).setCell ⟨b, off + k * 7 + 2, none⟩ (.int .i64 ((z : Int) + 1 + 1))).setCell ⟨b, off + k * 7 + 3, none⟩ (.int .i64 ((z : Int) + 1 + 1 + 1))) [(some ⟨b, off, none⟩, hts (A ++ Htl.mk ((z : Int)) ((z : Int) + 1) ((z : Int) + 1 + 1) ((z : Int) + 1 + 1 + 1) eao ekp eag :: B))]) := by
        have h1 := own_set HO3.out (k * 7 + 3) (.int .i64 ((z : Int) + 1 + 1 + 1)) (by rw [hts_len]; have := HLA.out; simp; omega)
        rw [hts_set3 A B _ _ HLA.out] at h1
        rw [← Nat.add_assoc] at h1
        exact h1
      have HO5 : Hid (Own (((((wr.setCell ⟨b, off + k * 7, none⟩ (.int .i64 ((z : Int)))).setCell ⟨b, off + k * 7 + 1, none⟩ (.int .i64 ((z : Int) + 1))).setCell ⟨b, off + k * 7 + 2, none⟩ (.int .i64 ((z : Int) + 1 + 1))).setCell ⟨b, off + k * 7 + 3, none⟩ (.int .i64 ((z : Int) + 1 + 1 + 1))).setCell ⟨b, off + k * 7 + 4, none⟩ (.int .i64 ((z : Int) + 1 + 1 + 1 + 1))) [(some ⟨b, off, none⟩, hts (A ++ Htl.mk ((z : Int)) ((z : Int) + 1) ((z : Int) + 1 + 1) ((z : Int) + 1 + 1 + 1) ((z : Int) + 1 + 1 + 1 + 1) ekp eag :: B))]) := by
        have h1 := own_set HO4.out (k * 7 + 4) (.int .i64 ((z : Int) + 1 + 1 + 1 + 1)) (by rw [hts_len]; have := HLA.out; simp; omega)
        rw [hts_set4 A B _ _ HLA.out] at h1
        rw [← Nat.add_assoc] at h1
        exact h1
      have HO6 : Hid (Own ((((((wr.setCell ⟨b, off + k * 7, none⟩ (.int .i64 ((z : Int)))).setCell ⟨b, off + k * 7 + 1, none⟩ (.int .i64 ((z : Int) + 1))).setCell ⟨b, off + k * 7 + 2, none⟩ (.int .i64 ((z : Int) + 1 + 1))).setCell ⟨b, off + k * 7 + 3, none⟩ (.int .i64 ((z : Int) + 1 + 1 + 1))).setCell ⟨b, off + k * 7 + 4, none⟩ (.int .i64 ((z : Int) + 1 + 1 + 1 + 1))).setCell ⟨b, off + k * 7 + 5, none⟩ (.bool (decide ((z + 1 + 1 + 1 + 1 + 1) % 3 = 0)))) [(some ⟨b, off, none⟩, hts (A ++ Htl.mk ((z : Int)) ((z : Int) + 1) ((z : Int) + 1 + 1) ((z : Int) + 1 + 1 + 1) ((z : Int) + 1 + 1 + 1 + 1) (decide ((z + 1 + 1 + 1 + 1 + 1) % 3 = 0)) eag :: B))]) := by
        have h1 := own_set HO5.out (k * 7 + 5) (.bool (decide ((z + 1 + 1 + 1 + 1 + 1) % 3 = 0))) (by rw [hts_len]; have := HLA.out; simp; omega)
        rw [hts_set5 A B _ _ HLA.out] at h1
        rw [← Nat.add_assoc] at h1
        exact h1
      have HO7 : Hid (Own (((((((wr.setCell ⟨b, off + k * 7, none⟩ (.int .i64 ((z : Int)))).setCell ⟨b, off + k * 7 + 1, none⟩ (.int .i64 ((z : Int) + 1))).setCell ⟨b, off + k * 7 + 2, none⟩ (.int .i64 ((z : Int) + 1 + 1))).setCell ⟨b, off + k * 7 + 3, none⟩ (.int .i64 ((z : Int) + 1 + 1 + 1))).setCell ⟨b, off + k * 7 + 4, none⟩ (.int .i64 ((z : Int) + 1 + 1 + 1 + 1))).setCell ⟨b, off + k * 7 + 5, none⟩ (.bool (decide ((z + 1 + 1 + 1 + 1 + 1) % 3 = 0)))).setCell ⟨b, off + k * 7 + 6, none⟩ (.int .i64 ((z : Int) + 1 + 1 + 1 + 1 + 1 + 1))) [(some ⟨b, off, none⟩, hts (A ++ Htl.mk ((z : Int)) ((z : Int) + 1) ((z : Int) + 1 + 1) ((z : Int) + 1 + 1 + 1) ((z : Int) + 1 + 1 + 1 + 1) (decide ((z + 1 + 1 + 1 + 1 + 1) % 3 = 0)) ((z : Int) + 1 + 1 + 1 + 1 + 1 + 1) :: B))]) := by
        have h1 := own_set HO6.out (k * 7 + 6) (.int .i64 ((z : Int) + 1 + 1 + 1 + 1 + 1 + 1)) (by rw [hts_len]; have := HLA.out; simp; omega)
        rw [hts_set6 A B _ _ HLA.out] at h1
        rw [← Nat.add_assoc] at h1
        exact h1
      have d1 : (wr.setCell ⟨b, off + k * 7, none⟩ (.int .i64 ((z : Int)))).cell? ⟨b, off + k * 7 + 1, none⟩ = some (.int .i64 einn) := by
        rw [World.cell?_setCell_other _ _ _ _ (by simp)]; exact c1
      have d2 : ((wr.setCell ⟨b, off + k * 7, none⟩ (.int .i64 ((z : Int)))).setCell ⟨b, off + k * 7 + 1, none⟩ (.int .i64 ((z : Int) + 1))).cell? ⟨b, off + k * 7 + 2, none⟩ = some (.int .i64 eout) := by
        rw [World.cell?_setCell_other _ _ _ _ (by simp), World.cell?_setCell_other _ _ _ _ (by simp)]; exact c2
      have d3 : (((wr.setCell ⟨b, off + k * 7, none⟩ (.int .i64 ((z : Int)))).setCell ⟨b, off + k * 7 + 1, none⟩ (.int .i64 ((z : Int) + 1))).setCell ⟨b, off + k * 7 + 2, none⟩ (.int .i64 ((z : Int) + 1 + 1))).cell? ⟨b, off + k * 7 + 3, none⟩ = some (.int .i64 eai) := by
        rw [World.cell?_setCell_other _ _ _ _ (by simp), World.cell?_setCell_other _ _ _ _ (by simp), World.cell?_setCell_other _ _ _ _ (by simp)]; exact c3
      have d4 : ((((wr.setCell ⟨b, off + k * 7, none⟩ (.int .i64 ((z : Int)))).setCell ⟨b, off + k * 7 + 1, none⟩ (.int .i64 ((z : Int) + 1))).setCell ⟨b, off + k * 7 + 2, none⟩ (.int .i64 ((z : Int) + 1 + 1))).setCell ⟨b, off + k * 7 + 3, none⟩ (.int .i64 ((z : Int) + 1 + 1 + 1))).cell? ⟨b, off + k * 7 + 4, none⟩ = some (.int .i64 eao) := by
        rw [World.cell?_setCell_other _ _ _ _ (by simp), World.cell?_setCell_other _ _ _ _ (by simp), World.cell?_setCell_other _ _ _ _ (by simp), World.cell?_setCell_other _ _ _ _ (by simp)]; exact c4
      have d5 : (((((wr.setCell ⟨b, off + k * 7, none⟩ (.int .i64 ((z : Int)))).setCell ⟨b, off + k * 7 + 1, none⟩ (.int .i64 ((z : Int) + 1))).setCell ⟨b, off + k * 7 + 2, none⟩ (.int .i64 ((z : Int) + 1 + 1))).setCell ⟨b, off + k * 7 + 3, none⟩ (.int .i64 ((z : Int) + 1 + 1 + 1))).setCell ⟨b, off + k * 7 + 4, none⟩ (.int .i64 ((z : Int) + 1 + 1 + 1 + 1))).cell? ⟨b, off + k * 7 + 5, none⟩ = some (.bool ekp) := by
        rw [World.cell?_setCell_other _ _ _ _ (by simp), World.cell?_setCell_other _ _ _ _ (by simp), World.cell?_setCell_other _ _ _ _ (by simp), World.cell?_setCell_other _ _ _ _ (by simp), World.cell?_setCell_other _ _ _ _ (by simp)]; exact c5
      have d6 : ((((((wr.setCell ⟨b, off + k * 7, none⟩ (.int .i64 ((z : Int)))).setCell ⟨b, off + k * 7 + 1, none⟩ (.int .i64 ((z : Int) + 1))).setCell ⟨b, off + k * 7 + 2, none⟩ (.int .i64 ((z : Int) + 1 + 1))).setCell ⟨b, off + k * 7 + 3, none⟩ (.int .i64 ((z : Int) + 1 + 1 + 1))).setCell ⟨b, off + k * 7 + 4, none⟩ (.int .i64 ((z : Int) + 1 + 1 + 1 + 1))).setCell ⟨b, off + k * 7 + 5, none⟩ (.bool (decide ((z + 1 + 1 + 1 + 1 + 1) % 3 = 0)))).cell? ⟨b, off + k * 7 + 6, none⟩ = some (.int .i64 eag) := by
        rw [World.cell?_setCell_other _ _ _ _ (by simp), World.cell?_setCell_other _ _ _ _ (by simp), World.cell?_setCell_other _ _ _ _ (by simp), World.cell?_setCell_other _ _ _ _ (by simp), World.cell?_setCell_other _ _ _ _ (by simp), World.cell?_setCell_other _ _ _ _ (by simp)]; exact c6
      have hm3_5 : (((z : Int) + 1 + 1 + 1 + 1 + 1) % 3 == 0) = decide ((z + 1 + 1 + 1 + 1 + 1) % 3 = 0) := by
        by_cases h3 : (z + 1 + 1 + 1 + 1 + 1) % 3 = 0
        · rw [decide_eq_true h3]; simp; omega
        · rw [decide_eq_false h3]; simp; omega
      have HTw : Hid (Turn (fp [((some (⟨b, off, none⟩ : Addr)), hts ds)]) w (((((((wr.setCell ⟨b, off + k * 7, none⟩ (.int .i64 ((z : Int)))).setCell ⟨b, off + k * 7 + 1, none⟩ (.int .i64 ((z : Int) + 1))).setCell ⟨b, off + k * 7 + 2, none⟩ (.int .i64 ((z : Int) + 1 + 1))).setCell ⟨b, off + k * 7 + 3, none⟩ (.int .i64 ((z : Int) + 1 + 1 + 1))).setCell ⟨b, off + k * 7 + 4, none⟩ (.int .i64 ((z : Int) + 1 + 1 + 1 + 1))).setCell ⟨b, off + k * 7 + 5, none⟩ (.bool (decide ((z + 1 + 1 + 1 + 1 + 1) % 3 = 0)))).setCell ⟨b, off + k * 7 + 6, none⟩ (.int .i64 ((z : Int) + 1 + 1 + 1 + 1 + 1 + 1)))) := by
        have h2 : Turn [b] wr (((((((wr.setCell ⟨b, off + k * 7, none⟩ (.int .i64 ((z : Int)))).setCell ⟨b, off + k * 7 + 1, none⟩ (.int .i64 ((z : Int) + 1))).setCell ⟨b, off + k * 7 + 2, none⟩ (.int .i64 ((z : Int) + 1 + 1))).setCell ⟨b, off + k * 7 + 3, none⟩ (.int .i64 ((z : Int) + 1 + 1 + 1))).setCell ⟨b, off + k * 7 + 4, none⟩ (.int .i64 ((z : Int) + 1 + 1 + 1 + 1))).setCell ⟨b, off + k * 7 + 5, none⟩ (.bool (decide ((z + 1 + 1 + 1 + 1 + 1) % 3 = 0)))).setCell ⟨b, off + k * 7 + 6, none⟩ (.int .i64 ((z : Int) + 1 + 1 + 1 + 1 + 1 + 1))) := (((((((Turn.set (by simp) _).trans' (Turn.set (by simp) _)).trans' (Turn.set (by simp) _)).trans' (Turn.set (by simp) _)).trans' (Turn.set (by simp) _)).trans' (Turn.set (by simp) _)).trans' (Turn.set (by simp) _))
        rw [← HFE.out, hfp] at HT ⊢
        exact HT.out.trans' h2
      clear HO0 HO1 HO2 HO3 HO4 HO5 HO6 hcl he f0 HT HFE hfp
      go_wp2_with fail
      go_roundw
      case rel => exact ⟨k + 1, z + 7, by omega, HZn, congrArg (Value.int .i64) (by omega), by go_num, (by show Own _ _; rw [HBB.out, HTk.out]; exact HO7.out), HTw⟩
      case measure => simp [intOf]; omega
    · have e : k = ds.length := by omega
      subst e
      have HZ2 := hide HZ.out
      go_wp2_with fail
      go_ret
      have h2 := HO0.out
      rw [List.drop_length, List.append_nil] at h2
      exact ⟨by rw [HZ2.out]; rfl, h2, HT.out⟩
end Go.Proofs.YtjdbedlgkngdkaaGreatDoor
namespace Go.Proofs.YtjdbedlgkngdkaaGreatDoor
open Go.RowKit Go.Deep
set_option linter.unusedVariables false
set_option linter.unusedSimpArgs false
set_option maxRecDepth 10000

/-- One with marks from n on. -/
def markCrc (n : Nat) : Crc := ⟨(n : Int), (n : Int) + 1, (n : Int) + 1 + 1, (n : Int) + 1 + 1 + 1, (n : Int) + 1 + 1 + 1 + 1⟩
def marksCrc (n k : Nat) : List Crc := (List.range k).map fun i => markCrc (n + 5 * i)
theorem marksCrc_succ (n k : Nat) : marksCrc n (k + 1) = marksCrc n k ++ [markCrc (n + 5 * k)] := by simp [marksCrc, List.range_succ]
theorem marksCrc_len (n k : Nat) : (marksCrc n k).length = k := by simp [marksCrc]
theorem crs_set0 (A B : List Crc) (x : Crc) (n : Int) {k : Nat} (hA : A.length = k) : (crs (A ++ x :: B)).set (k * 5) (.int .i64 n) = crs (A ++ ⟨n, x.fr, x.to, x.am, x.fe⟩ :: B) := by
  subst hA
  have hl := crs_len A
  rw [crs_append, crs_append, List.set_append_right _ _ (by omega), hl]
  simp [crs, Crc.cells]
theorem crs_set1 (A B : List Crc) (x : Crc) (n : Int) {k : Nat} (hA : A.length = k) : (crs (A ++ x :: B)).set (k * 5 + 1) (.int .i64 n) = crs (A ++ ⟨x.ky, n, x.to, x.am, x.fe⟩ :: B) := by
  subst hA
  have hl := crs_len A
  rw [crs_append, crs_append, List.set_append_right _ _ (by omega), hl, show A.length * 5 + 1 - A.length * 5 = 1 by omega]
  simp [crs, Crc.cells]
theorem crs_set2 (A B : List Crc) (x : Crc) (n : Int) {k : Nat} (hA : A.length = k) : (crs (A ++ x :: B)).set (k * 5 + 2) (.int .i64 n) = crs (A ++ ⟨x.ky, x.fr, n, x.am, x.fe⟩ :: B) := by
  subst hA
  have hl := crs_len A
  rw [crs_append, crs_append, List.set_append_right _ _ (by omega), hl, show A.length * 5 + 2 - A.length * 5 = 2 by omega]
  simp [crs, Crc.cells]
theorem crs_set3 (A B : List Crc) (x : Crc) (n : Int) {k : Nat} (hA : A.length = k) : (crs (A ++ x :: B)).set (k * 5 + 3) (.int .i64 n) = crs (A ++ ⟨x.ky, x.fr, x.to, n, x.fe⟩ :: B) := by
  subst hA
  have hl := crs_len A
  rw [crs_append, crs_append, List.set_append_right _ _ (by omega), hl, show A.length * 5 + 3 - A.length * 5 = 3 by omega]
  simp [crs, Crc.cells]
theorem crs_set4 (A B : List Crc) (x : Crc) (n : Int) {k : Nat} (hA : A.length = k) : (crs (A ++ x :: B)).set (k * 5 + 4) (.int .i64 n) = crs (A ++ ⟨x.ky, x.fr, x.to, x.am, n⟩ :: B) := by
  subst hA
  have hl := crs_len A
  rw [crs_append, crs_append, List.set_append_right _ _ (by omega), hl, show A.length * 5 + 4 - A.length * 5 = 4 by omega]
  simp [crs, Crc.cells]
set_option maxHeartbeats 16000000 in
theorem markCircleS_k (a : Option Addr) (cap : Nat) (ds : List Crc) (n : Nat) (w : World) (h : Own w [(a, crs ds)]) (hl : ds.length ≤ 1048576) (hn : n ≤ 1000000000) :
    Calls Tryz.prog 55 #[.slice a ds.length cap, .int .i64 (n : Int)] w fun e w' => e = .returned (.int .i64 ((n + 5 * ds.length : Nat) : Int)) ∧ Own w' [(a, crs (marksCrc n ds.length))] ∧ Turn (fp [(a, crs ds)]) w w' := by
  have HO := hide h
  clear h
  go_enter Tryz.func55, Tryz.ntmps55
  go_wp2_with fail
  go_loopw [1, 5] (fun x y wr => ∃ (k z : Nat), k ≤ ds.length ∧ Hid (n + 5 * k = z) ∧ x = .int .i64 (z : Int) ∧ y = .int .i64 (k : Int) ∧ Hid (Own wr [(a, crs (marksCrc n k ++ ds.drop k))]) ∧ Hid (Turn (fp [(a, crs ds)]) w wr)) (fun _ y _ => ds.length - (intOf y).toNat)
  case atStart => exact ⟨0, n, by omega, by show _ = _; simp, rfl, rfl, by show Own _ _; simpa [marksCrc] using HO.out, Turn.refl _ _⟩
  case round =>
    obtain ⟨k, z, hk, HZ, rfl, rfl, HO0, HT⟩ := hrel
    by_cases hlt : k < ds.length
    · have hz : z ≤ 1200000000 := by have := HZ.out; omega
      have HDr : Hid (ds.drop k = ds[k] :: ds.drop (k + 1)) := List.drop_eq_getElem_cons hlt
      have HLA : Hid ((marksCrc n k).length = k) := marksCrc_len n k
      have HTk : Hid (marksCrc n (k + 1) ++ ds.drop (k + 1) = marksCrc n k ++ Crc.mk ((z : Int)) ((z : Int) + 1) ((z : Int) + 1 + 1) ((z : Int) + 1 + 1 + 1) ((z : Int) + 1 + 1 + 1 + 1) :: ds.drop (k + 1)) := by
        show _ = _
        rw [marksCrc_succ, ← HZ.out, List.append_assoc]; rfl
      have HZn : Hid (n + 5 * (k + 1) = z + 5) := by show _ = _; have := HZ.out; omega
      have HFE : Hid (fp [(a, crs (marksCrc n k ++ ds.drop k))] = fp [(a, crs ds)]) := by
        show _ = _
        rw [fp_one, fp_one]
        exact fpS_len (by rw [crs_len, crs_len, List.length_append, HLA.out, List.length_drop]; congr 1; omega)
      rw [HDr.out] at HO0 HFE
      generalize ds[k] = c at *
      obtain ⟨eky, efr, eto, eam, efe⟩ := c
      generalize marksCrc n k = A at *
      generalize hB : ds.drop (k + 1) = B at *
      have HBB := hide hB
      clear hB HZ
      have hcl : Cells wr a (crs (A ++ Crc.mk eky efr eto eam efe :: B)) := HO0.out.mem (a, crs (A ++ Crc.mk eky efr eto eam efe :: B)) (by simp)
      have hkl : k < (A ++ Crc.mk eky efr eto eam efe :: B).length := by have := HLA.out; simp; omega
      obtain ⟨b, off, ea, c0, c1, c2, c3, c4⟩ := crs_at hcl k hkl
      subst ea
      have he : (A ++ Crc.mk eky efr eto eam efe :: B)[k] = Crc.mk eky efr eto eam efe := by
        rw [List.getElem_append_right (by have := HLA.out; omega)]
        simp [HLA.out]
      rw [he] at c0 c1 c2 c3 c4
      dsimp only at c0 c1 c2 c3 c4
      have hne0 : crs (A ++ Crc.mk eky efr eto eam efe :: B) ≠ [] := fun e => by
        have := crs_len (A ++ Crc.mk eky efr eto eam efe :: B)
        rw [e] at this
        simp at this
      have hfp : fp [((some (⟨b, off, none⟩ : Addr)), crs (A ++ Crc.mk eky efr eto eam efe :: B))] = [b] := by rw [fp_one, fpS_some hne0]
      have f0 : ∀ o, wr.frozen? ⟨b, o, none⟩ = false := HO0.out.free b (by rw [hfp]; simp)
      have z0 := f0 (off + k * 5)
      have z1 := f0 (off + k * 5 + 1)
      have z2 := f0 (off + k * 5 + 2)
      have z3 := f0 (off + k * 5 + 3)
      have z4 := f0 (off + k * 5 + 4)
      have HO1 : Hid (Own (wr.setCell ⟨b, off + k * 5, none⟩ (.int .i64 ((z : Int)))) [(some ⟨b, off, none⟩, crs (A ++ Crc.mk ((z : Int)) efr eto eam efe :: B))]) := by
        have h1 := own_set HO0.out (k * 5) (.int .i64 ((z : Int))) (by rw [crs_len]; have := HLA.out; simp; omega)
        rw [crs_set0 A B _ _ HLA.out] at h1
        skip
        exact h1
      have HO2 : Hid (Own ((wr.setCell ⟨b, off + k * 5, none⟩ (.int .i64 ((z : Int)))).setCell ⟨b, off + k * 5 + 1, none⟩ (.int .i64 ((z : Int) + 1))) [(some ⟨b, off, none⟩, crs (A ++ Crc.mk ((z : Int)) ((z : Int) + 1) eto eam efe :: B))]) := by
        have h1 := own_set HO1.out (k * 5 + 1) (.int .i64 ((z : Int) + 1)) (by rw [crs_len]; have := HLA.out; simp; omega)
        rw [crs_set1 A B _ _ HLA.out] at h1
        rw [← Nat.add_assoc] at h1
        exact h1
      have HO3 : Hid (Own (((wr.setCell ⟨b, off + k * 5, none⟩ (.int .i64 ((z : Int)))).setCell ⟨b, off + k * 5 + 1, none⟩ (.int .i64 ((z : Int) + 1))).setCell ⟨b, off + k * 5 + 2, none⟩ (.int .i64 ((z : Int) + 1 + 1))) [(some ⟨b, off, none⟩, crs (A ++ Crc.mk ((z : Int)) ((z : Int) + 1) ((z : Int) + 1 + 1) eam efe :: B))]) := by
        have h1 := own_set HO2.out (k * 5 + 2) (.int .i64 ((z : Int) + 1 + 1)) (by rw [crs_len]; have := HLA.out; simp; omega)
        rw [crs_set2 A B _ _ HLA.out] at h1
        rw [← Nat.add_assoc] at h1
        exact h1
      have HO4 : Hid (Own ((((wr.setCell ⟨b, off + k * 5, none⟩ (.int .i64 ((z : Int)))).setCell ⟨b, off + k * 5 + 1, none⟩ (.int .i64 ((z : Int) + 1))).setCell ⟨b, off + k * 5 + 2, none⟩ (.int .i64 ((z : Int) + 1 + 1))).setCell ⟨b, off + k * 5 + 3, none⟩ (.int .i64 ((z : Int) + 1 + 1 + 1))) [(some ⟨b, off, none⟩, crs (A ++ Crc.mk ((z : Int)) ((z : Int) + 1) ((z : Int) + 1 + 1) ((z : Int) + 1 + 1 + 1) efe :: B))]) := by
        have h1 := own_set HO3.out (k * 5 + 3) (.int .i64 ((z : Int) + 1 + 1 + 1)) (by rw [crs_len]; have := HLA.out; simp; omega)
        rw [crs_set3 A B _ _ HLA.out] at h1
        rw [← Nat.add_assoc] at h1
        exact h1
      have HO5 : Hid (Own (((((wr.setCell ⟨b, off + k * 5, none⟩ (.int .i64 ((z : Int)))).setCell ⟨b, off + k * 5 + 1, none⟩ (.int .i64 ((z : Int) + 1))).setCell ⟨b, off + k * 5 + 2, none⟩ (.int .i64 ((z : Int) + 1 + 1))).setCell ⟨b, off + k * 5 + 3, none⟩ (.int .i64 ((z : Int) + 1 + 1 + 1))).setCell ⟨b, off + k * 5 + 4, none⟩ (.int .i64 ((z : Int) + 1 + 1 + 1 + 1))) [(some ⟨b, off, none⟩, crs (A ++ Crc.mk ((z : Int)) ((z : Int) + 1) ((z : Int) + 1 + 1) ((z : Int) + 1 + 1 + 1) ((z : Int) + 1 + 1 + 1 + 1) :: B))]) := by
        have h1 := own_set HO4.out (k * 5 + 4) (.int .i64 ((z : Int) + 1 + 1 + 1 + 1)) (by rw [crs_len]; have := HLA.out; simp; omega)
        rw [crs_set4 A B _ _ HLA.out] at h1
        rw [← Nat.add_assoc] at h1
        exact h1
      have d1 : (wr.setCell ⟨b, off + k * 5, none⟩ (.int .i64 ((z : Int)))).cell? ⟨b, off + k * 5 + 1, none⟩ = some (.int .i64 efr) := by
        rw [World.cell?_setCell_other _ _ _ _ (by simp)]; exact c1
      have d2 : ((wr.setCell ⟨b, off + k * 5, none⟩ (.int .i64 ((z : Int)))).setCell ⟨b, off + k * 5 + 1, none⟩ (.int .i64 ((z : Int) + 1))).cell? ⟨b, off + k * 5 + 2, none⟩ = some (.int .i64 eto) := by
        rw [World.cell?_setCell_other _ _ _ _ (by simp), World.cell?_setCell_other _ _ _ _ (by simp)]; exact c2
      have d3 : (((wr.setCell ⟨b, off + k * 5, none⟩ (.int .i64 ((z : Int)))).setCell ⟨b, off + k * 5 + 1, none⟩ (.int .i64 ((z : Int) + 1))).setCell ⟨b, off + k * 5 + 2, none⟩ (.int .i64 ((z : Int) + 1 + 1))).cell? ⟨b, off + k * 5 + 3, none⟩ = some (.int .i64 eam) := by
        rw [World.cell?_setCell_other _ _ _ _ (by simp), World.cell?_setCell_other _ _ _ _ (by simp), World.cell?_setCell_other _ _ _ _ (by simp)]; exact c3
      have d4 : ((((wr.setCell ⟨b, off + k * 5, none⟩ (.int .i64 ((z : Int)))).setCell ⟨b, off + k * 5 + 1, none⟩ (.int .i64 ((z : Int) + 1))).setCell ⟨b, off + k * 5 + 2, none⟩ (.int .i64 ((z : Int) + 1 + 1))).setCell ⟨b, off + k * 5 + 3, none⟩ (.int .i64 ((z : Int) + 1 + 1 + 1))).cell? ⟨b, off + k * 5 + 4, none⟩ = some (.int .i64 efe) := by
        rw [World.cell?_setCell_other _ _ _ _ (by simp), World.cell?_setCell_other _ _ _ _ (by simp), World.cell?_setCell_other _ _ _ _ (by simp), World.cell?_setCell_other _ _ _ _ (by simp)]; exact c4
      have HTw : Hid (Turn (fp [((some (⟨b, off, none⟩ : Addr)), crs ds)]) w (((((wr.setCell ⟨b, off + k * 5, none⟩ (.int .i64 ((z : Int)))).setCell ⟨b, off + k * 5 + 1, none⟩ (.int .i64 ((z : Int) + 1))).setCell ⟨b, off + k * 5 + 2, none⟩ (.int .i64 ((z : Int) + 1 + 1))).setCell ⟨b, off + k * 5 + 3, none⟩ (.int .i64 ((z : Int) + 1 + 1 + 1))).setCell ⟨b, off + k * 5 + 4, none⟩ (.int .i64 ((z : Int) + 1 + 1 + 1 + 1)))) := by
        have h2 : Turn [b] wr (((((wr.setCell ⟨b, off + k * 5, none⟩ (.int .i64 ((z : Int)))).setCell ⟨b, off + k * 5 + 1, none⟩ (.int .i64 ((z : Int) + 1))).setCell ⟨b, off + k * 5 + 2, none⟩ (.int .i64 ((z : Int) + 1 + 1))).setCell ⟨b, off + k * 5 + 3, none⟩ (.int .i64 ((z : Int) + 1 + 1 + 1))).setCell ⟨b, off + k * 5 + 4, none⟩ (.int .i64 ((z : Int) + 1 + 1 + 1 + 1))) := (((((Turn.set (by simp) _).trans' (Turn.set (by simp) _)).trans' (Turn.set (by simp) _)).trans' (Turn.set (by simp) _)).trans' (Turn.set (by simp) _))
        rw [← HFE.out, hfp] at HT ⊢
        exact HT.out.trans' h2
      clear HO0 HO1 HO2 HO3 HO4 hcl he f0 HT HFE hfp
      go_wp2_with fail
      go_roundw
      case rel => exact ⟨k + 1, z + 5, by omega, HZn, congrArg (Value.int .i64) (by omega), by go_num, (by show Own _ _; rw [HBB.out, HTk.out]; exact HO5.out), HTw⟩
      case measure => simp [intOf]; omega
    · have e : k = ds.length := by omega
      subst e
      have HZ2 := hide HZ.out
      go_wp2_with fail
      go_ret
      have h2 := HO0.out
      rw [List.drop_length, List.append_nil] at h2
      exact ⟨by rw [HZ2.out]; rfl, h2, HT.out⟩
end Go.Proofs.YtjdbedlgkngdkaaGreatDoor
namespace Go.Proofs.YtjdbedlgkngdkaaGreatDoor
open Go.RowKit Go.Deep
set_option linter.unusedVariables false
set_option linter.unusedSimpArgs false
set_option maxRecDepth 10000

def markBo (n : Nat) (B : Bo) : Bo := ⟨B.tk, B.nx, B.wa, B.ca, B.cc, marksChn n B.C.length, B.ha, B.hc, marksHtl (n + 7 * B.C.length) B.Hs.length, B.ra, B.rc, marksCrc (n + 7 * B.C.length + 7 * B.Hs.length) B.R.length⟩
def markN (n : Nat) (B : Bo) : Nat := n + 7 * B.C.length + 7 * B.Hs.length + 5 * B.R.length
/-- One list of three has turned. -/
theorem own3 {w : World} {s1 s2 s3 : Seg} (h : Own w [s1, s2, s3]) : Own w [s1] ∧ Own w [s2] ∧ Own w [s3] :=
  ⟨Own.left (S := [s1]) (T := [s2, s3]) h, Own.left (S := [s2]) (T := [s3]) (Own.right (S := [s1]) (T := [s2, s3]) h), Own.right (S := [s2]) (T := [s3]) (Own.right (S := [s1]) (T := [s2, s3]) h)⟩
theorem fp_in3 {s1 s2 s3 : Seg} : (∀ b ∈ fp [s1], b ∈ fp [s1, s2, s3]) ∧ (∀ b ∈ fp [s2], b ∈ fp [s1, s2, s3]) ∧ (∀ b ∈ fp [s3], b ∈ fp [s1, s2, s3]) := by
  refine ⟨fun b hb => ?_, fun b hb => ?_, fun b hb => ?_⟩ <;> simp [fp] at hb ⊢ <;> simp [hb]
set_option maxHeartbeats 4000000 in
theorem markBook_k (B : Bo) (n : Nat) (w : World) (h : Own w B.segs) (hl : B.len) (hn : n ≤ 900000000) :
    Calls Tryz.prog 19 #[B.v, .int .i64 (n : Int)] w fun e w' => e = .returned (.int .i64 (markN n B : Int)) ∧ Own w' (markBo n B).segs ∧ Turn (fp B.segs) w w' := by
  obtain ⟨tk, nx, wa, ca, cc, C, ha, hc, Hs, ra, rc, R⟩ := B
  have HB := hide (rowc6 w (.int .i64 tk) (.int .i64 nx) (.int .i64 wa) (.slice ca C.length cc) (.slice ha Hs.length hc) (.slice ra R.length rc) 27)
  have HK := hide (Keeps.alloc (Keeps.refl w) (.cells #[.int .i64 tk, .int .i64 nx, .int .i64 wa, .slice ca C.length cc, .slice ha Hs.length hc, .slice ra R.length rc] 27))
  obtain ⟨l1, l2, l3⟩ := hl
  dsimp only [Bo.v, Bo.segs, markBo] at *
  have HO0 := hide (h.kept HK.out)
  have HT0 := hide (Turn.of_keeps HK.out (fp [(ca, chs C), (ha, hts Hs), (ra, crs R)]))
  have HLT := hide h.mem.lt
  clear h
  go_enter Tryz.func19, Tryz.ntmps19
  go_upto_region 1 with fail
  generalize w.alloc (.cells #[.int .i64 tk, .int .i64 nx, .int .i64 wa, .slice ca C.length cc, .slice ha Hs.length hc, .slice ra R.length rc] 27) = W0 at *
  have HKW := hide (Keeps.refl W0)
  have HNB : Hid (∀ b ∈ fp [(ca, chs C), (ha, hts Hs), (ra, crs R)], b ≠ w.heap.size) := fun b hb e => by have := HLT.out b hb; omega
  obtain ⟨c0, c1, c2, c3, c4, c5⟩ := unhide HB W0 (Keeps.refl _)
  have HCs : Hid (∀ w', Turn (fp [(ca, chs C), (ha, hts Hs), (ra, crs R)]) W0 w' → w'.cell? ⟨w.heap.size, 3, none⟩ = some (.slice ca C.length cc) ∧ w'.cell? ⟨w.heap.size, 4, none⟩ = some (.slice ha Hs.length hc) ∧ w'.cell? ⟨w.heap.size, 5, none⟩ = some (.slice ra R.length rc)) :=
    fun w' ht => ⟨ht.cell (fun hx => HNB.out _ hx rfl) c3, ht.cell (fun hx => HNB.out _ hx rfl) c4, ht.cell (fun hx => HNB.out _ hx rfl) c5⟩
  have HTW := hide (Turn.refl (fp [(ca, chs C), (ha, hts Hs), (ra, crs R)]) W0)
  clear c0 c1 c2 c4 c5
  go_wp2_with fail
  refine (markChanS_k ca cc C n W0 (own3 HO0.out).1 l1 (by omega)).mono ?_
  rintro e w1 ⟨rfl, ho, ht⟩
  have HO1 : Hid (Own w1 [(ca, chs (marksChn n C.length)), (ha, hts Hs), (ra, crs R)]) := Own.upd (A := []) (B := [(ha, hts Hs), (ra, crs R)]) HO0.out ho (fpS_len (by rw [chs_len, chs_len, marksChn_len])) ht
  replace HTW := hide (HTW.out.trans' (ht.mono fp_in3.1))
  clear ho ht c3 HO0
  obtain ⟨-, c4, -⟩ := HCs.out w1 HTW.out
  go_wp2_with fail
  have e7 : ((n + 7 * C.length : Nat) : Int) = ((n + 7 * C.length : Nat) : Int) := rfl
  refine (markHtlcS_k ha hc Hs (n + 7 * C.length) w1 (own3 HO1.out).2.1 l2 (by omega)).mono ?_
  rintro e w2 ⟨rfl, ho, ht⟩
  have HO2 : Hid (Own w2 [(ca, chs (marksChn n C.length)), (ha, hts (marksHtl (n + 7 * C.length) Hs.length)), (ra, crs R)]) := Own.upd (A := [(ca, chs (marksChn n C.length))]) (B := [(ra, crs R)]) HO1.out ho (fpS_len (by rw [hts_len, hts_len, marksHtl_len])) ht
  replace HTW := hide (HTW.out.trans' (ht.mono fp_in3.2.1))
  clear ho ht c4 HO1
  obtain ⟨-, -, c5⟩ := HCs.out w2 HTW.out
  go_wp2_with fail
  refine (markCircleS_k ra rc R (n + 7 * C.length + 7 * Hs.length) w2 (own3 HO2.out).2.2 l3 (by omega)).mono ?_
  rintro e w3 ⟨rfl, ho, ht⟩
  have HO3 : Hid (Own w3 [(ca, chs (marksChn n C.length)), (ha, hts (marksHtl (n + 7 * C.length) Hs.length)), (ra, crs (marksCrc (n + 7 * C.length + 7 * Hs.length) R.length))]) := Own.upd (A := [(ca, chs (marksChn n C.length)), (ha, hts (marksHtl (n + 7 * C.length) Hs.length))]) (B := []) HO2.out ho (fpS_len (by rw [crs_len, crs_len, marksCrc_len])) ht
  replace HTW := hide (HTW.out.trans' (ht.mono fp_in3.2.2))
  clear ho ht c5 HO2
  go_wp2_with fail
  go_ret
  exact ⟨rfl, HO3.out, HT0.out.trans' HTW.out⟩
end Go.Proofs.YtjdbedlgkngdkaaGreatDoor
namespace Go.Proofs.YtjdbedlgkngdkaaGreatDoor
open Go.RowKit Go.Deep
set_option linter.unusedVariables false
theorem born_alloc (w : World) (c : Array Value) (t : TypeId) : Born w (w.alloc (.cells c t)) [(some ⟨w.heap.size, 0, none⟩, c.toList)] := by
  have hB : (w.alloc (.cells c t)).heap[w.heap.size]? = some (.cells c t (0, 0)) := blk_alloc_new w _
  revert hB
  generalize w.alloc (.cells c t) = W
  intro hB
  refine ⟨⟨?_, ?_, ?_⟩, ?_⟩
  · intro s hs
    rw [List.mem_singleton.1 hs]
    refine Or.inr ⟨_, 0, rfl, fun j hj => ?_⟩
    have hj' : j < c.size := by simpa using hj
    simp [World.cell?, hB, hj']
  · by_cases h0 : c.toList = [] <;> simp [fp, fpS, h0]
  · intro b hb
    by_cases h0 : c.toList = []
    · simp [fp, fpS, h0] at hb
    · simp [fp, fpS, h0] at hb
      subst hb
      intro o
      simp [World.frozen?, hB]
  · intro b hb
    by_cases h0 : c.toList = []
    · simp [fp, fpS, h0] at hb
    · simp [fp, fpS, h0] at hb
      omega
theorem cell_at {w : World} {b : Nat} {xs : List Value} (h : Mem w [(some ⟨b, 0, none⟩, xs)]) (j : Nat) (hj : j < xs.length) : w.cell? ⟨b, 0 + j, none⟩ = some xs[j] := by
  have h' := h (some ⟨b, 0, none⟩, xs) (by simp)
  rcases h' with h' | ⟨g, off, e, h'⟩
  · have : xs = [] := h'
    subst this
    simp at hj
  · have e' := Option.some.inj e
    injection e' with e1 e2
    subst e1 e2
    exact h' j hj
end Go.Proofs.YtjdbedlgkngdkaaGreatDoor
