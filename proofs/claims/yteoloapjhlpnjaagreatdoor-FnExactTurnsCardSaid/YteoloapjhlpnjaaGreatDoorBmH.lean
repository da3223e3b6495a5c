/- Marks in lists of Htlc. -/
import Derived.Test.YteoloapjhlpnjaaGreatDoorBgH
namespace Go.Proofs.YteoloapjhlpnjaaGreatDoor
open Go.RowKit Go.Deep
set_option linter.unusedVariables false
set_option linter.unusedSimpArgs false
set_option maxRecDepth 10000

/-- One with marks from n on. -/
def markHtl (n : Nat) : Htl := ⟨(n : Int), (n : Int) + 1, (n : Int) + 1 + 1, (n : Int) + 1 + 1 + 1, (n : Int) + 1 + 1 + 1 + 1, decide ((n + 1 + 1 + 1 + 1 + 1) % 3 = 0), (n : Int) + 1 + 1 + 1 + 1 + 1 + 1⟩
def marksHtl (n k : Nat) : List Htl := (List.range k).map fun i => markHtl (n + 7 * i)
theorem marksHtl_succ (n k : Nat) : marksHtl n (k + 1) = marksHtl n k ++ [markHtl (n + 7 * k)] := by simp [marksHtl, List.range_succ]
theorem marksHtl_len (n k : Nat) : (marksHtl n k).length = k := by simp [marksHtl]
theorem hts_set0 (A B : List Htl) (x : Htl) (n : Int) {k : Nat} (hA : A.length = k) : (hts (A ++ x :: B)).set (k * 7) (.int .i64 n) = hts (A ++ ⟨n, x.inn, x.out, x.ai, x.ao, x.kp, x.ag⟩ :: B) := by
  subst hA
  have hl := hts_len A
  rw [hts_append, hts_append, List.set_append_right _ _ (by omega), hl]
  simp [hts, Htl.cells]
theorem hts_set1 (A B : List Htl) (x : Htl) (n : Int) {k : Nat} (hA : A.length = k) : (hts (A ++ x :: B)).set (k * 7 + 1) (.int .i64 n) = hts (A ++ ⟨x.ky, n, x.out, x.ai, x.ao, x.kp, x.ag⟩ :: B) := by
  subst hA
  have hl := hts_len A
  rw [hts_append, hts_append, List.set_append_right _ _ (by omega), hl, show A.length * 7 + 1 - A.length * 7 = 1 by omega]
  simp [hts, Htl.cells]
theorem hts_set2 (A B : List Htl) (x : Htl) (n : Int) {k : Nat} (hA : A.length = k) : (hts (A ++ x :: B)).set (k * 7 + 2) (.int .i64 n) = hts (A ++ ⟨x.ky, x.inn, n, x.ai, x.ao, x.kp, x.ag⟩ :: B) := by
  subst hA
  have hl := hts_len A
  rw [hts_append, hts_append, List.set_append_right _ _ (by omega), hl, show A.length * 7 + 2 - A.length * 7 = 2 by omega]
  simp [hts, Htl.cells]
theorem hts_set3 (A B : List Htl) (x : Htl) (n : Int) {k : Nat} (hA : A.length = k) : (hts (A ++ x :: B)).set (k * 7 + 3) (.int .i64 n) = hts (A ++ ⟨x.ky, x.inn, x.out, n, x.ao, x.kp, x.ag⟩ :: B) := by
  subst hA
  have hl := hts_len A
  rw [hts_append, hts_append, List.set_append_right _ _ (by omega), hl, show A.length * 7 + 3 - A.length * 7 = 3 by omega]
  simp [hts, Htl.cells]
theorem hts_set4 (A B : List Htl) (x : Htl) (n : Int) {k : Nat} (hA : A.length = k) : (hts (A ++ x :: B)).set (k * 7 + 4) (.int .i64 n) = hts (A ++ ⟨x.ky, x.inn, x.out, x.ai, n, x.kp, x.ag⟩ :: B) := by
  subst hA
  have hl := hts_len A
  rw [hts_append, hts_append, List.set_append_right _ _ (by omega), hl, show A.length * 7 + 4 - A.length * 7 = 4 by omega]
  simp [hts, Htl.cells]
theorem hts_set5 (A B : List Htl) (x : Htl) (n : Bool) {k : Nat} (hA : A.length = k) : (hts (A ++ x :: B)).set (k * 7 + 5) (.bool n) = hts (A ++ ⟨x.ky, x.inn, x.out, x.ai, x.ao, n, x.ag⟩ :: B) := by
  subst hA
  have hl := hts_len A
  rw [hts_append, hts_append, List.set_append_right _ _ (by omega), hl, show A.length * 7 + 5 - A.length * 7 = 5 by omega]
  simp [hts, Htl.cells]
theorem hts_set6 (A B : List Htl) (x : Htl) (n : Int) {k : Nat} (hA : A.length = k) : (hts (A ++ x :: B)).set (k * 7 + 6) (.int .i64 n) = hts (A ++ ⟨x.ky, x.inn, x.out, x.ai, x.ao, x.kp, n⟩ :: B) := by
  subst hA
  have hl := hts_len A
  rw [hts_append, hts_append, List.set_append_right _ _ (by omega), hl, show A.length * 7 + 6 - A.length * 7 = 6 by omega]
  simp [hts, Htl.cells]
set_option maxHeartbeats 16000000 in
theorem markHtlcS_k (a : Option Addr) (cap : Nat) (ds : List Htl) (n : Nat) (w : World) (h : Own w [(a, hts ds)]) (hl : ds.length ≤ 1048576) (hn : n ≤ 1000000000) :
    Calls Tryz.prog 53 #[.slice a ds.length cap, .int .i64 (n : Int)] w fun e w' => e = .returned (.int .i64 ((n + 7 * ds.length : Nat) : Int)) ∧ Own w' [(a, hts (marksHtl n ds.length))] ∧ Turn (fp [(a, hts ds)]) w w' := by
  have HO := hide h
  clear h
  go_enter Tryz.func53, Tryz.ntmps53
  go_wp2_with fail
  go_loopw [1, 5] (fun x y wr => ∃ (k z : Nat), k ≤ ds.length ∧ Hid (n + 7 * k = z) ∧ x = .int .i64 (z : Int) ∧ y = .int .i64 (k : Int) ∧ Hid (Own wr [(a, hts (marksHtl n k ++ ds.drop k))]) ∧ Hid (Turn (fp [(a, hts ds)]) w wr)) (fun _ y _ => ds.length - (intOf y).toNat)
  case atStart => exact ⟨0, n, by omega, by show _ = _; simp, rfl, rfl, by show Own _ _; simpa [marksHtl] using HO.out, Turn.refl _ _⟩
  case round =>
    obtain ⟨k, z, hk, HZ, rfl, rfl, HO0, HT⟩ := hrel
    by_cases hlt : k < ds.length
    · have hz : z ≤ 1200000000 := by have := HZ.out; omega
      have HDr : Hid (ds.drop k = ds[k] :: ds.drop (k + 1)) := List.drop_eq_getElem_cons hlt
      have HLA : Hid ((marksHtl n k).length = k) := marksHtl_len n k
      have HTk : Hid (marksHtl n (k + 1) ++ ds.drop (k + 1) = marksHtl n k ++ Htl.mk ((z : Int)) ((z : Int) + 1) ((z : Int) + 1 + 1) ((z : Int) + 1 + 1 + 1) ((z : Int) + 1 + 1 + 1 + 1) (decide ((z + 1 + 1 + 1 + 1 + 1) % 3 = 0)) ((z : Int) + 1 + 1 + 1 + 1 + 1 + 1) :: ds.drop (k + 1)) := by
        show _ = _
        rw [marksHtl_succ, ← HZ.out, List.append_assoc]; rfl
      have HZn : Hid (n + 7 * (k + 1) = z + 7) := by show _ = _; have := HZ.out; omega
      have HFE : Hid (fp [(a, hts (marksHtl n k ++ ds.drop k))] = fp [(a, hts ds)]) := by
        show _ = _
        rw [fp_one, fp_one]
        exact fpS_len (by rw [hts_len, hts_len, List.length_append, HLA.out, List.length_drop]; congr 1; omega)
      rw [HDr.out] at HO0 HFE
      generalize ds[k] = c at *
      obtain ⟨eky, einn, eout, eai, eao, ekp, eag⟩ := c
      generalize marksHtl n k = A at *
      generalize hB : ds.drop (k + 1) = B at *
      have HBB := hide hB
      clear hB HZ
      have hcl : Cells wr a (hts (A ++ Htl.mk eky einn eout eai eao ekp eag :: B)) := HO0.out.mem (a, hts (A ++ Htl.mk eky einn eout eai eao ekp eag :: B)) (by simp)
      have hkl : k < (A ++ Htl.mk eky einn eout eai eao ekp eag :: B).length := by have := HLA.out; simp; omega
      obtain ⟨b, off, ea, c0, c1, c2, c3, c4, c5, c6⟩ := hts_at hcl k hkl
      subst ea
      have he : (A ++ Htl.mk eky einn eout eai eao ekp eag :: B)[k] = Htl.mk eky einn eout eai eao ekp eag := by
        rw [List.getElem_append_right (by have := HLA.out; omega)]
        simp [HLA.out]
      rw [he] at c0 c1 c2 c3 c4 c5 c6
      dsimp only at c0 c1 c2 c3 c4 c5 c6
      have hne0 : hts (A ++ Htl.mk eky einn eout eai eao ekp eag :: B) ≠ [] := fun e => by
        have := hts_len (A ++ Htl.mk eky einn eout eai eao ekp eag :: B)
        rw [e] at this
        simp at this
      have hfp : fp [((some (⟨b, off, none⟩ : Addr)), hts (A ++ Htl.mk eky einn eout eai eao ekp eag :: B))] = [b] := by rw [fp_one, fpS_some hne0]
      have f0 : ∀ o, wr.frozen? ⟨b, o, none⟩ = false := HO0.out.free b (by rw [hfp]; simp)
      have z0 := f0 (off + k * 7)
      have z1 := f0 (off + k * 7 + 1)
      have z2 := f0 (off + k * 7 + 2)
      have z3 := f0 (off + k * 7 + 3)
      have z4 := f0 (off + k * 7 + 4)
      have z5 := f0 (off + k * 7 + 5)
      have z6 := f0 (off + k * 7 + 6)
      have HO1 : Hid (Own (wr.setCell ⟨b, off + k * 7, none⟩ (.int .i64 ((z : Int)))) [(some ⟨b, off, none⟩, hts (A ++ Htl.mk ((z : Int)) einn eout eai eao ekp eag :: B))]) := by
        have h1 := own_set HO0.out (k * 7) (.int .i64 ((z : Int))) (by rw [hts_len]; have := HLA.out; simp; omega)
        rw [hts_set0 A B _ _ HLA.out] at h1
        skip
        exact h1
      have HO2 : Hid (Own ((wr.setCell ⟨b, off + k * 7, none⟩ (.int .i64 ((z : Int)))).setCell ⟨b, off + k * 7 + 1, none⟩ (.int .i64 ((z : Int) + 1))) [(some ⟨b, off, none⟩, hts (A ++ Htl.mk ((z : Int)) ((z : Int) + 1) eout eai eao ekp eag :: B))]) := by
        have h1 := own_set HO1.out (k * 7 + 1) (.int .i64 ((z : Int) + 1)) (by rw [hts_len]; have := HLA.out; simp; omega)
        rw [hts_set1 A B _ _ HLA.out] at h1
        rw [← Nat.add_assoc] at h1
        exact h1
      have HO3 : Hid (Own (((wr.setCell ⟨b, off + k * 7, none⟩ (.int .i64 ((z : Int)))).setCell ⟨b, off + k * 7 + 1, none⟩ (.int .i64 ((z : Int) + 1))).setCell ⟨b, off + k * 7 + 2, none⟩ (.int .i64 ((z : Int) + 1 + 1))) [(some ⟨b, off, none⟩, hts (A ++ Htl.mk ((z : Int)) ((z : Int) + 1) ((z : Int) + 1 + 1) eai eao ekp eag :: B))]) := by
        have h1 := own_set HO2.out (k * 7 + 2) (.int .i64 ((z : Int) + 1 + 1)) (by rw [hts_len]; have := HLA.out; simp; omega)
        rw [hts_set2 A B _ _ HLA.out] at h1
        rw [← Nat.add_assoc] at h1
        exact h1
      have HO4 : Hid (Own ((((wr.setCell ⟨b, off + k * 7, none⟩ (.int .i64 ((z : Int)))).setCell ⟨b, off + k * 7 + 1, none⟩ (.int .i64 ((z : Int) + 1))).setCell ⟨b, off + k * 7 + 2, none⟩ (.int .i64 ((z : Int) + 1 + 1))).setCell ⟨b, off + k * 7 + 3, none⟩ (.int .i64 ((z : Int) + 1 + 1 + 1))) [(some ⟨b, off, none⟩, hts (A ++ Htl.mk ((z : Int)) ((z : Int) + 1) ((z : Int) + 1 + 1) ((z : Int) + 1 + 1 + 1) eao ekp eag :: B))]) := by
        have h1 := own_set HO3.out (k * 7 + 3) (.int .i64 ((z : Int) + 1 + 1 + 1)) (by rw [hts_len]; have := HLA.out; simp; omega)
        rw [hts_set3 A B _ _ HLA.out] at h1
        rw [← Nat.add_assoc] at h1
        exact h1
      have HO5 : Hid (Own (((((wr.setCell ⟨b, off + k * 7, none⟩ (.int .i64 ((z : Int)))).setCell ⟨b, off + k * 7 + 1, none⟩ (.int .i64 ((z : Int) + 1))).setCell ⟨b, off + k * 7 + 2, none⟩ (.int .i64 ((z : Int) + 1 + 1))).setCell ⟨b, off + k * 7 + 3, none⟩ (.int .i64 ((z : Int) + 1 + 1 + 1))).setCell ⟨b, off + k * 7 + 4, none⟩ (.int .i64 ((z : Int) + 1 + 1 + 1 + 1))) [(some ⟨b, off, none⟩, hts (A ++ Htl.mk ((z : Int)) ((z : Int) + 1) ((z : Int) + 1 + 1) ((z : Int) + 1 + 1 + 1) ((z : Int) + 1 + 1 + 1 + 1) ekp eag :: B))]) := by
        have h1 := own_set HO4.out (k * 7 + 4) (.int .i64 ((z : Int) + 1 + 1 + 1 + 1)) (by rw [hts_len]; have := HLA.out; simp; omega)
        rw [hts_set4 A B _ _ HLA.out] at h1
        rw [← Nat.add_assoc] at h1
        exact h1
      have HO6 : Hid (Own ((((((wr.setCell ⟨b, off + k * 7, none⟩ (.int .i64 ((z : Int)))).setCell ⟨b, off + k * 7 + 1, none⟩ (.int .i64 ((z : Int) + 1))).setCell ⟨b, off + k * 7 + 2, none⟩ (.int .i64 ((z : Int) + 1 + 1))).setCell ⟨b, off + k * 7 + 3, none⟩ (.int .i64 ((z : Int) + 1 + 1 + 1))).setCell ⟨b, off + k * 7 + 4, none⟩ (.int .i64 ((z : Int) + 1 + 1 + 1 + 1))).setCell ⟨b, off + k * 7 + 5, none⟩ (.bool (decide ((z + 1 + 1 + 1 + 1 + 1) % 3 = 0)))) [(some ⟨b, off, none⟩, hts (A ++ Htl.mk ((z : Int)) ((z : Int) + 1) ((z : Int) + 1 + 1) ((z : Int) + 1 + 1 + 1) ((z : Int) + 1 + 1 + 1 + 1) (decide ((z + 1 + 1 + 1 + 1 + 1) % 3 = 0)) eag :: B))]) := by
        have h1 := own_set HO5.out (k * 7 + 5) (.bool (decide ((z + 1 + 1 + 1 + 1 + 1) % 3 = 0))) (by rw [hts_len]; have := HLA.out; simp; omega)
        rw [hts_set5 A B _ _ HLA.out] at h1
        rw [← Nat.add_assoc] at h1
        exact h1
      have HO7 : Hid (Own (((((((wr.setCell ⟨b, off + k * 7, none⟩ (.int .i64 ((z : Int)))).setCell ⟨b, off + k * 7 + 1, none⟩ (.int .i64 ((z : Int) + 1))).setCell ⟨b, off + k * 7 + 2, none⟩ (.int .i64 ((z : Int) + 1 + 1))).setCell ⟨b, off + k * 7 + 3, none⟩ (.int .i64 ((z : Int) + 1 + 1 + 1))).setCell ⟨b, off + k * 7 + 4, none⟩ (.int .i64 ((z : Int) + 1 + 1 + 1 + 1))).setCell ⟨b, off + k * 7 + 5, none⟩ (.bool (decide ((z + 1 + 1 + 1 + 1 + 1) % 3 = 0)))).setCell ⟨b, off + k * 7 + 6, none⟩ (.int .i64 ((z : Int) + 1 + 1 + 1 + 1 + 1 + 1))) [(some ⟨b, off, none⟩, hts (A ++ Htl.mk ((z : Int)) ((z : Int) + 1) ((z : Int) + 1 + 1) ((z : Int) + 1 + 1 + 1) ((z : Int) + 1 + 1 + 1 + 1) (decide ((z + 1 + 1 + 1 + 1 + 1) % 3 = 0)) ((z : Int) + 1 + 1 + 1 + 1 + 1 + 1) :: B))]) := by
        have h1 := own_set HO6.out (k * 7 + 6) (.int .i64 ((z : Int) + 1 + 1 + 1 + 1 + 1 + 1)) (by rw [hts_len]; have := HLA.out; simp; omega)
        rw [hts_set6 A B _ _ HLA.out] at h1
        rw [← Nat.add_assoc] at h1
        exact h1
      have d1 : (wr.setCell ⟨b, off + k * 7, none⟩ (.int .i64 ((z : Int)))).cell? ⟨b, off + k * 7 + 1, none⟩ = some (.int .i64 einn) := by
        rw [World.cell?_setCell_other _ _ _ _ (by simp)]; exact c1
      have d2 : ((wr.setCell ⟨b, off + k * 7, none⟩ (.int .i64 ((z : Int)))).setCell ⟨b, off + k * 7 + 1, none⟩ (.int .i64 ((z : Int) + 1))).cell? ⟨b, off + k * 7 + 2, none⟩ = some (.int .i64 eout) := by
        rw [World.cell?_setCell_other _ _ _ _ (by simp), World.cell?_setCell_other _ _ _ _ (by simp)]; exact c2
      have d3 : (((wr.setCell ⟨b, off + k * 7, none⟩ (.int .i64 ((z : Int)))).setCell ⟨b, off + k * 7 + 1, none⟩ (.int .i64 ((z : Int) + 1))).setCell ⟨b, off + k * 7 + 2, none⟩ (.int .i64 ((z : Int) + 1 + 1))).cell? ⟨b, off + k * 7 + 3, none⟩ = some (.int .i64 eai) := by
        rw [World.cell?_setCell_other _ _ _ _ (by simp), World.cell?_setCell_other _ _ _ _ (by simp), World.cell?_setCell_other _ _ _ _ (by simp)]; exact c3
      have d4 : ((((wr.setCell ⟨b, off + k * 7, none⟩ (.int .i64 ((z : Int)))).setCell ⟨b, off + k * 7 + 1, none⟩ (.int .i64 ((z : Int) + 1))).setCell ⟨b, off + k * 7 + 2, none⟩ (.int .i64 ((z : Int) + 1 + 1))).setCell ⟨b, off + k * 7 + 3, none⟩ (.int .i64 ((z : Int) + 1 + 1 + 1))).cell? ⟨b, off + k * 7 + 4, none⟩ = some (.int .i64 eao) := by
        rw [World.cell?_setCell_other _ _ _ _ (by simp), World.cell?_setCell_other _ _ _ _ (by simp), World.cell?_setCell_other _ _ _ _ (by simp), World.cell?_setCell_other _ _ _ _ (by simp)]; exact c4
      have d5 : (((((wr.setCell ⟨b, off + k * 7, none⟩ (.int .i64 ((z : Int)))).setCell ⟨b, off + k * 7 + 1, none⟩ (.int .i64 ((z : Int) + 1))).setCell ⟨b, off + k * 7 + 2, none⟩ (.int .i64 ((z : Int) + 1 + 1))).setCell ⟨b, off + k * 7 + 3, none⟩ (.int .i64 ((z : Int) + 1 + 1 + 1))).setCell ⟨b, off + k * 7 + 4, none⟩ (.int .i64 ((z : Int) + 1 + 1 + 1 + 1))).cell? ⟨b, off + k * 7 + 5, none⟩ = some (.bool ekp) := by
        rw [World.cell?_setCell_other _ _ _ _ (by simp), World.cell?_setCell_other _ _ _ _ (by simp), World.cell?_setCell_other _ _ _ _ (by simp), World.cell?_setCell_other _ _ _ _ (by simp), World.cell?_setCell_other _ _ _ _ (by simp)]; exact c5
      have d6 : ((((((wr.setCell ⟨b, off + k * 7, none⟩ (.int .i64 ((z : Int)))).setCell ⟨b, off + k * 7 + 1, none⟩ (.int .i64 ((z : Int) + 1))).setCell ⟨b, off + k * 7 + 2, none⟩ (.int .i64 ((z : Int) + 1 + 1))).setCell ⟨b, off + k * 7 + 3, none⟩ (.int .i64 ((z : Int) + 1 + 1 + 1))).setCell ⟨b, off + k * 7 + 4, none⟩ (.int .i64 ((z : Int) + 1 + 1 + 1 + 1))).setCell ⟨b, off + k * 7 + 5, none⟩ (.bool (decide ((z + 1 + 1 + 1 + 1 + 1) % 3 = 0)))).cell? ⟨b, off + k * 7 + 6, none⟩ = some (.int .i64 eag) := by
        rw [World.cell?_setCell_other _ _ _ _ (by simp), World.cell?_setCell_other _ _ _ _ (by simp), World.cell?_setCell_other _ _ _ _ (by simp), World.cell?_setCell_other _ _ _ _ (by simp), World.cell?_setCell_other _ _ _ _ (by simp), World.cell?_setCell_other _ _ _ _ (by simp)]; exact c6
      have hm3_5 : (((z : Int) + 1 + 1 + 1 + 1 + 1) % 3 == 0) = decide ((z + 1 + 1 + 1 + 1 + 1) % 3 = 0) := by
        by_cases h3 : (z + 1 + 1 + 1 + 1 + 1) % 3 = 0
        · rw [decide_eq_true h3]; simp; omega
        · rw [decide_eq_false h3]; simp; omega
      have HTw : Hid (Turn (fp [((some (⟨b, off, none⟩ : Addr)), hts ds)]) w (((((((wr.setCell ⟨b, off + k * 7, none⟩ (.int .i64 ((z : Int)))).setCell ⟨b, off + k * 7 + 1, none⟩ (.int .i64 ((z : Int) + 1))).setCell ⟨b, off + k * 7 + 2, none⟩ (.int .i64 ((z : Int) + 1 + 1))).setCell ⟨b, off + k * 7 + 3, none⟩ (.int .i64 ((z : Int) + 1 + 1 + 1))).setCell ⟨b, off + k * 7 + 4, none⟩ (.int .i64 ((z : Int) + 1 + 1 + 1 + 1))).setCell ⟨b, off + k * 7 + 5, none⟩ (.bool (decide ((z + 1 + 1 + 1 + 1 + 1) % 3 = 0)))).setCell ⟨b, off + k * 7 + 6, none⟩ (.int .i64 ((z : Int) + 1 + 1 + 1 + 1 + 1 + 1)))) := by
        have h2 : Turn [b] wr (((((((wr.setCell ⟨b, off + k * 7, none⟩ (.int .i64 ((z : Int)))).setCell ⟨b, off + k * 7 + 1, none⟩ (.int .i64 ((z : Int) + 1))).setCell ⟨b, off + k * 7 + 2, none⟩ (.int .i64 ((z : Int) + 1 + 1))).setCell ⟨b, off + k * 7 + 3, none⟩ (.int .i64 ((z : Int) + 1 + 1 + 1))).setCell ⟨b, off + k * 7 + 4, none⟩ (.int .i64 ((z : Int) + 1 + 1 + 1 + 1))).setCell ⟨b, off + k * 7 + 5, none⟩ (.bool (decide ((z + 1 + 1 + 1 + 1 + 1) % 3 = 0)))).setCell ⟨b, off + k * 7 + 6, none⟩ (.int .i64 ((z : Int) + 1 + 1 + 1 + 1 + 1 + 1))) := (((((((Turn.set (by simp) _).trans' (Turn.set (by simp) _)).trans' (Turn.set (by simp) _)).trans' (Turn.set (by simp) _)).trans' (Turn.set (by simp) _)).trans' (Turn.set (by simp) _)).trans' (Turn.set (by simp) _))
        rw [← HFE.out, hfp] at HT ⊢
        exact HT.out.trans' h2
      clear HO0 HO1 HO2 HO3 HO4 HO5 HO6 hcl he f0 HT HFE hfp
      go_wp2_with fail
      go_roundw
      case rel => exact ⟨k + 1, z + 7, by omega, HZn, congrArg (Value.int .i64) (by omega), by go_num, (by show Own _ _; rw [HBB.out, HTk.out]; exact HO7.out), HTw⟩
      case measure => simp [intOf]; omega
    · have e : k = ds.length := by omega
      subst e
      have HZ2 := hide HZ.out
      go_wp2_with fail
      go_ret
      have h2 := HO0.out
      rw [List.drop_length, List.append_nil] at h2
      exact ⟨by rw [HZ2.out]; rfl, h2, HT.out⟩
end Go.Proofs.YteoloapjhlpnjaaGreatDoor
