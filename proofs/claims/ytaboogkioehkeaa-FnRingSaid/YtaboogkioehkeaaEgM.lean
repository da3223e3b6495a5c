/- Marks in lists of edges. -/
import Derived.Test.YtaboogkioehkeaaEgG
namespace Go.Proofs.Ytaboogkioehkeaa
open Go.RowKit Go.Deep
set_option linter.unusedVariables false
set_option linter.unusedSimpArgs false
set_option maxRecDepth 10000

/-- One with marks from n on. -/
def markEdg (n : Nat) : Edg := ⟨(n : Int), (n : Int) + 1, (n : Int) + 1 + 1, (n : Int) + 1 + 1 + 1⟩
def marksEdg (n k : Nat) : List Edg := (List.range k).map fun i => markEdg (n + 4 * i)
theorem marksEdg_succ (n k : Nat) : marksEdg n (k + 1) = marksEdg n k ++ [markEdg (n + 4 * k)] := by simp [marksEdg, List.range_succ]
theorem marksEdg_len (n k : Nat) : (marksEdg n k).length = k := by simp [marksEdg]
theorem egs_set0 (A B : List Edg) (x : Edg) (n : Int) {k : Nat} (hA : A.length = k) : (egs (A ++ x :: B)).set (k * 4) (.int .i64 n) = egs (A ++ ⟨n, x.to, x.cp, x.co⟩ :: B) := by
  subst hA
  have hl := egs_len A
  rw [egs_append, egs_append, List.set_append_right _ _ (by omega), hl]
  simp [egs, Edg.cells]
theorem egs_set1 (A B : List Edg) (x : Edg) (n : Int) {k : Nat} (hA : A.length = k) : (egs (A ++ x :: B)).set (k * 4 + 1) (.int .i64 n) = egs (A ++ ⟨x.fr, n, x.cp, x.co⟩ :: B) := by
  subst hA
  have hl := egs_len A
  rw [egs_append, egs_append, List.set_append_right _ _ (by omega), hl, show A.length * 4 + 1 - A.length * 4 = 1 by omega]
  simp [egs, Edg.cells]
theorem egs_set2 (A B : List Edg) (x : Edg) (n : Int) {k : Nat} (hA : A.length = k) : (egs (A ++ x :: B)).set (k * 4 + 2) (.int .i64 n) = egs (A ++ ⟨x.fr, x.to, n, x.co⟩ :: B) := by
  subst hA
  have hl := egs_len A
  rw [egs_append, egs_append, List.set_append_right _ _ (by omega), hl, show A.length * 4 + 2 - A.length * 4 = 2 by omega]
  simp [egs, Edg.cells]
theorem egs_set3 (A B : List Edg) (x : Edg) (n : Int) {k : Nat} (hA : A.length = k) : (egs (A ++ x :: B)).set (k * 4 + 3) (.int .i64 n) = egs (A ++ ⟨x.fr, x.to, x.cp, n⟩ :: B) := by
  subst hA
  have hl := egs_len A
  rw [egs_append, egs_append, List.set_append_right _ _ (by omega), hl, show A.length * 4 + 3 - A.length * 4 = 3 by omega]
  simp [egs, Edg.cells]
set_option maxHeartbeats 16000000 in
theorem markEdgeS_k (a : Option Addr) (cap : Nat) (ds : List Edg) (n : Nat) (w : World) (h : Own w [(a, egs ds)]) (hl : ds.length ≤ 1048576) (hn : n ≤ 1000000000) :
    Calls Try.prog 52 #[.slice a ds.length cap, .int .i64 (n : Int)] w fun e w' => e = .returned (.int .i64 ((n + 4 * ds.length : Nat) : Int)) ∧ Own w' [(a, egs (marksEdg n ds.length))] ∧ Turn (fp [(a, egs ds)]) w w' := by
  have HO := hide h
  clear h
  go_enter Try.func52, Try.ntmps52
  go_wp2_with fail
  go_loopw [1, 5] (fun x y wr => ∃ (k z : Nat), k ≤ ds.length ∧ Hid (n + 4 * k = z) ∧ x = .int .i64 (z : Int) ∧ y = .int .i64 (k : Int) ∧ Hid (Own wr [(a, egs (marksEdg n k ++ ds.drop k))]) ∧ Hid (Turn (fp [(a, egs ds)]) w wr)) (fun _ y _ => ds.length - (intOf y).toNat)
  case atStart => exact ⟨0, n, by omega, by show _ = _; simp, rfl, rfl, by show Own _ _; simpa [marksEdg] using HO.out, Turn.refl _ _⟩
  case round =>
    obtain ⟨k, z, hk, HZ, rfl, rfl, HO0, HT⟩ := hrel
    by_cases hlt : k < ds.length
    · have hz : z ≤ 1200000000 := by have := HZ.out; omega
      have HDr : Hid (ds.drop k = ds[k] :: ds.drop (k + 1)) := List.drop_eq_getElem_cons hlt
      have HLA : Hid ((marksEdg n k).length = k) := marksEdg_len n k
      have HTk : Hid (marksEdg n (k + 1) ++ ds.drop (k + 1) = marksEdg n k ++ Edg.mk ((z : Int)) ((z : Int) + 1) ((z : Int) + 1 + 1) ((z : Int) + 1 + 1 + 1) :: ds.drop (k + 1)) := by
        show _ = _
        rw [marksEdg_succ, ← HZ.out, List.append_assoc]; rfl
      have HZn : Hid (n + 4 * (k + 1) = z + 4) := by show _ = _; have := HZ.out; omega
      have HFE : Hid (fp [(a, egs (marksEdg n k ++ ds.drop k))] = fp [(a, egs ds)]) := by
        show _ = _
        rw [fp_one, fp_one]
        exact fpS_len (by rw [egs_len, egs_len, List.length_append, HLA.out, List.length_drop]; congr 1; omega)
      rw [HDr.out] at HO0 HFE
      generalize ds[k] = c at *
      obtain ⟨efr, eto, ecp, eco⟩ := c
      generalize marksEdg n k = A at *
      generalize hB : ds.drop (k + 1) = B at *
      have HBB := hide hB
      clear hB HZ
      have hcl : Cells wr a (egs (A ++ Edg.mk efr eto ecp eco :: B)) := HO0.out.mem (a, egs (A ++ Edg.mk efr eto ecp eco :: B)) (by simp)
      have hkl : k < (A ++ Edg.mk efr eto ecp eco :: B).length := by have := HLA.out; simp; omega
      obtain ⟨b, off, ea, c0, c1, c2, c3⟩ := egs_at hcl k hkl
      subst ea
      have he : (A ++ Edg.mk efr eto ecp eco :: B)[k] = Edg.mk efr eto ecp eco := by
        rw [List.getElem_append_right (by have := HLA.out; omega)]
        simp [HLA.out]
      rw [he] at c0 c1 c2 c3
      dsimp only at c0 c1 c2 c3
      have hne0 : egs (A ++ Edg.mk efr eto ecp eco :: B) ≠ [] := fun e => by
        have := egs_len (A ++ Edg.mk efr eto ecp eco :: B)
        rw [e] at this
        simp at this
      have hfp : fp [((some (⟨b, off, none⟩ : Addr)), egs (A ++ Edg.mk efr eto ecp eco :: B))] = [b] := by rw [fp_one, fpS_some hne0]
      have f0 : ∀ o, wr.frozen? ⟨b, o, none⟩ = false := HO0.out.free b (by rw [hfp]; simp)
      have z0 := f0 (off + k * 4)
      have z1 := f0 (off + k * 4 + 1)
      have z2 := f0 (off + k * 4 + 2)
      have z3 := f0 (off + k * 4 + 3)
      have HO1 : Hid (Own (wr.setCell ⟨b, off + k * 4, none⟩ (.int .i64 ((z : Int)))) [(some ⟨b, off, none⟩, egs (A ++ Edg.mk ((z : Int)) eto ecp eco :: B))]) := by
        have h1 := own_set HO0.out (k * 4) (.int .i64 ((z : Int))) (by rw [egs_len]; have := HLA.out; simp; omega)
        rw [egs_set0 A B _ _ HLA.out] at h1
        skip
        exact h1
      have HO2 : Hid (Own ((wr.setCell ⟨b, off + k * 4, none⟩ (.int .i64 ((z : Int)))).setCell ⟨b, off + k * 4 + 1, none⟩ (.int .i64 ((z : Int) + 1))) [(some ⟨b, off, none⟩, egs (A ++ Edg.mk ((z : Int)) ((z : Int) + 1) ecp eco :: B))]) := by
        have h1 := own_set HO1.out (k * 4 + 1) (.int .i64 ((z : Int) + 1)) (by rw [egs_len]; have := HLA.out; simp; omega)
        rw [egs_set1 A B _ _ HLA.out] at h1
        rw [← Nat.add_assoc] at h1
        exact h1
      have HO3 : Hid (Own (((wr.setCell ⟨b, off + k * 4, none⟩ (.int .i64 ((z : Int)))).setCell ⟨b, off + k * 4 + 1, none⟩ (.int .i64 ((z : Int) + 1))).setCell ⟨b, off + k * 4 + 2, none⟩ (.int .i64 ((z : Int) + 1 + 1))) [(some ⟨b, off, none⟩, egs (A ++ Edg.mk ((z : Int)) ((z : Int) + 1) ((z : Int) + 1 + 1) eco :: B))]) := by
        have h1 := own_set HO2.out (k * 4 + 2) (.int .i64 ((z : Int) + 1 + 1)) (by rw [egs_len]; have := HLA.out; simp; omega)
        rw [egs_set2 A B _ _ HLA.out] at h1
        rw [← Nat.add_assoc] at h1
        exact h1
      have HO4 : Hid (Own ((((wr.setCell ⟨b, off + k * 4, none⟩ (.int .i64 ((z : Int)))).setCell ⟨b, off + k * 4 + 1, none⟩ (.int .i64 ((z : Int) + 1))).setCell ⟨b, off + k * 4 + 2, none⟩ (.int .i64 ((z : Int) + 1 + 1))).setCell ⟨b, off + k * 4 + 3, none⟩ (.int .i64 ((z : Int) + 1 + 1 + 1))) [(some ⟨b, off, none⟩, egs (A ++ Edg.mk ((z : Int)) ((z : Int) + 1) ((z : Int) + 1 + 1) ((z : Int) + 1 + 1 + 1) :: B))]) := by
        have h1 := own_set HO3.out (k * 4 + 3) (.int .i64 ((z : Int) + 1 + 1 + 1)) (by rw [egs_len]; have := HLA.out; simp; omega)
        rw [egs_set3 A B _ _ HLA.out] at h1
        rw [← Nat.add_assoc] at h1
        exact h1
      have d1 : (wr.setCell ⟨b, off + k * 4, none⟩ (.int .i64 ((z : Int)))).cell? ⟨b, off + k * 4 + 1, none⟩ = some (.int .i64 eto) := by
        rw [World.cell?_setCell_other _ _ _ _ (by simp)]; exact c1
      have d2 : ((wr.setCell ⟨b, off + k * 4, none⟩ (.int .i64 ((z : Int)))).setCell ⟨b, off + k * 4 + 1, none⟩ (.int .i64 ((z : Int) + 1))).cell? ⟨b, off + k * 4 + 2, none⟩ = some (.int .i64 ecp) := by
        rw [World.cell?_setCell_other _ _ _ _ (by simp), World.cell?_setCell_other _ _ _ _ (by simp)]; exact c2
      have d3 : (((wr.setCell ⟨b, off + k * 4, none⟩ (.int .i64 ((z : Int)))).setCell ⟨b, off + k * 4 + 1, none⟩ (.int .i64 ((z : Int) + 1))).setCell ⟨b, off + k * 4 + 2, none⟩ (.int .i64 ((z : Int) + 1 + 1))).cell? ⟨b, off + k * 4 + 3, none⟩ = some (.int .i64 eco) := by
        rw [World.cell?_setCell_other _ _ _ _ (by simp), World.cell?_setCell_other _ _ _ _ (by simp), World.cell?_setCell_other _ _ _ _ (by simp)]; exact c3
      have HTw : Hid (Turn (fp [((some (⟨b, off, none⟩ : Addr)), egs ds)]) w ((((wr.setCell ⟨b, off + k * 4, none⟩ (.int .i64 ((z : Int)))).setCell ⟨b, off + k * 4 + 1, none⟩ (.int .i64 ((z : Int) + 1))).setCell ⟨b, off + k * 4 + 2, none⟩ (.int .i64 ((z : Int) + 1 + 1))).setCell ⟨b, off + k * 4 + 3, none⟩ (.int .i64 ((z : Int) + 1 + 1 + 1)))) := by
        have h2 : Turn [b] wr ((((wr.setCell ⟨b, off + k * 4, none⟩ (.int .i64 ((z : Int)))).setCell ⟨b, off + k * 4 + 1, none⟩ (.int .i64 ((z : Int) + 1))).setCell ⟨b, off + k * 4 + 2, none⟩ (.int .i64 ((z : Int) + 1 + 1))).setCell ⟨b, off + k * 4 + 3, none⟩ (.int .i64 ((z : Int) + 1 + 1 + 1))) := ((((Turn.set (by simp) _).trans' (Turn.set (by simp) _)).trans' (Turn.set (by simp) _)).trans' (Turn.set (by simp) _))
        rw [← HFE.out, hfp] at HT ⊢
        exact HT.out.trans' h2
      clear HO0 HO1 HO2 HO3 hcl he f0 HT HFE hfp
      go_wp2_with fail
      go_roundw
      case rel => exact ⟨k + 1, z + 4, by omega, HZn, congrArg (Value.int .i64) (by omega), by go_num, (by show Own _ _; rw [HBB.out, HTk.out]; exact HO4.out), HTw⟩
      case measure => simp [intOf]; omega
    · have e : k = ds.length := by omega
      subst e
      have HZ2 := hide HZ.out
      go_wp2_with fail
      go_ret
      have h2 := HO0.out
      rw [List.drop_length, List.append_nil] at h2
      exact ⟨by rw [HZ2.out]; rfl, h2, HT.out⟩
end Go.Proofs.Ytaboogkioehkeaa
