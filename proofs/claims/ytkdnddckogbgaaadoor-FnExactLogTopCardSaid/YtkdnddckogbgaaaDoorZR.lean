/- A reader's take and zeros, by contract. -/
import Derived.Test.YtkdnddckogbgaaaDoorSRM
import Derived.Test.YtkdnddckogbgaaaDoorGN2
namespace Go.Proofs.YtkdnddckogbgaaaDoor
open Go.RowKit Go.Deep
set_option linter.unusedVariables false
set_option linter.unusedSimpArgs false
set_option maxRecDepth 10000

theorem take_t (B b off : Nat) (L : List UInt8) (cap p c : Nat) (w : World) (hr : Rd w B (some ⟨b, off, none⟩) L cap p) (hl : L.length ≤ 16777216) (hcap : L.length ≤ cap) (hcm : cap ≤ 9223372036854775807) (hc1 : c ≤ 1000) (h : p + c ≤ L.length) (hpc : p < cap) :
    Calls Tryd.prog 73 #[.pointer (some ⟨B, 0, none⟩), .int .i64 (c : Int)] w fun e w' => e = .returned (.slice (some ⟨b, off + p, none⟩) c (cap - p)) ∧ Rd w' B (some ⟨b, off, none⟩) L cap (p + c : Nat) ∧ Turn [B] w w' := by
  refine (take_yes B b off L cap p c w hr hl hcap hcm hc1 h hpc).mono ?_
  rintro e w' ⟨rfl, m, rfl⟩
  refine ⟨rfl, ⟨?_, ?_, ?_⟩, ?_⟩
  · rw [World.cell?_setCell_other _ _ _ _ (by simp)]; simpa using hr.data
  · exact World.cell?_setCell_same _ _ _ (u := .int .i64 p) (by simpa using hr.place)
  · rw [frozen_set]; simpa using hr.free
  · exact Turn.trans' (Turn.of_keeps ((Keeps.refl w).drewN m) [B]) (Turn.set (by simp) _)
theorem cells_cut {w : World} {b off : Nat} {L : List UInt8} (hc : Cells w (some ⟨b, off, none⟩) (bys L)) (p s : Nat) (h : p + s ≤ L.length) : Cells w (some ⟨b, off + p, none⟩) (bys (cut L p s)) := by
  refine Or.inr ⟨b, off + p, rfl, fun j hj => ?_⟩
  rw [bys_length, cut_length h] at hj
  obtain ⟨b', off', e, hcell⟩ := bys_at hc (p + j) (by omega)
  have e' := Option.some.inj e
  injection e' with e1 e2
  subst e1 e2
  rw [← Nat.add_assoc] at hcell
  rw [hcell]
  simp [bys, byV, cut]
theorem cells_turnB {w w' : World} {b off B : Nat} {L : List UInt8} (hc : Cells w (some ⟨b, off, none⟩) (bys L)) (ht : Turn [B] w w') (hne : b ≠ B) : Cells w' (some ⟨b, off, none⟩) (bys L) :=
  Cells.turn (s := (some ⟨b, off, none⟩, bys L)) hc ht (fun x hx hb => by
    have h1 : x = B := by simpa using hb
    subst h1
    by_cases h0 : bys L = []
    · simp [fpS, h0] at hx
    · rw [fpS_some h0] at hx
      exact hne ((show x = b by simpa using hx).symm))
theorem zeros_get {X : List UInt8} {c k : Nat} (h : X = List.replicate c 0) (hk : k < X.length) : X[k] = 0 := by subst h; simp
theorem zeros_all {X : List UInt8} {c : Nat} (hl : X.length = c) (h : ∀ k (hk : k < X.length), X[k] = 0) : X = List.replicate c 0 := by
  refine List.ext_getElem (by simp [hl]) fun k h1 h2 => ?_
  rw [h k h1]; simp
set_option maxHeartbeats 4000000 in
theorem zeros_yes (B b off : Nat) (L : List UInt8) (cap p c : Nat) (cnt : Int) (hcnt : cnt = c) (w : World) (hr : Rd w B (some ⟨b, off, none⟩) L cap p) (hne : b ≠ B) (hc : Cells w (some ⟨b, off, none⟩) (bys L)) (hl : L.length ≤ 16777216) (hcap : L.length ≤ cap) (hcm : cap ≤ 9223372036854775807) (hc1 : c ≤ 1000) (h : p + c ≤ L.length) (hpc : p < cap) (hz : cut L p c = List.replicate c 0) :
    Calls Tryd.prog 74 #[.pointer (some ⟨B, 0, none⟩), .int .i64 cnt] w fun e w' => e = .returned (.tuple #[]) ∧ Rd w' B (some ⟨b, off, none⟩) L cap (p + c : Nat) ∧ Turn [B] w w' := by
  subst hcnt
  have HT := hide (take_t B b off L cap p c w hr hl hcap hcm hc1 h hpc)
  have HX := hide (fun (w' : World) (ht : Turn [B] w w') => cells_cut (cells_turnB hc ht hne) p c h)
  have HLn : Hid ((cut L p c).length = c) := cut_length h
  have HZ := hide hz
  clear hr hc hz h hcap hl hpc hcm hne
  go_enter Tryd.func74, Tryd.ntmps74
  go_wp2_with fail
  refine (unhide HT).mono ?_
  rintro e w1 ⟨rfl, hr1, ht1⟩
  have HX1 := hide (HX.out w1 ht1)
  have HR1 := hide hr1
  have HT1 := hide ht1
  clear hr1 ht1 HT HX
  go_wp2_with fail
  go_loopw [10] (fun y wr => ∃ k : Nat, k ≤ c ∧ y = .int .i64 (k : Int) ∧ wr = w1) (fun y _ => c - (intOf y).toNat)
  case atStart => exact ⟨0, by omega, rfl, rfl⟩
  case round =>
    obtain ⟨k, hk, rfl, rfl⟩ := hrel
    by_cases hlt : k < c
    · obtain ⟨b', off', e', c0⟩ := bys_at HX1.out k (by rw [HLn.out]; exact hlt)
      have e2 := Option.some.inj e'
      injection e2 with e3 e4
      subst e3 e4
      rw [zeros_get HZ.out] at c0
      clear e'
      go_wp2_with (go_at_call 69; refine (insist_yes _).mono ?_; rintro e w' ⟨rfl, hw'⟩; obtain rfl := Eq.symm hw')
      go_roundw
      case rel => exact ⟨k + 1, by omega, by go_num, trivial⟩
      case measure => simp [intOf]; omega
    · go_wp2_with fail
      go_end0
      exact ⟨rfl, HR1.out, HT1.out⟩
set_option maxHeartbeats 4000000 in
theorem zeros_no (B b off : Nat) (L : List UInt8) (cap p c : Nat) (cnt : Int) (hcnt : cnt = c) (w : World) (u : TypeId) (pv : Value) (hv : w.cell? ⟨0, 0, none⟩ = some (.iface u pv)) (hgB : 0 ≠ B) (hr : Rd w B (some ⟨b, off, none⟩) L cap p) (hne : b ≠ B) (hc : Cells w (some ⟨b, off, none⟩) (bys L)) (hl : L.length ≤ 16777216) (hcap : L.length ≤ cap) (hcm : cap ≤ 9223372036854775807) (hc1 : c ≤ 1000) (h : p + c ≤ L.length) (hpc : p < cap) (hz : cut L p c ≠ List.replicate c 0) :
    Calls Tryd.prog 74 #[.pointer (some ⟨B, 0, none⟩), .int .i64 cnt] w fun e w' => e = .panicked [{ v := .iface u pv, recovered := false }] ∧ Turn [B] w w' := by
  subst hcnt
  have HT := hide (take_t B b off L cap p c w hr hl hcap hcm hc1 h hpc)
  have HX := hide (fun (w' : World) (ht : Turn [B] w w') => cells_cut (cells_turnB hc ht hne) p c h)
  have HG := hide (fun (w' : World) (ht : Turn [B] w w') => ht.cell (p := ⟨0, 0, none⟩) (by simpa using hgB) hv)
  have HLn : Hid ((cut L p c).length = c) := cut_length h
  have HZ := hide hz
  clear hr hc hz h hcap hl hpc hcm hne hv hgB
  go_enter Tryd.func74, Tryd.ntmps74
  go_wp2_with fail
  refine (unhide HT).mono ?_
  rintro e w1 ⟨rfl, hr1, ht1⟩
  have HX1 := hide (HX.out w1 ht1)
  have HG1 := hide (HG.out w1 ht1)
  have HT1 := hide ht1
  clear hr1 ht1 HT HX HG
  go_wp2_with fail
  go_loopw [10] (fun y wr => ∃ k : Nat, k ≤ c ∧ y = .int .i64 (k : Int) ∧ wr = w1 ∧ Hid (∀ j, j < k → (cut L p c).getD j 1 = 0)) (fun y _ => c - (intOf y).toNat)
  case atStart => exact ⟨0, by omega, rfl, rfl, fun j hj => absurd hj (by omega)⟩
  case round =>
    obtain ⟨k, hk, rfl, rfl, HO⟩ := hrel
    by_cases hlt : k < c
    · obtain ⟨b', off', e', c0⟩ := bys_at HX1.out k (by rw [HLn.out]; exact hlt)
      have e2 := Option.some.inj e'
      injection e2 with e3 e4
      subst e3 e4
      have HD : Hid ((cut L p c).getD k 1 = (cut L p c)[k]'(by rw [HLn.out]; exact hlt)) := by
        show _ = _
        rw [List.getD_eq_getElem?_getD, List.getElem?_eq_getElem (by rw [HLn.out]; exact hlt)]; rfl
      clear e'
      generalize (cut L p c)[k]'(by rw [HLn.out]; exact hlt) = x at *
      by_cases hx : x = 0
      · subst hx
        go_wp2_with (go_at_call 69; refine (insist_yes _).mono ?_; rintro e w' ⟨rfl, hw'⟩; obtain rfl := Eq.symm hw')
        go_roundw
        case rel => exact ⟨k + 1, by omega, by go_num, trivial, fun j hj => by
                      by_cases e : j = k
                      · subst e; exact HD.out
                      · exact HO.out j (by omega)⟩
        case measure => simp [intOf]; omega
      · have hx2 : ((x.toNat : Int) == 0) = false := beq_eq_false_iff_ne.2 (fun e => hx (UInt8.toNat_inj.1 (by show x.toNat = 0; omega)))
        have hb0 := byte_nn x
        have hb1 := byte_lt x
        have HX0 := hide hx
        clear hx
        go_wp2_with (go_at_call 69; refine (insist_no _ u pv HG1.out).mono ?_; rintro e w' ⟨rfl, hw'⟩; obtain rfl := Eq.symm hw')
        exact ⟨rfl, rfl, HT1.out⟩
    · refine absurd (zeros_all (X := cut L p c) HLn.out (fun j hj => ?_)) HZ.out
      have := HO.out j (by rw [HLn.out] at hj; omega)
      rw [List.getD_eq_getElem?_getD, List.getElem?_eq_getElem hj] at this
      exact this
end Go.Proofs.YtkdnddckogbgaaaDoor
