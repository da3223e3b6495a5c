/- Texts of the verifier, joined: SRM, ZR. -/
import Derived.Test.YtkdnddckogbgaaaGreatDoorFO9
import Derived.Test.YtkdnddckogbgaaaGreatDoorFO11
import Derived.Test.YtkdnddckogbgaaaGreatDoorFO10
namespace Go.Proofs.YtkdnddckogbgaaaGreatDoor
open Go.RowKit Go.Deep
set_option linter.unusedVariables false
set_option linter.unusedSimpArgs false

theorem num_inj {X Y : List UInt8} (h : X.length = Y.length) (e : numL X = numL Y) : X = Y := by
  rw [← digs_num (X := X) rfl, ← digs_num (X := Y) rfl, e, h]
/-- What is read of 128 bytes, written again: the same bytes where all ends fit. -/
theorem sec_again {L : List UInt8} {n : Nat} (hl : L.length = 128) (hn : numL (cut L 7 1) = n) (h100 : n ≤ 100) :
    secL (numL (cut L 1 3)) (numL (cut L 4 3)) (cut L 8 n) = L ↔ numL (cut L 0 1) = 74 ∧ cut L (8 + n) (114 - n) = List.replicate (114 - n) 0 ∧ numL (cut L 122 3) = numL (cut L 1 3) ∧ numL (cut L 125 3) = numL (cut L 4 3) := by
  have eL : L = cut L 0 1 ++ cut L 1 3 ++ cut L 4 3 ++ cut L 7 1 ++ cut L 8 n ++ cut L (8 + n) (114 - n) ++ cut L 122 3 ++ cut L 125 3 := by
    have h0 := cut_next L 0 1
    have h1 := cut_next L 1 3
    have h2 := cut_next L 4 3
    have h3 := cut_next L 7 1
    have h4 := cut_next L 8 n
    have h5 := cut_next L (8 + n) (114 - n)
    have h6 := cut_next L 122 3
    have h7 := cut_next L 125 3
    have h8 : L.drop 128 = [] := List.drop_eq_nil_of_le (by omega)
    rw [show 8 + n + (114 - n) = 122 by omega] at h5
    simp only [Nat.reduceAdd, List.drop_zero] at h0 h1 h2 h3 h6 h7
    rw [h8, List.append_nil] at h7
    rw [h7] at h6; rw [h6] at h5; rw [h5] at h4; rw [h4] at h3; rw [h3] at h2; rw [h2] at h1; rw [h1] at h0
    simpa [List.append_assoc] using h0
  have l8 : (cut L 8 n).length = n := cut_length (by omega)
  have l5 : (cut L (8 + n) (114 - n)).length = 114 - n := cut_length (by omega)
  have l0 : (cut L 0 1).length = 1 := cut_length (by omega)
  obtain ⟨x, ex⟩ := List.length_eq_one_iff.1 l0
  have hb : secL (numL (cut L 1 3)) (numL (cut L 4 3)) (cut L 8 n) = [74] ++ cut L 1 3 ++ cut L 4 3 ++ cut L 7 1 ++ cut L 8 n ++ List.replicate (114 - n) 0 ++ cut L 1 3 ++ cut L 4 3 := by
    unfold secL
    rw [l8, ← hn, digs_num (cut_length (by omega)), digs_num (cut_length (by omega)), digs_num (cut_length (by omega))]
  rw [hb]
  constructor
  · intro h
    have h' := h.trans eL
    rw [ex] at h'
    simp only [List.append_assoc, List.singleton_append] at h'
    obtain ⟨h1, h2⟩ := List.cons_eq_cons.1 h'
    have h3 := List.append_cancel_left (List.append_cancel_left (List.append_cancel_left (List.append_cancel_left h2)))
    have h4 := List.append_inj h3 (by simp [l5])
    have h5 := List.append_inj h4.2 (by rw [cut_length (by omega), cut_length (by omega)])
    refine ⟨by rw [ex, numL_one, ← h1]; rfl, h4.1.symm, by rw [h5.1], by rw [h5.2]⟩
  · rintro ⟨h1, h2, h3, h4⟩
    have e3 : cut L 122 3 = cut L 1 3 := num_inj (by rw [cut_length (by omega), cut_length (by omega)]) h3
    have e4 : cut L 125 3 = cut L 4 3 := num_inj (by rw [cut_length (by omega), cut_length (by omega)]) h4
    have e1 : x = 74 := by rw [ex, numL_one] at h1; exact UInt8.toNat_inj.1 (by rw [h1]; rfl)
    rw [h2, e3, e4, ex, e1] at eL
    exact eL.symm
/-- Is there a sector in the bytes? -/
def srB (L : List UInt8) : Bool := decide (L.length = 128) && decide (numL (cut L 0 1) = 74) && decide (numL (cut L 7 1) ≤ 100) && decide (cut L (8 + numL (cut L 7 1)) (114 - numL (cut L 7 1)) = List.replicate (114 - numL (cut L 7 1)) 0) && decide (numL (cut L 122 3) = numL (cut L 1 3)) && decide (numL (cut L 125 3) = numL (cut L 4 3)) && secB (numL (cut L 1 3) : Nat) (numL (cut L 4 3) : Nat) (numL (cut L 7 1))
def srQ (L : List UInt8) : Int := if srB L = true then (numL (cut L 1 3) : Nat) else 0
def srE (L : List UInt8) : Int := if srB L = true then (numL (cut L 4 3) : Nat) else 0
def srL (L : List UInt8) : List UInt8 := if srB L = true then cut L 8 (numL (cut L 7 1)) else []
theorem srL_len (L : List UInt8) : (srL L).length ≤ 100 := by
  unfold srL
  split
  · rename_i h
    unfold srB at h
    simp only [Bool.and_eq_true, decide_eq_true_eq] at h
    rw [cut_length (by omega)]
    exact h.1.1.1.1.2
  · simp
/-- No room where it is nil; the room is as great as what is in it. -/
def CapB (a : Option Addr) (c n : Nat) : Prop := (a = none → c = 0) ∧ n ≤ c ∧ c ≤ 9223372036854775807
theorem Born.of_owns3 {w w' : World} {n : Nat} {e : TypeId} {sz : Nat} {v : Value} {xs : List Value} (h : w'.ownsRow w.heap.size e sz v n xs) :
    ∃ (a : Option Addr) (cap : Nat), v = .slice a n cap ∧ CapB a cap n ∧ Born w w' [(a, xs)] := by
  obtain ⟨a, cap, hv, hl, hm, hn, ho, hb⟩ := Own.of_owns h
  exact ⟨a, cap, hv, ⟨hn, hl, Nat.le_trans hm (by decide)⟩, ho, hb⟩
/-- A sector is answered. -/
def SrPost (w : World) (L : List UInt8) (x : Ending) (w' : World) : Prop := ∃ (a : Option Addr) (c : Nat), x = .returned (.tuple #[secV (srQ L) (srE L) a (srL L).length c, .bool (srB L)]) ∧ CapB a c (srL L).length ∧ Born w w' [(a, bys (srL L))] ∧ Keeps w w'
theorem SrPost.no {w w' : World} {L : List UInt8} (h : srB L = false) (hk : Keeps w w') : SrPost w L (.returned (.tuple #[secV 0 0 none 0 0, .bool false])) w' := by
  refine ⟨none, 0, ?_, ⟨fun _ => rfl, by unfold srL; rw [h, if_neg (by simp)]; exact Nat.le_refl _, by decide⟩, ?_, hk⟩
  · unfold srQ srE srL
    rw [h]; rfl
  · unfold srL
    rw [h, if_neg (by simp)]
    refine ⟨⟨fun s hs => ?_, by simp [fp, fpS, bys], fun b hb => by simp [fp, fpS, bys] at hb⟩, fun b hb => by simp [fp, fpS, bys] at hb⟩
    rw [List.mem_singleton.1 hs]
    exact Cells.nil _ _
theorem SrPost.yes {w w' : World} {L : List UInt8} {q e n : Nat} {a : Option Addr} {c : Nat} (h : srB L = true) (hq : numL (cut L 1 3) = q) (he : numL (cut L 4 3) = e) (hn : numL (cut L 7 1) = n) (ha : CapB a c (cut L 8 n).length) (hb : Born w w' [(a, bys (cut L 8 n))]) (hk : Keeps w w') :
    SrPost w L (.returned (.tuple #[secV q e a (cut L 8 n).length c, .bool true])) w' := by
  refine ⟨a, c, ?_, by unfold srL; rw [if_pos h, hn]; exact ha, ?_, hk⟩
  · unfold srQ srE srL
    rw [h, if_pos rfl, if_pos rfl, if_pos rfl, hq, he, hn]
  · unfold srL
    rw [if_pos h, hn]; exact hb
end Go.Proofs.YtkdnddckogbgaaaGreatDoor
namespace Go.Proofs.YtkdnddckogbgaaaGreatDoor
open Go.RowKit Go.Deep
set_option linter.unusedVariables false
set_option linter.unusedSimpArgs false
set_option maxRecDepth 10000

theorem take_t (B b off : Nat) (L : List UInt8) (cap p c : Nat) (w : World) (hr : Rd w B (some ⟨b, off, none⟩) L cap p) (hl : L.length ≤ 16777216) (hcap : L.length ≤ cap) (hcm : cap ≤ 9223372036854775807) (hc1 : c ≤ 1000) (h : p + c ≤ L.length) (hpc : p < cap) :
    Calls Tryz.prog 118 #[.pointer (some ⟨B, 0, none⟩), .int .i64 (c : Int)] w fun e w' => e = .returned (.slice (some ⟨b, off + p, none⟩) c (cap - p)) ∧ Rd w' B (some ⟨b, off, none⟩) L cap (p + c : Nat) ∧ Turn [B] w w' := by
  refine (take_yes B b off L cap p c w hr hl hcap hcm hc1 h hpc).mono ?_
  rintro e w' ⟨rfl, m, rfl⟩
  refine ⟨rfl, ⟨?_, ?_, ?_⟩, ?_⟩
  · rw [World.cell?_setCell_other _ _ _ _ (by simp)]; simpa using hr.data
  · exact World.cell?_setCell_same _ _ _ (u := .int .i64 p) (by simpa using hr.place)
  · rw [frozen_set]; simpa using hr.free
  · exact Turn.trans' (Turn.of_keeps ((Keeps.refl w).drewN m) [B]) (Turn.set (by simp) _)
theorem cells_cut {w : World} {b off : Nat} {L : List UInt8} (hc : Cells w (some ⟨b, off, none⟩) (bys L)) (p s : Nat) (h : p + s ≤ L.length) : Cells w (some ⟨b, off + p, none⟩) (bys (cut L p s)) := by
  refine Or.inr ⟨b, off + p, rfl, fun j hj => ?_⟩
  rw [bys_length, cut_length h] at hj
  obtain ⟨b', off', e, hcell⟩ := bys_at hc (p + j) (by omega)
  have e' := Option.some.inj e
  injection e' with e1 e2
  subst e1 e2
  rw [← Nat.add_assoc] at hcell
  rw [hcell]
  simp [bys, byV, cut]
theorem cells_turnB {w w' : World} {b off B : Nat} {L : List UInt8} (hc : Cells w (some ⟨b, off, none⟩) (bys L)) (ht : Turn [B] w w') (hne : b ≠ B) : Cells w' (some ⟨b, off, none⟩) (bys L) :=
  Cells.turn (s := (some ⟨b, off, none⟩, bys L)) hc ht (fun x hx hb => by
    have h1 : x = B := by simpa using hb
    subst h1
    by_cases h0 : bys L = []
    · simp [fpS, h0] at hx
    · rw [fpS_some h0] at hx
      exact hne ((show x = b by simpa using hx).symm))
theorem zeros_get {X : List UInt8} {c k : Nat} (h : X = List.replicate c 0) (hk : k < X.length) : X[k] = 0 := by subst h; simp
theorem zeros_all {X : List UInt8} {c : Nat} (hl : X.length = c) (h : ∀ k (hk : k < X.length), X[k] = 0) : X = List.replicate c 0 := by
  refine List.ext_getElem (by simp [hl]) fun k h1 h2 => ?_
  rw [h k h1]; simp
set_option maxHeartbeats 4000000 in
theorem zeros_yes (B b off : Nat) (L : List UInt8) (cap p c : Nat) (cnt : Int) (hcnt : cnt = c) (w : World) (hr : Rd w B (some ⟨b, off, none⟩) L cap p) (hne : b ≠ B) (hc : Cells w (some ⟨b, off, none⟩) (bys L)) (hl : L.length ≤ 16777216) (hcap : L.length ≤ cap) (hcm : cap ≤ 9223372036854775807) (hc1 : c ≤ 1000) (h : p + c ≤ L.length) (hpc : p < cap) (hz : cut L p c = List.replicate c 0) :
    Calls Tryz.prog 120 #[.pointer (some ⟨B, 0, none⟩), .int .i64 cnt] w fun e w' => e = .returned (.tuple #[]) ∧ Rd w' B (some ⟨b, off, none⟩) L cap (p + c : Nat) ∧ Turn [B] w w' := by
  subst hcnt
  have HT := hide (take_t B b off L cap p c w hr hl hcap hcm hc1 h hpc)
  have HX := hide (fun (w' : World) (ht : Turn [B] w w') => cells_cut (cells_turnB hc ht hne) p c h)
  have HLn : Hid ((cut L p c).length = c) := cut_length h
  have HZ := hide hz
  clear hr hc hz h hcap hl hpc hcm hne
  go_enter Tryz.func120, Tryz.ntmps120
  go_wp2_with fail
  refine (unhide HT).mono ?_
  rintro e w1 ⟨rfl, hr1, ht1⟩
  have HX1 := hide (HX.out w1 ht1)
  have HR1 := hide hr1
  have HT1 := hide ht1
  clear hr1 ht1 HT HX
  go_wp2_with fail
  go_loopw [10] (fun y wr => ∃ k : Nat, k ≤ c ∧ y = .int .i64 (k : Int) ∧ wr = w1) (fun y _ => c - (intOf y).toNat)
  case atStart => exact ⟨0, by omega, rfl, rfl⟩
  case round =>
    obtain ⟨k, hk, rfl, rfl⟩ := hrel
    by_cases hlt : k < c
    · obtain ⟨b', off', e', c0⟩ := bys_at HX1.out k (by rw [HLn.out]; exact hlt)
      have e2 := Option.some.inj e'
      injection e2 with e3 e4
      subst e3 e4
      rw [zeros_get HZ.out] at c0
      clear e'
      go_wp2_with (go_at_call 108; refine (insist_yes _).mono ?_; rintro e w' ⟨rfl, hw'⟩; obtain rfl := Eq.symm hw')
      go_roundw
      case rel => exact ⟨k + 1, by omega, by go_num, trivial⟩
      case measure => simp [intOf]; omega
    · go_wp2_with fail
      go_end0
      exact ⟨rfl, HR1.out, HT1.out⟩
set_option maxHeartbeats 4000000 in
theorem zeros_no (B b off : Nat) (L : List UInt8) (cap p c : Nat) (cnt : Int) (hcnt : cnt = c) (w : World) (u : TypeId) (pv : Value) (hv : w.cell? ⟨0, 0, none⟩ = some (.iface u pv)) (hgB : 0 ≠ B) (hr : Rd w B (some ⟨b, off, none⟩) L cap p) (hne : b ≠ B) (hc : Cells w (some ⟨b, off, none⟩) (bys L)) (hl : L.length ≤ 16777216) (hcap : L.length ≤ cap) (hcm : cap ≤ 9223372036854775807) (hc1 : c ≤ 1000) (h : p + c ≤ L.length) (hpc : p < cap) (hz : cut L p c ≠ List.replicate c 0) :
    Calls Tryz.prog 120 #[.pointer (some ⟨B, 0, none⟩), .int .i64 cnt] w fun e w' => e = .panicked [{ v := .iface u pv, recovered := false }] ∧ Turn [B] w w' := by
  subst hcnt
  have HT := hide (take_t B b off L cap p c w hr hl hcap hcm hc1 h hpc)
  have HX := hide (fun (w' : World) (ht : Turn [B] w w') => cells_cut (cells_turnB hc ht hne) p c h)
  have HG := hide (fun (w' : World) (ht : Turn [B] w w') => ht.cell (p := ⟨0, 0, none⟩) (by simpa using hgB) hv)
  have HLn : Hid ((cut L p c).length = c) := cut_length h
  have HZ := hide hz
  clear hr hc hz h hcap hl hpc hcm hne hv hgB
  go_enter Tryz.func120, Tryz.ntmps120
  go_wp2_with fail
  refine (unhide HT).mono ?_
  rintro e w1 ⟨rfl, hr1, ht1⟩
  have HX1 := hide (HX.out w1 ht1)
  have HG1 := hide (HG.out w1 ht1)
  have HT1 := hide ht1
  clear hr1 ht1 HT HX HG
  go_wp2_with fail
  go_loopw [10] (fun y wr => ∃ k : Nat, k ≤ c ∧ y = .int .i64 (k : Int) ∧ wr = w1 ∧ Hid (∀ j, j < k → (cut L p c).getD j 1 = 0)) (fun y _ => c - (intOf y).toNat)
  case atStart => exact ⟨0, by omega, rfl, rfl, fun j hj => absurd hj (by omega)⟩
  case round =>
    obtain ⟨k, hk, rfl, rfl, HO⟩ := hrel
    by_cases hlt : k < c
    · obtain ⟨b', off', e', c0⟩ := bys_at HX1.out k (by rw [HLn.out]; exact hlt)
      have e2 := Option.some.inj e'
      injection e2 with e3 e4
      subst e3 e4
      have HD : Hid ((cut L p c).getD k 1 = (cut L p c)[k]'(by rw [HLn.out]; exact hlt)) := by
        show _ = _
        rw [List.getD_eq_getElem?_getD, List.getElem?_eq_getElem (by rw [HLn.out]; exact hlt)]; rfl
      clear e'
      generalize (cut L p c)[k]'(by rw [HLn.out]; exact hlt) = x at *
      by_cases hx : x = 0
      · subst hx
        go_wp2_with (go_at_call 108; refine (insist_yes _).mono ?_; rintro e w' ⟨rfl, hw'⟩; obtain rfl := Eq.symm hw')
        go_roundw
        case rel => exact ⟨k + 1, by omega, by go_num, trivial, fun j hj => by
                      by_cases e : j = k
                      · subst e; exact HD.out
                      · exact HO.out j (by omega)⟩
        case measure => simp [intOf]; omega
      · have hx2 : ((x.toNat : Int) == 0) = false := beq_eq_false_iff_ne.2 (fun e => hx (UInt8.toNat_inj.1 (by show x.toNat = 0; omega)))
        have hb0 := byte_nn x
        have hb1 := byte_lt x
        have HX0 := hide hx
        clear hx
        go_wp2_with (go_at_call 108; refine (insist_no _ u pv HG1.out).mono ?_; rintro e w' ⟨rfl, hw'⟩; obtain rfl := Eq.symm hw')
        exact ⟨rfl, rfl, HT1.out⟩
    · refine absurd (zeros_all (X := cut L p c) HLn.out (fun j hj => ?_)) HZ.out
      have := HO.out j (by rw [HLn.out] at hj; omega)
      rw [List.getD_eq_getElem?_getD, List.getElem?_eq_getElem hj] at this
      exact this
end Go.Proofs.YtkdnddckogbgaaaGreatDoor
