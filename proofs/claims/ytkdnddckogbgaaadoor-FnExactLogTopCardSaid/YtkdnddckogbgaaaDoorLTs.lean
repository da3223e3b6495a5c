/- LogTop of the model. -/
import Derived.Test.YtkdnddckogbgaaaDoorLgM
import Derived.Test.YtkdnddckogbgaaaDoorSRW
namespace Go.Proofs.YtkdnddckogbgaaaDoor
open Go.RowKit Go.Deep
set_option linter.unusedVariables false
set_option maxRecDepth 10000

/-- SectorRead of the model, of a whole sector that the call itself made. -/
theorem secspec_own (v : Value) (L : List UInt8) (base : Nat) (w : World) (ho : OwnsB w base v L) (hl : L.length = 128) :
    Calls Tryd.prog 26 #[v] w (SrPost w L) := by
  obtain ⟨a, cap, e1, e2, e3, e4, e5, _⟩ := Own.of_owns ho
  have hc := e5.one
  rcases ho.2 with ⟨rfl, _⟩ | ⟨g, c, _, rfl, _⟩
  · injection e1 with e6 e7 e8
    omega
  · injection e1 with e6 e7 e8
    rw [← e6] at hc
    rw [← e8] at e2 e3
    exact secread_spec g 0 L c w hc (by omega) e2 (Nat.le_trans e3 (by decide))
theorem readL_full {m : DkM} {i : Int} (h : readB m i = true) : (readL m i).length = 128 := by
  unfold readL
  rw [if_pos h]
  simp only [readB, Bool.and_eq_true, decide_eq_true_eq] at h
  obtain ⟨hd, h0, h1⟩ := h
  cases hl : lastD m.dirty i with
  | some L =>
    obtain ⟨x, hx, rfl⟩ := lastD_mem _ _ hl
    exact (dokM_dirty hd hx).2.2
  | none =>
    simp only [Option.getD_none]
    have hx : i.toNat < m.cells.length := by omega
    have hc := dokM_cell hd (L := m.cells.getD i.toNat []) (by simp [List.getD, hx])
    unfold fullL
    split
    · simp
    · next hne =>
      rcases hc with hc | hc
      · exact absurd (List.length_eq_zero_iff.1 hc) hne
      · exact hc
set_option maxHeartbeats 8000000 in
theorem logtop_spec (ca : Option Addr) (cc : Nat) (cs : List Bs) (da : Option Addr) (dc : Nat) (ds : List Wr) (w : World) (hm : Mem w (dsk ca cs da ds)) (h : DOk cs ds) :
    Calls Tryd.prog 15 #[dskV ca cs.length cc da ds.length dc] w fun e w' => e = .returned (.int .i64 (topM (dat cs ds))) ∧ Keeps w w' := by
  have HKA := hide (Keeps.alloc (Keeps.refl w) (.cells #[.slice ca cs.length cc, .slice da ds.length dc] 33))
  have HM := hide (hm.kept HKA.out)
  have HDO := hide h
  have hcl := h.c
  have HD : Hid (∀ w', Keeps (w.alloc (.cells #[.slice ca cs.length cc, .slice da ds.length dc] 33)) w' → w'.cell? ⟨w.heap.size, 0, none⟩ = some (.slice ca cs.length cc) ∧ w'.cell? ⟨w.heap.size, 1, none⟩ = some (.slice da ds.length dc)) :=
    fun w' hk => ⟨hk.cell (by simp), hk.cell (by simp)⟩
  have HT := hide (diskok_spec' ca cc cs da dc ds _ HM.out h)
  obtain ⟨b, hbb⟩ : ∃ b, dokM (dat cs ds) = b := ⟨_, rfl⟩
  rw [hbb] at HT
  have HBB := hide hbb
  clear hm h hbb
  go_enter Tryd.func15, Tryd.ntmps15
  go_wp2_with fail
  generalize w.alloc (.cells #[.slice ca cs.length cc, .slice da ds.length dc] 33) = W0 at *
  refine (unhide HT).mono ?_
  rintro x w1 ⟨rfl, hk⟩
  obtain ⟨d0, d1⟩ := HD.out _ hk
  have HK1 := hide hk
  clear hk HT
  cases b
  · go_wp2_with fail
    go_ret
    exact ⟨by unfold topM; rw [topTo_bad HBB.out]; rfl, HKA.out.trans HK1.out⟩
  · go_wp2_with fail
    go_loopw [3, 4] (fun x y wr => ∃ k : Nat, k ≤ cs.length ∧ x = .int .i64 (topTo (dat cs ds) k) ∧ y = .int .i64 (k : Int) ∧ Hid (Keeps W0 wr)) (fun _ y _ => cs.length - (intOf y).toNat)
    case atStart => exact ⟨0, Nat.zero_le _, rfl, rfl, HK1⟩
    case round =>
      obtain ⟨k, hk, rfl, rfl, HKr⟩ := hrel
      clear d0 d1
      obtain ⟨d0, d1⟩ := HD.out _ HKr.out
      by_cases hlt : k < cs.length
      · have HR := hide (diskread_spec ca cc cs da dc ds (k : Nat) wr (HM.out.kept HKr.out) HDO.out)
        go_wp2_with fail
        refine (unhide HR).mono ?_
        rintro x w2 ⟨v, rfl, ho, hk2⟩
        have hrb : readB (dat cs ds) (k : Nat) = true := readB_in HBB.out (by omega) (by simp [dat]; omega)
        rw [hrb]
        have HS := hide (secspec_own v _ _ w2 ho (readL_full hrb))
        have HK2 := hide (HKr.out.trans hk2)
        clear ho hk2 HR d0 d1 hrb
        go_wp2_with fail
        refine (unhide HS).mono ?_
        rintro x w3 ⟨a, c, rfl, hac, hb, hk3⟩
        have HK3 := hide ((HK2.out.trans hk3).alloc (.cells #[.int .i64 (srQ (readL (dat cs ds) k)), .int .i64 (srE (readL (dat cs ds) k)), .slice a (srL (readL (dat cs ds) k)).length c] 52))
        clear hb hac hk3 HS
        cases hB : srB (readL (dat cs ds) k)
        · go_wp2_with fail
          go_roundw
          case rel => exact ⟨k + 1, by omega, by rw [topTo_skip hB], by go_num, HK3⟩
          case measure => simp [intOf]; omega
        · by_cases hgt : topTo (dat cs ds) k < srE (readL (dat cs ds) k)
          · go_wp2_with fail
            go_roundw
            case rel => exact ⟨k + 1, by omega, by rw [topTo_max hB, Int.max_eq_right (by omega)], by go_num, HK3⟩
            case measure => simp [intOf]; omega
          · go_wp2_with fail
            go_roundw
            case rel => exact ⟨k + 1, by omega, by rw [topTo_max hB, Int.max_eq_left (by omega)], by go_num, HK3⟩
            case measure => simp [intOf]; omega
      · have e : k = cs.length := by omega
        subst e
        go_wp2_with fail
        go_ret
        exact ⟨by simp [topM, dat], HKA.out.trans HKr.out⟩
end Go.Proofs.YtkdnddckogbgaaaDoor
