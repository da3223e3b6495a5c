/- FnTear: of a sector that is torn over one with another epoch the old one is read, or the new one where all of it is there, or none. -/
import Derived.Test.YtecjjkgdgmjgmaaDoorSent
import Derived.Test.YtecjjkgdgmjgmaaDoorTeM
import Derived.Test.YtecjjkgdgmjgmaaDoorDrT
import Derived.Test.YtecjjkgdgmjgmaaDoorCards
import Derived.Test.YtecjjkgdgmjgmaaDoorTie
import Derived.WalkKit
import Derived.ProofKit
import Derived.OpenShut
import Derived.ShutString
import Derived.LaidMore
import Derived.Stop.Joined
import Derived.SevenTiedAt
import Derived.ChangeOld
import Derived.Below
namespace Go.Proofs.YtecjjkgdgmjgmaaDoor.fnTear
open Go.ChangeShapes Go.WideShapes Go.ChangeAt Go.RowKit
open Go.ChangeMaps (open_string shut_string)
set_option linter.unusedVariables false
theorem own : ownKnob Tryd.prog.godebug = none := by kernel_rfl
theorem laidOut : laidOutB Tryd.prog = true := by kernel_rfl
theorem gGaveUp : Tryd.prog.globalNamed "loop.example/g00400/impl.errGaveUp" = some 1 := by kernel_rfl
theorem tGaveUp : (Tryd.prog.globals[1]?).map (·.type) = some 56 := by kernel_rfl
theorem door_met (os : Os) (args : Array Value) : laidMetH Tryd.prog Rows.fnTearRow.laid ((World.doorLaid Tryd.prog 89 os).forCall (fun _ _ => 0) ⟨#[], args, []⟩).memory :=
  laidMetH_of_parts3 (fuel := 8) (laidMet_of_run' 8 (by kernel_rfl) (by kernel_rfl)) (by kernel_rfl) (by kernel_rfl)

set_option maxRecDepth 100000 in
set_option maxHeartbeats 4000000 in
theorem walk (a : Option Addr) (len cap : Nat) (w : World) (hr : RowAt w.heap.size w a len) (u : TypeId) (pv : Value) (hv : w.cell? ⟨1, 0, none⟩ = some (.iface u pv)) :
    Calls Tryd.prog 3 #[.slice a len cap] w fun e w' => e = .returned (.bool true) ∧ Keeps w w' := by
  have HV := hide hv
  have HRw := hide hr
  clear hv hr
  by_cases hl : 1048576 < len
  · go_enter Tryd.func3, Tryd.ntmps3
    go_wp2_with fail
    go_ret
    exact ⟨rfl, Keeps.refl _⟩
  · have HD := hide (make_secs a len cap w HRw.out (by omega))
    clear HRw
    go_enter Tryd.func3, Tryd.ntmps3
    go_wp2_with fail
    refine (unhide HD).mono ?_
    rintro x w1 ⟨⟨q, e, f, p, p', l, c, l', c', n, L, L', hq, hq', hef, hn, rfl, HO, HO'⟩, hk1⟩
    clear HD
    go_wp2_with fail
    have hkA := Keeps.alloc (Keeps.alloc (Keeps.refl w1) (.cells #[.int .i64 q, .int .i64 e, .slice p l c] 24)) (.cells #[.int .i64 q, .int .i64 f, .slice p' l' c'] 24)
    have HK1 := hide (hk1.trans hkA)
    obtain ⟨d0, d1, d2, d3, d4, d5⟩ := two_sec w1 (.int .i64 q) (.int .i64 e) (.slice p l c) (.int .i64 q) (.int .i64 f) (.slice p' l' c') 24 rfl
    have HC := hide ((OwnsB.read HO.out.2).1.kept hkA)
    have HC' := hide ((OwnsB.read HO'.out.2).1.kept hkA)
    have HN := hide (OwnsB.read HO.out.2).2
    have HN' := hide (OwnsB.read HO'.out.2).2
    have HL := hide HO.out.1
    have HL' := hide HO'.out.1
    clear hkA hk1 HO HO'
    generalize (w1.alloc (.cells #[.int .i64 q, .int .i64 e, .slice p l c] 24)).alloc (.cells #[.int .i64 q, .int .i64 f, .slice p' l' c'] 24) = W1 at *
    generalize w1.heap.size = bA at *
    refine (secb_right W1 hq HL.out HC.out HN.out).mono ?_
    rintro x w2 ⟨g, cp, rfl, hcp, hcm, HX⟩
    have HK2 := hide (HK1.out.trans HX.out.2)
    replace d0 := HX.out.2.cell d0
    replace d1 := HX.out.2.cell d1
    replace d2 := HX.out.2.cell d2
    replace d3 := HX.out.2.cell d3
    replace d4 := HX.out.2.cell d4
    replace d5 := HX.out.2.cell d5
    go_wp2_with fail
    refine (secb_right w2 hq' HL'.out (HC'.out.kept HX.out.2) HN'.out).mono ?_
    rintro x w3 ⟨g', cp', rfl, hcp', hcm', HY⟩
    have HK3 := hide (HK2.out.trans HY.out.2)
    have HCa := hide (HC.out.kept (HX.out.2.trans HY.out.2))
    have HCb := hide (HC'.out.kept (HX.out.2.trans HY.out.2))
    have HP := hide (HX.out.1.kept HY.out.2)
    have HQ := hide HY.out.1
    replace d0 := HY.out.2.cell d0
    replace d1 := HY.out.2.cell d1
    replace d2 := HY.out.2.cell d2
    replace d3 := HY.out.2.cell d3
    replace d4 := HY.out.2.cell d4
    replace d5 := HY.out.2.cell d5
    clear HX HY HC HC' HK1 HK2
    go_wp2_with fail
    have hqb := secB_true hq
    have hqb' := secB_true hq'
    have lP := secL_length (q := q.toNat) (e := e.toNat) (L := L) (by rw [HL.out]; exact hqb.2.2.2.2)
    have lQ := secL_length (q := q.toNat) (e := f.toNat) (L := L') (by rw [HL'.out]; exact hqb'.2.2.2.2)
    obtain ⟨v1, W4, v2, W5, r1, r2, om, km⟩ := mix_run w3 22 22 (cp := cp) (cp' := cp') (cells_lo HP.out lP hcp hn) HQ.out lP lQ hn
    have HOm := hide om
    have HKm := hide km
    have HR1 := hide r1
    have HR2 := hide r2
    have HlP := hide lP
    have HlQ := hide lQ
    clear om km r1 r2 lP lQ hqb hqb'
    have hs1 := fun V => slice_hi (g := g') (cp := cp') (n := n) (by omega) V
    have hs2 := fun V => slice_lo (g := g) (cp := cp) (n := n) hn V
    generalize (if cp = n then (⟨g, 0, none⟩ : Addr) else ⟨g, n, none⟩) = p2 at *
    have n0 : (0 : Int) ≤ (n : Int) := by omega
    go_region_held3 (fun w' => True) (trivial)
      (first
        | (refine step_append_run rfl (.tmp 38) (.tmp 41) 22 22 rfl _ _ rfl rfl _ _ HR1.out ?_)
        | (refine step_append_run rfl (.tmp 42) (.tmp 45) 22 22 rfl _ _ rfl rfl _ _ HR2.out ?_))
    rename_i hgo hheld
    refine hgo _ _ ?_
    clear hgo hheld hs1 hs2 HR1 HR2 n0
    have hqb := secB_true hq
    have hqb' := secB_true hq'
    have eP : secR q e L = secL q.toNat e.toNat L := by unfold secR; rw [HL.out, hq]; rfl
    have eQ : secR q f L' = secL q.toNat f.toNat L' := by unfold secR; rw [HL'.out, hq']; rfl
    have bP := sec_back (q := q) (e := e) (L := L) (by rw [HL.out]; exact hq)
    have bQ := sec_back (q := q) (e := f) (L := L') (by rw [HL'.out]; exact hq')
    rw [eP] at bP
    rw [eQ] at bQ
    have hM : (srB (mixL (secL q.toNat e.toNat L) (secL q.toNat f.toNat L') n) = false ∧ n < 128) ∨ mixL (secL q.toNat e.toNat L) (secL q.toNat f.toNat L') n = secL q.toNat e.toNat L ∨ mixL (secL q.toNat e.toNat L) (secL q.toNat f.toNat L') n = secL q.toNat f.toNat L' := by
      by_cases hs : srB (mixL (secL q.toNat e.toNat L) (secL q.toNat f.toNat L') n) = true
      · exact .inr (mix_read (by rw [HL.out]; exact hqb.2.2.2.2) (by rw [HL'.out]; exact hqb'.2.2.2.2) hn (by omega) (by omega) (by omega) hs)
      · refine .inl ⟨by simpa using hs, ?_⟩
        by_cases h128 : n = 128
        · have := mix_full (P := secL q.toNat e.toNat L) (Q := secL q.toNat f.toNat L') (n := n) (by rw [HlP.out, HlQ.out]) (by rw [HlQ.out]; exact h128)
          rw [this] at hs
          exact absurd bQ.1 hs
        · omega
    have lM : (mixL (secL q.toNat e.toNat L) (secL q.toNat f.toNat L') n).length = 128 := by rw [mix_len (by rw [HlP.out, HlQ.out]) (by rw [HlQ.out]; exact hn)]; exact HlP.out
    clear eP eQ hqb hqb' HP
    generalize mixL (secL q.toNat e.toNat L) (secL q.toNat f.toNat L') n = M at *
    generalize secL q.toNat e.toNat L = P at *
    generalize secL q.toNat f.toNat L' = Q at *
    have HlM := hide lM
    have HbP := hide bP
    have HbQ := hide bQ
    have HM := hide hM
    clear hM bP bQ lM hq hq'
    obtain ⟨a2, c2, hv2, _, _, _, hown, _⟩ := Own.of_owns HOm.out
    rw [HlM.out] at hv2
    subst hv2
    have HCM := hide hown.one
    clear hown
    have HK5 := hide (HK3.out.trans HKm.out)
    have HCQ := hide (HQ.out.kept HKm.out)
    have HCa' := hide (HCa.out.kept HKm.out)
    have HCb' := hide (HCb.out.kept HKm.out)
    replace d0 := HKm.out.cell d0
    replace d1 := HKm.out.cell d1
    replace d2 := HKm.out.cell d2
    replace d3 := HKm.out.cell d3
    replace d4 := HKm.out.cell d4
    replace d5 := HKm.out.cell d5
    clear HQ HCa HCb HKm HK3
    go_wp2_with fail
    refine (secread_own u pv (HK5.out.cell HV.out) HOm.out (by rw [HlM.out]; omega)).mono ?_
    rintro x w6 ⟨a6, c6, rfl, _, hb6, hk6⟩
    have HK6 := hide (HK5.out.trans hk6)
    replace d0 := hk6.cell d0
    replace d1 := hk6.cell d1
    replace d2 := hk6.cell d2
    replace d3 := hk6.cell d3
    replace d4 := hk6.cell d4
    replace d5 := hk6.cell d5
    have hz0 := lt_of_cell d0
    have hz3 := lt_of_cell d3
    rcases HM.out with ⟨hno, hn2⟩ | hP | hQ
    · rw [hno]
      clear hb6 hk6 HM
      have HK7 := hide (Keeps.alloc HK6.out (.cells #[.int .i64 (srQ M), .int .i64 (srE M), .slice a6 (srL M).length c6] 24))
      generalize srQ M = z1 at *
      generalize srE M = z2 at *
      generalize (srL M).length = z3 at *
      have hn3 : (n : Int) < 128 := by omega
      go_wp2_with fail
      go_ret
      exact ⟨rfl, HK7.out⟩
    · subst hP
      obtain ⟨hb, hQ1, hE1, hL1, -⟩ := HbP.out
      rw [hb, hQ1, hE1, hL1, HL.out]
      rw [hL1] at hb6
      have HKA := hide (Keeps.alloc (Keeps.refl w6) (.cells #[.int .i64 q, .int .i64 e, .slice a6 l c6] 24))
      have HK7 := hide (HK6.out.trans HKA.out)
      have s1 := str_own (c := c6) HL.out ((hb6.toOwn.one).kept HKA.out)
      have s2 := str_own (c := c) HL.out (HCa'.out.kept (hk6.trans HKA.out))
      clear hb6 hk6 hb hQ1 hE1 hL1 HM
      go_wp2_with fail
      go_ret
      exact ⟨rfl, HK7.out⟩
    · subst hQ
      obtain ⟨hb, hQ1, hE1, hL1, -⟩ := HbQ.out
      rw [hb, hQ1, hE1, hL1, HL'.out]
      rw [hL1] at hb6
      have HKA := hide (Keeps.alloc (Keeps.refl w6) (.cells #[.int .i64 q, .int .i64 f, .slice a6 l' c6] 24))
      have HK7 := hide (HK6.out.trans HKA.out)
      have s1 := str_own (c := c6) HL'.out ((hb6.toOwn.one).kept HKA.out)
      have s2 := str_own (c := c') HL'.out (HCb'.out.kept (hk6.trans HKA.out))
      have s3 := str_own (c := c2) HlM.out (HCM.out.kept (hk6.trans HKA.out))
      have s4 := str_own (c := cp') HlM.out (HCQ.out.kept (hk6.trans HKA.out))
      have hfe : f ≠ e := fun h => hef h.symm
      clear hb6 hk6 hb hQ1 hE1 hL1 HM
      go_wp2_with fail
      go_ret
      exact ⟨rfl, HK7.out⟩

set_option maxRecDepth 100000 in
theorem lifted (os : Os) (started : os.Started) (H : Type) (enc : TypeId × Value → H) :
    ReturnsInHanded {} Tryd.checked os 3 .any (fun w args => (Rows.fnTearSpec.pre enc Tryd.prog Tryd.f3 [] false w args ∧ laidMetH Tryd.prog Rows.fnTearRow.laid w) ∧ sizedMet enc Tryd.prog Tryd.f3 (OpenSpec.ofChange Rows.fnTearSpec) false w args)
      (Rows.fnTearSpec.post enc Tryd.prog Tryd.f3 false true false false) := by
  refine returnsInHanded_of_change_and (C := Tryd.checked) (X := fun w _ => laidMetH Tryd.prog Rows.fnTearRow.laid w) (fun _ _ _ hh h => h.of_heap hh) own started (by kernel_rfl) Tryd.func3
    (ChangeSpec.witness_shaped (enc := enc) (C := Tryd.checked) (os := os) (X := fun w _ => laidMetH Tryd.prog Rows.fnTearRow.laid w) false (World.doorLaid Tryd.prog 89 os) #[.slice none 0 0] 8 rfl (World.shaped_of_RefB (by kernel_rfl) (by kernel_rfl)) (by kernel_rfl) (by kernel_rfl) (by kernel_rfl) (door_met os _)) ?_
  intro W base args ds gs before hval0 hW _ hsz hL _
  have hval : ∀ (j : Nat) t v, Tryd.f3.params[j]? = some t → args[j]? = some v → Value.okWide Tryd.prog W .any base t v := hval0
  have hW' := hW
  obtain ⟨p, q, hA0, hV0, rfl, hfz, hnd⟩ := hW
  have hA : DataW.TrodAll enc Tryd.prog W 0 (fun _ => true) true Tryd.f3.params.toList args.toList ds p := hA0
  have hV : DataW.TrodVars enc Tryd.prog W (fun _ => true) ["loop.example/g00400/impl.errGaveUp"] gs q := hV0
  rw [Tryd.params3] at hA hval
  obtain ⟨v0, vs0, d0, ds0, p0, q0, hargs, rfl, rfl, h0, r0⟩ := trodAll_cons hA
  obtain ⟨rfl, rfl, rfl⟩ := trodAll_nil r0
  obtain rfl : args = #[v0] := by cases args; simp_all
  have k0 := h0
  have lt0 : ∀ x ∈ p0, x.block < W.heap.size := by obtain ⟨m, hm⟩ := k0; exact DataW.trod_lt m _ _ _ hm
  obtain ⟨a0, len0, cap0, rfl⟩ := okWide_slice Tryd.underlying22 (hval 0 22 v0 rfl rfl)
  have w0 : RowAt W.heap.size W a0 len0 := by
    obtain ⟨fuel, hf⟩ := h0
    rcases open_ints Tryd.underlying22 Tryd.underlying5 (by kernel_rfl) hf with ⟨hcs, _⟩ | ⟨x, l, c, zs, hcs, _, hl, hm, hz, _, hcell, hwz⟩
    · simp [Value.cells] at hcs
      obtain ⟨rfl, rfl, rfl⟩ := hcs
      exact row_nil
    · simp [Value.cells] at hcs
      obtain ⟨rfl, rfl, rfl⟩ := hcs
      exact row_of hl (by simpa using hz) hcell hwz
  have hL0 : laidMet Tryd.prog Rows.fnTearRow.laid W := by rw [← MakeChecks.laidMetH_plain _ _ _ (by kernel_rfl)]; exact hL
  obtain ⟨xGaveUp, hvGaveUp⟩ := sent hL0 gGaveUp tGaveUp
  obtain ⟨rfl, rfl⟩ := hV.unique (vars_read1 enc gGaveUp tGaveUp Tryd.underlying56 hvGaveUp trivial _)
  clear hA0 hV0 hval0
  refine (walk a0 len0 cap0 W w0 _ _ (cell_of_var gGaveUp hvGaveUp)).mono fun e W' ⟨he, hb⟩ => ?_
  subst he
  refine ⟨_, rfl, _, _, _, [], (p0 ++ []), [.cell 1 0], hW', ?_, ?_, ?_, Below.frame hb _, fun h => by cases h⟩
  · exact trodAll_mk1 (shut_bool Tryd.underlying4 _)
  · exact (trodAll_cons_mk (Below.trod laidOut (by kernel_rfl) (of_decide_eq_true (by kernel_rfl)) k0 hb lt0) trodAll_mk0)
  · exact vars_read1 enc gGaveUp tGaveUp Tryd.underlying56 (var_kept hb hvGaveUp) trivial _

theorem over : Rows.FnTearSaid :=
  OpenClaim.holds_of_wide 3 Tryd.f3 rfl rfl rfl rfl rfl rfl rfl ⟨rfl, rfl, rfl, rfl, rfl⟩ rfl rfl rfl rfl rfl (by kernel_rfl) Tryd.func3 (by kernel_rfl)
    (of_decide_eq_true (by kernel_rfl)) (by unfold Func.isWrapper; first | (rw [if_pos (by decide +kernel)]; kernel_rfl) | (rw [if_neg (by decide +kernel)]; exact ⟨rfl, rfl⟩))
    (fun os started H enc _ => lifted os started H enc)
end Go.Proofs.YtecjjkgdgmjgmaaDoor.fnTear
namespace Go.Proofs.YtecjjkgdgmjgmaaDoor
theorem fnTear_card : Rows.FnTearCardSaid :=
  Claim7.holds_tied_plain_at .later [] Rows.fnTearCard.laidKinds true Rows.fnTearCard.stood.harness true
    fnTear.over (fun _ h => by cases h) (by kernel_rfl) (fun _ h => by cases h) fnTear_row_tie rfl ⟨rfl, rfl⟩ (by kernel_rfl) rfl
    (fun f fn hf hfn => by
      obtain rfl : f = 3 := Option.some.inj ((show Tryd.prog.funcNamed Rows.fnTearRow.func = some 3 by kernel_rfl).symm.trans hf) |>.symm
      obtain rfl : fn = Tryd.f3 := (Option.some.inj (Tryd.func3.symm.trans hfn)).symm
      exact ⟨by kernel_rfl, fun j t ht => by
        rw [Tryd.params3] at ht
        have hm : t ∈ [22] := by simpa using Array.mem_of_getElem? ht
        have hall : ([22].all fun u => !Tryd.prog.wantsStandIn u) = true := by kernel_rfl
        exact (show Tryd.prog.wantsStandIn t = false by simpa using List.all_eq_true.1 hall t hm)⟩)
    (by kernel_rfl)
end Go.Proofs.YtecjjkgdgmjgmaaDoor
