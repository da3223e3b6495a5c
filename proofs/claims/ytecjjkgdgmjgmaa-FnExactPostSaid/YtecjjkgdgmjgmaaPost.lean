/- FnExactPost: at every argument Post answers as the specification, field by field; it writes into no argument and keeps nothing of one; its answer owns its memory, behind another call too. -/
import Derived.Test.YtecjjkgdgmjgmaaPG
import Derived.Test.YtecjjkgdgmjgmaaImplP
import Derived.Test.YtecjjkgdgmjgmaaRows
import Derived.WalkKit
import Derived.ProofKit
import Derived.OpenShut
import Derived.ChangeOld
import Derived.Below
namespace Go.Proofs.Ytecjjkgdgmjgmaa.fnExactPost
open Go.ChangeShapes Go.WideShapes Go.ChangeAt Go.RowKit
set_option linter.unusedVariables false
theorem pL_len (id : Int) (L : List Ln) (pid : Int) (P : List Ln) : (pL id L pid P).length ≤ 320 := by
  unfold pL
  split
  · rename_i h
    unfold pcode at h
    split at h
    · simp at h
    · split at h
      · simp at h
      · split at h
        · simp at h
        · rename_i h3
          simp [ledgB] at h3
          omega
  · simp
set_option maxRecDepth 100000 in
set_option maxHeartbeats 16000000 in
theorem walk (id : Int) (a : Option Addr) (cap : Nat) (L : List Ln) (pid : Int) (a' : Option Addr) (cap' : Nat) (P : List Ln) (w : World) (hid : (Lit.int .i64 id).wf = true) (hc : Cells w a (flat L)) (hl : L.length ≤ 9223372036854775807) (hpid : (Lit.int .i64 pid).wf = true) (hc' : Cells w a' (flat P)) (hl' : P.length ≤ 9223372036854775807) :
    Calls Try.prog 6 #[.agg #[.int .i64 id, .slice a L.length cap], .agg #[.int .i64 pid, .slice a' P.length cap']] w fun e w' => e = .returned (.bool true) ∧ Keeps w w' := by
  have HC := hide hc
  have HC' := hide hc'
  have HS1 := hide (fun w1 => szLedger_k id a L.length cap 1048576 w1 (by decide) (by decide) hl)
  clear hc hc' hid hpid
  go_enter Try.func6, Try.ntmps6
  have HK := hide (Keeps.refl w)
  go_wp2_with fail
  have hs1 : (w.alloc (.cells #[.int .i64 id, .slice a L.length cap] 53)).heap.size = w.heap.size + 1 := by simp
  have hb := born_alloc w #[.int .i64 id, .slice a L.length cap] 53
  dsimp only at hb
  have hk := Keeps.alloc (Keeps.refl w) (.cells #[.int .i64 id, .slice a L.length cap] 53)
  generalize w.alloc (.cells #[.int .i64 id, .slice a L.length cap] 53) = w1 at *
  have HNA := hide ((hb.old HK.out).new)
  replace HK := hide (HK.out.trans hk)
  have HOA := hide hb.toOwn
  clear hb hk
  have hb := born_alloc w1 #[.int .i64 pid, .slice a' P.length cap'] 55
  dsimp only at hb
  rw [hs1] at hb
  have hk := Keeps.alloc (Keeps.refl w1) (.cells #[.int .i64 pid, .slice a' P.length cap'] 55)
  generalize w1.alloc (.cells #[.int .i64 pid, .slice a' P.length cap'] 55) = w2 at *
  have HDA_B := hide (hb.apart HOA.out.mem)
  have HDB_A := hide (hb.apart' HOA.out.mem)
  have HNB := hide ((hb.old HK.out).new)
  replace HK := hide (HK.out.trans hk)
  replace HOA := hide (HOA.out.kept hk)
  have HOB := hide hb.toOwn
  clear hb hk
  clear hs1
  have cA0 := cell_at HOA.out.mem 0 (by simp)
  have cA1 := cell_at HOA.out.mem 1 (by simp)
  simp only [Nat.zero_add, List.getElem_cons_zero, List.getElem_cons_succ] at cA0 cA1
  have lA := lt_of_cell cA0
  have cB0 := cell_at HOB.out.mem 0 (by simp)
  have cB1 := cell_at HOB.out.mem 1 (by simp)
  simp only [Nat.zero_add, List.getElem_cons_zero, List.getElem_cons_succ] at cB0 cB1
  have lB := lt_of_cell cB0
  refine (unhide HS1 w2).mono ?_
  rintro x w3 ⟨rfl, hk⟩
  clear cA0 cA1 lA cB0 cB1 lB
  replace HK := hide (HK.out.trans hk)
  replace HOA := hide (HOA.out.kept hk)
  replace HOB := hide (HOB.out.kept hk)
  clear hk
  have cA0 := cell_at HOA.out.mem 0 (by simp)
  have cA1 := cell_at HOA.out.mem 1 (by simp)
  simp only [Nat.zero_add, List.getElem_cons_zero, List.getElem_cons_succ] at cA0 cA1
  have lA := lt_of_cell cA0
  have cB0 := cell_at HOB.out.mem 0 (by simp)
  have cB1 := cell_at HOB.out.mem 1 (by simp)
  simp only [Nat.zero_add, List.getElem_cons_zero, List.getElem_cons_succ] at cB0 cB1
  have lB := lt_of_cell cB0
  by_cases hlt : L.length ≤ 1048576
  · rw [if_pos (by omega)]
    have h1 : ¬ ((1048576 : Int) - L.length < 0) := by omega
    have HS2 := hide (fun w1 => szPosting_k pid a' P.length cap' (1048576 - L.length) w1 (by omega) (by omega) hl')
    go_wp2_with fail
    refine (unhide HS2 w3).mono ?_
    rintro x w4 ⟨rfl, hk⟩
    clear cA0 cA1 lA cB0 cB1 lB
    replace HK := hide (HK.out.trans hk)
    replace HOA := hide (HOA.out.kept hk)
    replace HOB := hide (HOB.out.kept hk)
    clear hk
    have cA0 := cell_at HOA.out.mem 0 (by simp)
    have cA1 := cell_at HOA.out.mem 1 (by simp)
    simp only [Nat.zero_add, List.getElem_cons_zero, List.getElem_cons_succ] at cA0 cA1
    have lA := lt_of_cell cA0
    have cB0 := cell_at HOB.out.mem 0 (by simp)
    have cB1 := cell_at HOB.out.mem 1 (by simp)
    simp only [Nat.zero_add, List.getElem_cons_zero, List.getElem_cons_succ] at cB0 cB1
    have lB := lt_of_cell cB0
    clear HS1 HS2
    by_cases hlt2 : (P.length : Int) ≤ 1048576 - L.length
    · rw [if_pos hlt2]
      have h2 : ¬ ((1048576 : Int) - L.length - P.length < 0) := by omega
      have HL := hide hlt
      have HP : Hid (P.length ≤ 1048576) := by show _ ≤ _; omega
      have HTLedger := hide (fun w1 (hk : Keeps w w1) => toLedger_o id a cap L w1 (HC.out.kept hk) HL.out)
      have HTPosting := hide (fun w1 (hk : Keeps w w1) => toPosting_o pid a' cap' P w1 (HC'.out.kept hk) HP.out)
      have HSP : Hid (∀ (b b' : Nat) (w1 : World), Cells w1 (some ⟨b, 0, none⟩) (flat L) → Cells w1 (some ⟨b', 0, none⟩) (flat P) → Calls Try.prog 10 #[.agg #[.int .i64 id, .slice (some ⟨b, 0, none⟩) L.length L.length], .agg #[.int .i64 pid, .slice (some ⟨b', 0, none⟩) P.length P.length]] w1 fun e w2 => PostO (pid' id L pid P) (pL id L pid P) (pcode id L pid P) w1 w2 e ∧ Keeps w1 w2) := fun b b' w1 h h' => post_spec id pid _ _ _ _ L P w1 h h' (fun e => nomatch e) HL.out HP.out
      have HIP : Hid (∀ (b b' : Nat) (w1 : World), Cells w1 (some ⟨b, 0, none⟩) (flat L) → Cells w1 (some ⟨b', 0, none⟩) (flat P) → Calls Try.prog 9 #[.agg #[.int .i64 id, .slice (some ⟨b, 0, none⟩) L.length L.length], .agg #[.int .i64 pid, .slice (some ⟨b', 0, none⟩) P.length P.length]] w1 fun e w2 => PostO (pid' id L pid P) (pL id L pid P) (pcode id L pid P) w1 w2 e ∧ Keeps w1 w2) := fun b b' w1 h h' => post_impl id pid _ _ _ _ L P w1 h h' HL.out HP.out
      have HR : Hid ((pL id L pid P).length ≤ 1048576) := by show _ ≤ _; have := pL_len id L pid P; omega
      generalize pid' id L pid P = rid at *
      generalize pL id L pid P = R at *
      generalize pcode id L pid P = rc at *
      clear hlt hlt2 hl hl'
      go_wp2_with fail
      have HLA := hide HOA.out.mem.lt
      have HLB := hide HOB.out.mem.lt
      have HKR := hide (Keeps.refl w4)
      have HKW := hide HK.out
      clear cA0 cA1 lA cB0 cB1 lB
      have cA0 := cell_at HOA.out.mem 0 (by simp)
      have cA1 := cell_at HOA.out.mem 1 (by simp)
      simp only [Nat.zero_add, List.getElem_cons_zero, List.getElem_cons_succ] at cA0 cA1
      have lA := lt_of_cell cA0
      have cB0 := cell_at HOB.out.mem 0 (by simp)
      have cB1 := cell_at HOB.out.mem 1 (by simp)
      simp only [Nat.zero_add, List.getElem_cons_zero, List.getElem_cons_succ] at cB0 cB1
      have lB := lt_of_cell cB0
      have qA := lA
      have qB := lB
      go_region_held3 (fun w' => w'.cell? ⟨w.heap.size, 0, none⟩ = some (.int .i64 id) ∧ w'.cell? ⟨w.heap.size, 1, none⟩ = some (.slice a L.length cap) ∧ w'.cell? ⟨w.heap.size + 1, 0, none⟩ = some (.int .i64 pid) ∧ w'.cell? ⟨w.heap.size + 1, 1, none⟩ = some (.slice a' P.length cap')) (first | go_keep | (refine ⟨?_, ?_, ?_, ?_⟩ <;> (rw [World.cell?_setCell_other _ _ _ _ (by simp <;> omega), World.cell?_setCell_other _ _ _ _ (by simp <;> omega)]; assumption)))
        (first
           | (go_at_call 22
              first
                | (refine (unhide HTLedger _ (HK.out.trans ((Keeps.refl w4).drew))).mono ?_
                   rintro x w5 ⟨b1, rfl, hb, hk⟩
                   replace hb := hb.old ((Keeps.refl w4).drew)
                   replace hk := ((Keeps.refl w4).drew).trans hk)
                | (refine (unhide HTLedger _ (HK.out.trans ((Keeps.alloc (Keeps.refl w4) (.cells #[.int .i64 0, .slice none 0 0] 25)).drew))).mono ?_
                   rintro x w5 ⟨b1, rfl, hb, hk⟩
                   have hr0 := row_zero w4 (.int .i64 0) (.slice none 0 0) 25
                   have HVB := hide (fun b hb1 => Nat.lt_of_lt_of_le hr0.lt (hb.new b hb1))
                   have HRV := hide (Keeps.rowV hk hr0)
                   clear hr0
                   have HVN := hide HKR.out.size
                   have qVN := HKR.out.size
                   replace hb := hb.old ((Keeps.alloc (Keeps.refl w4) (.cells #[.int .i64 0, .slice none 0 0] 25)).drew)
                   replace hk := ((Keeps.alloc (Keeps.refl w4) (.cells #[.int .i64 0, .slice none 0 0] 25)).drew).trans hk)
              replace HKR := hide (HKR.out.trans hk)
              clear cA0 cA1 lA cB0 cB1 lB
              have HDA_s := hide (hb.apart HOA.out.mem)
              have HDs_A := hide (hb.apart' HOA.out.mem)
              have HDB_s := hide (hb.apart HOB.out.mem)
              have HDs_B := hide (hb.apart' HOB.out.mem)
              have HNs := hide ((hb.old HK.out).new)
              replace HK := hide (HK.out.trans hk)
              replace HOA := hide (HOA.out.kept hk)
              replace HOB := hide (HOB.out.kept hk)
              have HOs := hide hb.toOwn
              clear hb hk
              have cA0 := cell_at HOA.out.mem 0 (by simp)
              have cA1 := cell_at HOA.out.mem 1 (by simp)
              simp only [Nat.zero_add, List.getElem_cons_zero, List.getElem_cons_succ] at cA0 cA1
              have lA := lt_of_cell cA0
              have cB0 := cell_at HOB.out.mem 0 (by simp)
              have cB1 := cell_at HOB.out.mem 1 (by simp)
              simp only [Nat.zero_add, List.getElem_cons_zero, List.getElem_cons_succ] at cB0 cB1
              have lB := lt_of_cell cB0)
           | (go_at_call 23
              first
                | (refine (unhide HTPosting _ (HK.out.trans ((Keeps.refl w5)))).mono ?_
                   rintro x w6 ⟨b2, rfl, hb, hk⟩
                   have hr0 := HRV.out
                   have HVB := hide (fun b hb1 => Nat.lt_of_lt_of_le hr0.lt (hb.new b hb1))
                   replace HRV := hide (Keeps.rowV hk hr0)
                   clear hr0
                   replace hb := hb.old ((Keeps.refl w5))
                   replace hk := ((Keeps.refl w5)).trans hk)
                | (refine (unhide HTPosting _ (HK.out.trans ((Keeps.refl w5)))).mono ?_
                   rintro x w6 ⟨b2, rfl, hb, hk⟩
                   replace hb := hb.old ((Keeps.refl w5))
                   replace hk := ((Keeps.refl w5)).trans hk)
                | (refine (unhide HTPosting _ (HK.out.trans ((Keeps.alloc (Keeps.refl w5) (.cells #[.int .i64 0, .slice none 0 0] 25))))).mono ?_
                   rintro x w6 ⟨b2, rfl, hb, hk⟩
                   have hr0 := row_zero w5 (.int .i64 0) (.slice none 0 0) 25
                   have HVB := hide (fun b hb1 => Nat.lt_of_lt_of_le hr0.lt (hb.new b hb1))
                   have HRV := hide (Keeps.rowV hk hr0)
                   clear hr0
                   have HVN := hide HKR.out.size
                   have qVN := HKR.out.size
                   replace hb := hb.old ((Keeps.alloc (Keeps.refl w5) (.cells #[.int .i64 0, .slice none 0 0] 25)))
                   replace hk := ((Keeps.alloc (Keeps.refl w5) (.cells #[.int .i64 0, .slice none 0 0] 25))).trans hk)
              replace HKR := hide (HKR.out.trans hk)
              clear cA0 cA1 lA cB0 cB1 lB
              have HDA_t := hide (hb.apart HOA.out.mem)
              have HDt_A := hide (hb.apart' HOA.out.mem)
              have HDB_t := hide (hb.apart HOB.out.mem)
              have HDt_B := hide (hb.apart' HOB.out.mem)
              have HDs_t := hide (hb.apart HOs.out.mem)
              have HDt_s := hide (hb.apart' HOs.out.mem)
              have HNt := hide ((hb.old HK.out).new)
              replace HK := hide (HK.out.trans hk)
              replace HOA := hide (HOA.out.kept hk)
              replace HOB := hide (HOB.out.kept hk)
              replace HOs := hide (HOs.out.kept hk)
              have HOt := hide hb.toOwn
              clear hb hk
              have cA0 := cell_at HOA.out.mem 0 (by simp)
              have cA1 := cell_at HOA.out.mem 1 (by simp)
              simp only [Nat.zero_add, List.getElem_cons_zero, List.getElem_cons_succ] at cA0 cA1
              have lA := lt_of_cell cA0
              have cB0 := cell_at HOB.out.mem 0 (by simp)
              have cB1 := cell_at HOB.out.mem 1 (by simp)
              simp only [Nat.zero_add, List.getElem_cons_zero, List.getElem_cons_succ] at cB0 cB1
              have lB := lt_of_cell cB0)
           | (go_at_call 10
              first
                | (refine (unhide HSP _ _ _ ((HOs.out.mem ((some ⟨b1, 0, none⟩), flat L) (by simp)).kept ((Keeps.refl w6))) ((HOt.out.mem ((some ⟨b2, 0, none⟩), flat P) (by simp)).kept ((Keeps.refl w6)))).mono ?_
                   rintro x w7 ⟨⟨aw, cw, rfl, hnw, hb⟩, hk⟩
                   clear hnw
                   have hr0 := HRV.out
                   have HVB := hide (fun b hb1 => Nat.lt_of_lt_of_le hr0.lt (hb.new b hb1))
                   replace HRV := hide (Keeps.rowV hk hr0)
                   clear hr0
                   have zV0 := HRV.out.cell (i := 0) (by decide)
                   have zV1 := HRV.out.cell (i := 1) (by decide)
                   have fV0 := HRV.out.frozen 0
                   have fV1 := HRV.out.frozen 1
                   have lV := HRV.out.lt
                   simp at zV0 zV1
                   replace hb := hb.old ((Keeps.refl w6))
                   replace hk := ((Keeps.refl w6)).trans hk)
                | (refine (unhide HSP _ _ _ ((HOs.out.mem ((some ⟨b1, 0, none⟩), flat L) (by simp)).kept ((Keeps.refl w6))) ((HOt.out.mem ((some ⟨b2, 0, none⟩), flat P) (by simp)).kept ((Keeps.refl w6)))).mono ?_
                   rintro x w7 ⟨⟨aw, cw, rfl, hnw, hb⟩, hk⟩
                   clear hnw
                   replace hb := hb.old ((Keeps.refl w6))
                   replace hk := ((Keeps.refl w6)).trans hk)
                | (refine (unhide HSP _ _ _ ((HOs.out.mem ((some ⟨b1, 0, none⟩), flat L) (by simp)).kept ((Keeps.alloc (Keeps.refl w6) (.cells #[.int .i64 0, .slice none 0 0] 25)))) ((HOt.out.mem ((some ⟨b2, 0, none⟩), flat P) (by simp)).kept ((Keeps.alloc (Keeps.refl w6) (.cells #[.int .i64 0, .slice none 0 0] 25))))).mono ?_
                   rintro x w7 ⟨⟨aw, cw, rfl, hnw, hb⟩, hk⟩
                   clear hnw
                   have hr0 := row_zero w6 (.int .i64 0) (.slice none 0 0) 25
                   have HVB := hide (fun b hb1 => Nat.lt_of_lt_of_le hr0.lt (hb.new b hb1))
                   have HRV := hide (Keeps.rowV hk hr0)
                   clear hr0
                   have HVN := hide HKR.out.size
                   have qVN := HKR.out.size
                   have zV0 := HRV.out.cell (i := 0) (by decide)
                   have zV1 := HRV.out.cell (i := 1) (by decide)
                   have fV0 := HRV.out.frozen 0
                   have fV1 := HRV.out.frozen 1
                   have lV := HRV.out.lt
                   simp at zV0 zV1
                   replace hb := hb.old ((Keeps.alloc (Keeps.refl w6) (.cells #[.int .i64 0, .slice none 0 0] 25)))
                   replace hk := ((Keeps.alloc (Keeps.refl w6) (.cells #[.int .i64 0, .slice none 0 0] 25))).trans hk)
              replace HKR := hide (HKR.out.trans hk)
              clear cA0 cA1 lA cB0 cB1 lB
              have HDA_w := hide (hb.apart HOA.out.mem)
              have HDw_A := hide (hb.apart' HOA.out.mem)
              have HDB_w := hide (hb.apart HOB.out.mem)
              have HDw_B := hide (hb.apart' HOB.out.mem)
              have HDs_w := hide (hb.apart HOs.out.mem)
              have HDw_s := hide (hb.apart' HOs.out.mem)
              have HDt_w := hide (hb.apart HOt.out.mem)
              have HDw_t := hide (hb.apart' HOt.out.mem)
              have HNw := hide ((hb.old HK.out).new)
              replace HK := hide (HK.out.trans hk)
              replace HOA := hide (HOA.out.kept hk)
              replace HOB := hide (HOB.out.kept hk)
              replace HOs := hide (HOs.out.kept hk)
              replace HOt := hide (HOt.out.kept hk)
              have HOw := hide hb.toOwn
              clear hb hk
              have cA0 := cell_at HOA.out.mem 0 (by simp)
              have cA1 := cell_at HOA.out.mem 1 (by simp)
              simp only [Nat.zero_add, List.getElem_cons_zero, List.getElem_cons_succ] at cA0 cA1
              have lA := lt_of_cell cA0
              have cB0 := cell_at HOB.out.mem 0 (by simp)
              have cB1 := cell_at HOB.out.mem 1 (by simp)
              simp only [Nat.zero_add, List.getElem_cons_zero, List.getElem_cons_succ] at cB0 cB1
              have lB := lt_of_cell cB0))
      all_goals clear HOs HNs HDA_s HDs_A HDB_s HDs_B HDt_s HDs_t HDw_s HDs_w
      all_goals clear HOt HNt HDA_t HDt_A HDB_t HDt_B HDw_t HDt_w
      all_goals clear cA0 cA1 lA cB0 cB1 lB
      all_goals
        first
          | (have hrv : w7.rowIs w4.heap.size _ _ _ := HRV.out
             have hVN := HVN.out
             have hVB := HVB.out
             clear HRV HVN HVB zV0 zV1 fV0 fV1 lV qVN
             obtain ⟨hOV, hT⟩ := var_turn hrv (.int .i64 rid) (.slice aw R.length cw)
             generalize (w7.setCell ⟨w4.heap.size, 0, none⟩ (.int .i64 rid)).setCell ⟨w4.heap.size, 1, none⟩ (.slice aw R.length cw) = w8 at *
             have hz0 : w4.heap.size = w4.heap.size := rfl
             generalize hz1 : w4.heap.size = VBVW at hrv hOV hT hVN hVB hz0 ⊢
             obtain ⟨hd1, hd2⟩ := apart_var (S := [(some ⟨w.heap.size, 0, none⟩, [.int .i64 id, .slice a L.length cap])]) (VB := VBVW) (cs := [.int .i64 rid, .slice aw R.length cw]) (by simp) (fun b hb1 e => by have := HLA.out b hb1; omega)
             have HDA_VW := hide hd1
             have HDVW_A := hide hd2
             replace HOA := hide (HOA.out.turn hT (fun b hb1 hx => hd1 b hb1 (by rw [fp_one, fpS_some (by simp)]; exact hx)))
             clear hd1 hd2
             obtain ⟨hd1, hd2⟩ := apart_var (S := [(some ⟨w.heap.size + 1, 0, none⟩, [.int .i64 pid, .slice a' P.length cap'])]) (VB := VBVW) (cs := [.int .i64 rid, .slice aw R.length cw]) (by simp) (fun b hb1 e => by have := HLB.out b hb1; omega)
             have HDB_VW := hide hd1
             have HDVW_B := hide hd2
             replace HOB := hide (HOB.out.turn hT (fun b hb1 hx => hd1 b hb1 (by rw [fp_one, fpS_some (by simp)]; exact hx)))
             clear hd1 hd2
             obtain ⟨hd1, hd2⟩ := apart_var (S := [(aw, flat R)]) (VB := VBVW) (cs := [.int .i64 rid, .slice aw R.length cw]) (by simp) (fun b hb1 e => by have := hVB b hb1; omega)
             have HDw_VW := hide hd1
             have HDVW_w := hide hd2
             replace HOw := hide (HOw.out.turn hT (fun b hb1 hx => hd1 b hb1 (by rw [fp_one, fpS_some (by simp)]; exact hx)))
             clear hd1 hd2
             have HNVW : Hid (∀ b ∈ fp [((some ⟨VBVW, 0, none⟩ : Option Addr), [.int .i64 rid, .slice aw R.length cw])], w.heap.size ≤ b) := fun b hb1 => by have h1 : b = VBVW := (by simpa [fp, fpS] using hb1); have := HKW.out.size; omega
             replace HK := hide (hT.keeps HK.out (fun b hb1 => HNVW.out b (by rw [fp_one, fpS_some (by simp)]; exact hb1)))
             have HOVW := hide hOV
             clear hOV hT hrv hVN hVB)
          | (have hrv : w7.rowIs w5.heap.size _ _ _ := HRV.out
             have hVN := HVN.out
             have hVB := HVB.out
             clear HRV HVN HVB zV0 zV1 fV0 fV1 lV qVN
             obtain ⟨hOV, hT⟩ := var_turn hrv (.int .i64 rid) (.slice aw R.length cw)
             generalize (w7.setCell ⟨w5.heap.size, 0, none⟩ (.int .i64 rid)).setCell ⟨w5.heap.size, 1, none⟩ (.slice aw R.length cw) = w8 at *
             generalize w5.heap.size = VBVW at *
             obtain ⟨hd1, hd2⟩ := apart_var (S := [(some ⟨w.heap.size, 0, none⟩, [.int .i64 id, .slice a L.length cap])]) (VB := VBVW) (cs := [.int .i64 rid, .slice aw R.length cw]) (by simp) (fun b hb1 e => by have := HLA.out b hb1; omega)
             have HDA_VW := hide hd1
             have HDVW_A := hide hd2
             replace HOA := hide (HOA.out.turn hT (fun b hb1 hx => hd1 b hb1 (by rw [fp_one, fpS_some (by simp)]; exact hx)))
             clear hd1 hd2
             obtain ⟨hd1, hd2⟩ := apart_var (S := [(some ⟨w.heap.size + 1, 0, none⟩, [.int .i64 pid, .slice a' P.length cap'])]) (VB := VBVW) (cs := [.int .i64 rid, .slice aw R.length cw]) (by simp) (fun b hb1 e => by have := HLB.out b hb1; omega)
             have HDB_VW := hide hd1
             have HDVW_B := hide hd2
             replace HOB := hide (HOB.out.turn hT (fun b hb1 hx => hd1 b hb1 (by rw [fp_one, fpS_some (by simp)]; exact hx)))
             clear hd1 hd2
             obtain ⟨hd1, hd2⟩ := apart_var (S := [(aw, flat R)]) (VB := VBVW) (cs := [.int .i64 rid, .slice aw R.length cw]) (by simp) (fun b hb1 e => by have := hVB b hb1; omega)
             have HDw_VW := hide hd1
             have HDVW_w := hide hd2
             replace HOw := hide (HOw.out.turn hT (fun b hb1 hx => hd1 b hb1 (by rw [fp_one, fpS_some (by simp)]; exact hx)))
             clear hd1 hd2
             have HNVW : Hid (∀ b ∈ fp [((some ⟨VBVW, 0, none⟩ : Option Addr), [.int .i64 rid, .slice aw R.length cw])], w.heap.size ≤ b) := fun b hb1 => by have h1 : b = VBVW := (by simpa [fp, fpS] using hb1); have := HKW.out.size; omega
             replace HK := hide (hT.keeps HK.out (fun b hb1 => HNVW.out b (by rw [fp_one, fpS_some (by simp)]; exact hb1)))
             have HOVW := hide hOV
             clear hOV hT hrv hVN hVB)
          | (have hrv : w7.rowIs w6.heap.size _ _ _ := HRV.out
             have hVN := HVN.out
             have hVB := HVB.out
             clear HRV HVN HVB zV0 zV1 fV0 fV1 lV qVN
             obtain ⟨hOV, hT⟩ := var_turn hrv (.int .i64 rid) (.slice aw R.length cw)
             generalize (w7.setCell ⟨w6.heap.size, 0, none⟩ (.int .i64 rid)).setCell ⟨w6.heap.size, 1, none⟩ (.slice aw R.length cw) = w8 at *
             generalize w6.heap.size = VBVW at *
             obtain ⟨hd1, hd2⟩ := apart_var (S := [(some ⟨w.heap.size, 0, none⟩, [.int .i64 id, .slice a L.length cap])]) (VB := VBVW) (cs := [.int .i64 rid, .slice aw R.length cw]) (by simp) (fun b hb1 e => by have := HLA.out b hb1; omega)
             have HDA_VW := hide hd1
             have HDVW_A := hide hd2
             replace HOA := hide (HOA.out.turn hT (fun b hb1 hx => hd1 b hb1 (by rw [fp_one, fpS_some (by simp)]; exact hx)))
             clear hd1 hd2
             obtain ⟨hd1, hd2⟩ := apart_var (S := [(some ⟨w.heap.size + 1, 0, none⟩, [.int .i64 pid, .slice a' P.length cap'])]) (VB := VBVW) (cs := [.int .i64 rid, .slice aw R.length cw]) (by simp) (fun b hb1 e => by have := HLB.out b hb1; omega)
             have HDB_VW := hide hd1
             have HDVW_B := hide hd2
             replace HOB := hide (HOB.out.turn hT (fun b hb1 hx => hd1 b hb1 (by rw [fp_one, fpS_some (by simp)]; exact hx)))
             clear hd1 hd2
             obtain ⟨hd1, hd2⟩ := apart_var (S := [(aw, flat R)]) (VB := VBVW) (cs := [.int .i64 rid, .slice aw R.length cw]) (by simp) (fun b hb1 e => by have := hVB b hb1; omega)
             have HDw_VW := hide hd1
             have HDVW_w := hide hd2
             replace HOw := hide (HOw.out.turn hT (fun b hb1 hx => hd1 b hb1 (by rw [fp_one, fpS_some (by simp)]; exact hx)))
             clear hd1 hd2
             have HNVW : Hid (∀ b ∈ fp [((some ⟨VBVW, 0, none⟩ : Option Addr), [.int .i64 rid, .slice aw R.length cw])], w.heap.size ≤ b) := fun b hb1 => by have h1 : b = VBVW := (by simpa [fp, fpS] using hb1); have := HKW.out.size; omega
             replace HK := hide (hT.keeps HK.out (fun b hb1 => HNVW.out b (by rw [fp_one, fpS_some (by simp)]; exact hb1)))
             have HOVW := hide hOV
             clear hOV hT hrv hVN hVB)
          | (have hb := born_alloc w7 #[.int .i64 rid, .slice aw R.length cw] 25
             dsimp only at hb
             have hk := Keeps.alloc (Keeps.refl w7) (.cells #[.int .i64 rid, .slice aw R.length cw] 25)
             generalize w7.alloc (.cells #[.int .i64 rid, .slice aw R.length cw] 25) = w8 at *
             have HDA_VW := hide (hb.apart HOA.out.mem)
             have HDVW_A := hide (hb.apart' HOA.out.mem)
             have HDB_VW := hide (hb.apart HOB.out.mem)
             have HDVW_B := hide (hb.apart' HOB.out.mem)
             have HDw_VW := hide (hb.apart HOw.out.mem)
             have HDVW_w := hide (hb.apart' HOw.out.mem)
             have HNVW := hide ((hb.old HK.out).new)
             replace HK := hide (HK.out.trans hk)
             replace HOA := hide (HOA.out.kept hk)
             replace HOB := hide (HOB.out.kept hk)
             replace HOw := hide (HOw.out.kept hk)
             have HOVW := hide hb.toOwn
             clear hb hk
             generalize w7.heap.size = VBVW at *)
        clear HKR HKW qA qB HLA HLB
        have cA0 := cell_at HOA.out.mem 0 (by simp)
        have cA1 := cell_at HOA.out.mem 1 (by simp)
        simp only [Nat.zero_add, List.getElem_cons_zero, List.getElem_cons_succ] at cA0 cA1
        have lA := lt_of_cell cA0
        have cB0 := cell_at HOB.out.mem 0 (by simp)
        have cB1 := cell_at HOB.out.mem 1 (by simp)
        simp only [Nat.zero_add, List.getElem_cons_zero, List.getElem_cons_succ] at cB0 cB1
        have lB := lt_of_cell cB0
        have cVW0 := cell_at HOVW.out.mem 0 (by simp)
        have cVW1 := cell_at HOVW.out.mem 1 (by simp)
        simp only [Nat.zero_add, List.getElem_cons_zero, List.getElem_cons_succ] at cVW0 cVW1
        have lVW := lt_of_cell cVW0
        go_wp2_with fail
        refine (unhide HTLedger _ HK.out).mono ?_
        rintro x w9 ⟨b3, rfl, hb, hk⟩
        clear cA0 cA1 lA cB0 cB1 lB cVW0 cVW1 lVW
        have HDA_x := hide (hb.apart HOA.out.mem)
        have HDx_A := hide (hb.apart' HOA.out.mem)
        have HDB_x := hide (hb.apart HOB.out.mem)
        have HDx_B := hide (hb.apart' HOB.out.mem)
        have HDw_x := hide (hb.apart HOw.out.mem)
        have HDx_w := hide (hb.apart' HOw.out.mem)
        have HDVW_x := hide (hb.apart HOVW.out.mem)
        have HDx_VW := hide (hb.apart' HOVW.out.mem)
        have HNx := hide ((hb.old HK.out).new)
        replace HK := hide (HK.out.trans hk)
        replace HOA := hide (HOA.out.kept hk)
        replace HOB := hide (HOB.out.kept hk)
        replace HOw := hide (HOw.out.kept hk)
        replace HOVW := hide (HOVW.out.kept hk)
        have HOx := hide hb.toOwn
        clear hb hk
        have cA0 := cell_at HOA.out.mem 0 (by simp)
        have cA1 := cell_at HOA.out.mem 1 (by simp)
        simp only [Nat.zero_add, List.getElem_cons_zero, List.getElem_cons_succ] at cA0 cA1
        have lA := lt_of_cell cA0
        have cB0 := cell_at HOB.out.mem 0 (by simp)
        have cB1 := cell_at HOB.out.mem 1 (by simp)
        simp only [Nat.zero_add, List.getElem_cons_zero, List.getElem_cons_succ] at cB0 cB1
        have lB := lt_of_cell cB0
        have cVW0 := cell_at HOVW.out.mem 0 (by simp)
        have cVW1 := cell_at HOVW.out.mem 1 (by simp)
        simp only [Nat.zero_add, List.getElem_cons_zero, List.getElem_cons_succ] at cVW0 cVW1
        have lVW := lt_of_cell cVW0
        go_wp2_with fail
        have hb := born_alloc w9 #[.int .i64 id, .slice (some ⟨b3, 0, none⟩) L.length L.length] 25
        dsimp only at hb
        have hk := Keeps.alloc (Keeps.refl w9) (.cells #[.int .i64 id, .slice (some ⟨b3, 0, none⟩) L.length L.length] 25)
        generalize w9.alloc (.cells #[.int .i64 id, .slice (some ⟨b3, 0, none⟩) L.length L.length] 25) = w10 at *
        clear cA0 cA1 lA cB0 cB1 lB cVW0 cVW1 lVW
        have HDA_X := hide (hb.apart HOA.out.mem)
        have HDX_A := hide (hb.apart' HOA.out.mem)
        have HDB_X := hide (hb.apart HOB.out.mem)
        have HDX_B := hide (hb.apart' HOB.out.mem)
        have HDw_X := hide (hb.apart HOw.out.mem)
        have HDX_w := hide (hb.apart' HOw.out.mem)
        have HDVW_X := hide (hb.apart HOVW.out.mem)
        have HDX_VW := hide (hb.apart' HOVW.out.mem)
        have HDx_X := hide (hb.apart HOx.out.mem)
        have HDX_x := hide (hb.apart' HOx.out.mem)
        have HNX := hide ((hb.old HK.out).new)
        replace HK := hide (HK.out.trans hk)
        replace HOA := hide (HOA.out.kept hk)
        replace HOB := hide (HOB.out.kept hk)
        replace HOw := hide (HOw.out.kept hk)
        replace HOVW := hide (HOVW.out.kept hk)
        replace HOx := hide (HOx.out.kept hk)
        have HOX := hide hb.toOwn
        clear hb hk
        have cA0 := cell_at HOA.out.mem 0 (by simp)
        have cA1 := cell_at HOA.out.mem 1 (by simp)
        simp only [Nat.zero_add, List.getElem_cons_zero, List.getElem_cons_succ] at cA0 cA1
        have lA := lt_of_cell cA0
        have cB0 := cell_at HOB.out.mem 0 (by simp)
        have cB1 := cell_at HOB.out.mem 1 (by simp)
        simp only [Nat.zero_add, List.getElem_cons_zero, List.getElem_cons_succ] at cB0 cB1
        have lB := lt_of_cell cB0
        have cVW0 := cell_at HOVW.out.mem 0 (by simp)
        have cVW1 := cell_at HOVW.out.mem 1 (by simp)
        simp only [Nat.zero_add, List.getElem_cons_zero, List.getElem_cons_succ] at cVW0 cVW1
        have lVW := lt_of_cell cVW0
        have cX0 := cell_at HOX.out.mem 0 (by simp)
        have cX1 := cell_at HOX.out.mem 1 (by simp)
        simp only [Nat.zero_add, List.getElem_cons_zero, List.getElem_cons_succ] at cX0 cX1
        have lX := lt_of_cell cX0
        refine (unhide HTPosting _ HK.out).mono ?_
        rintro x w11 ⟨b4, rfl, hb, hk⟩
        clear cA0 cA1 lA cB0 cB1 lB cVW0 cVW1 lVW cX0 cX1 lX
        have HDA_y := hide (hb.apart HOA.out.mem)
        have HDy_A := hide (hb.apart' HOA.out.mem)
        have HDB_y := hide (hb.apart HOB.out.mem)
        have HDy_B := hide (hb.apart' HOB.out.mem)
        have HDw_y := hide (hb.apart HOw.out.mem)
        have HDy_w := hide (hb.apart' HOw.out.mem)
        have HDVW_y := hide (hb.apart HOVW.out.mem)
        have HDy_VW := hide (hb.apart' HOVW.out.mem)
        have HDx_y := hide (hb.apart HOx.out.mem)
        have HDy_x := hide (hb.apart' HOx.out.mem)
        have HDX_y := hide (hb.apart HOX.out.mem)
        have HDy_X := hide (hb.apart' HOX.out.mem)
        have HNy := hide ((hb.old HK.out).new)
        replace HK := hide (HK.out.trans hk)
        replace HOA := hide (HOA.out.kept hk)
        replace HOB := hide (HOB.out.kept hk)
        replace HOw := hide (HOw.out.kept hk)
        replace HOVW := hide (HOVW.out.kept hk)
        replace HOx := hide (HOx.out.kept hk)
        replace HOX := hide (HOX.out.kept hk)
        have HOy := hide hb.toOwn
        clear hb hk
        have cA0 := cell_at HOA.out.mem 0 (by simp)
        have cA1 := cell_at HOA.out.mem 1 (by simp)
        simp only [Nat.zero_add, List.getElem_cons_zero, List.getElem_cons_succ] at cA0 cA1
        have lA := lt_of_cell cA0
        have cB0 := cell_at HOB.out.mem 0 (by simp)
        have cB1 := cell_at HOB.out.mem 1 (by simp)
        simp only [Nat.zero_add, List.getElem_cons_zero, List.getElem_cons_succ] at cB0 cB1
        have lB := lt_of_cell cB0
        have cVW0 := cell_at HOVW.out.mem 0 (by simp)
        have cVW1 := cell_at HOVW.out.mem 1 (by simp)
        simp only [Nat.zero_add, List.getElem_cons_zero, List.getElem_cons_succ] at cVW0 cVW1
        have lVW := lt_of_cell cVW0
        have cX0 := cell_at HOX.out.mem 0 (by simp)
        have cX1 := cell_at HOX.out.mem 1 (by simp)
        simp only [Nat.zero_add, List.getElem_cons_zero, List.getElem_cons_succ] at cX0 cX1
        have lX := lt_of_cell cX0
        go_wp2_with fail
        have hb := born_alloc w11 #[.int .i64 pid, .slice (some ⟨b4, 0, none⟩) P.length P.length] 27
        dsimp only at hb
        have hk := Keeps.alloc (Keeps.refl w11) (.cells #[.int .i64 pid, .slice (some ⟨b4, 0, none⟩) P.length P.length] 27)
        generalize w11.alloc (.cells #[.int .i64 pid, .slice (some ⟨b4, 0, none⟩) P.length P.length] 27) = w12 at *
        clear cA0 cA1 lA cB0 cB1 lB cVW0 cVW1 lVW cX0 cX1 lX
        have HDA_Y := hide (hb.apart HOA.out.mem)
        have HDY_A := hide (hb.apart' HOA.out.mem)
        have HDB_Y := hide (hb.apart HOB.out.mem)
        have HDY_B := hide (hb.apart' HOB.out.mem)
        have HDw_Y := hide (hb.apart HOw.out.mem)
        have HDY_w := hide (hb.apart' HOw.out.mem)
        have HDVW_Y := hide (hb.apart HOVW.out.mem)
        have HDY_VW := hide (hb.apart' HOVW.out.mem)
        have HDx_Y := hide (hb.apart HOx.out.mem)
        have HDY_x := hide (hb.apart' HOx.out.mem)
        have HDX_Y := hide (hb.apart HOX.out.mem)
        have HDY_X := hide (hb.apart' HOX.out.mem)
        have HDy_Y := hide (hb.apart HOy.out.mem)
        have HDY_y := hide (hb.apart' HOy.out.mem)
        have HNY := hide ((hb.old HK.out).new)
        replace HK := hide (HK.out.trans hk)
        replace HOA := hide (HOA.out.kept hk)
        replace HOB := hide (HOB.out.kept hk)
        replace HOw := hide (HOw.out.kept hk)
        replace HOVW := hide (HOVW.out.kept hk)
        replace HOx := hide (HOx.out.kept hk)
        replace HOX := hide (HOX.out.kept hk)
        replace HOy := hide (HOy.out.kept hk)
        have HOY := hide hb.toOwn
        clear hb hk
        have cA0 := cell_at HOA.out.mem 0 (by simp)
        have cA1 := cell_at HOA.out.mem 1 (by simp)
        simp only [Nat.zero_add, List.getElem_cons_zero, List.getElem_cons_succ] at cA0 cA1
        have lA := lt_of_cell cA0
        have cB0 := cell_at HOB.out.mem 0 (by simp)
        have cB1 := cell_at HOB.out.mem 1 (by simp)
        simp only [Nat.zero_add, List.getElem_cons_zero, List.getElem_cons_succ] at cB0 cB1
        have lB := lt_of_cell cB0
        have cVW0 := cell_at HOVW.out.mem 0 (by simp)
        have cVW1 := cell_at HOVW.out.mem 1 (by simp)
        simp only [Nat.zero_add, List.getElem_cons_zero, List.getElem_cons_succ] at cVW0 cVW1
        have lVW := lt_of_cell cVW0
        have cX0 := cell_at HOX.out.mem 0 (by simp)
        have cX1 := cell_at HOX.out.mem 1 (by simp)
        simp only [Nat.zero_add, List.getElem_cons_zero, List.getElem_cons_succ] at cX0 cX1
        have lX := lt_of_cell cX0
        have cY0 := cell_at HOY.out.mem 0 (by simp)
        have cY1 := cell_at HOY.out.mem 1 (by simp)
        simp only [Nat.zero_add, List.getElem_cons_zero, List.getElem_cons_succ] at cY0 cY1
        have lY := lt_of_cell cY0
        refine (unhide HIP _ _ w12 (HOx.out.mem ((some ⟨b3, 0, none⟩), flat L) (by simp)) (HOy.out.mem ((some ⟨b4, 0, none⟩), flat P) (by simp))).mono ?_
        rintro x w13 ⟨⟨ag, cg, rfl, hng, hb⟩, hk⟩
        clear hng
        clear cA0 cA1 lA cB0 cB1 lB cVW0 cVW1 lVW cX0 cX1 lX cY0 cY1 lY
        have HDA_g := hide (hb.apart HOA.out.mem)
        have HDg_A := hide (hb.apart' HOA.out.mem)
        have HDB_g := hide (hb.apart HOB.out.mem)
        have HDg_B := hide (hb.apart' HOB.out.mem)
        have HDw_g := hide (hb.apart HOw.out.mem)
        have HDg_w := hide (hb.apart' HOw.out.mem)
        have HDVW_g := hide (hb.apart HOVW.out.mem)
        have HDg_VW := hide (hb.apart' HOVW.out.mem)
        have HDx_g := hide (hb.apart HOx.out.mem)
        have HDg_x := hide (hb.apart' HOx.out.mem)
        have HDX_g := hide (hb.apart HOX.out.mem)
        have HDg_X := hide (hb.apart' HOX.out.mem)
        have HDy_g := hide (hb.apart HOy.out.mem)
        have HDg_y := hide (hb.apart' HOy.out.mem)
        have HDY_g := hide (hb.apart HOY.out.mem)
        have HDg_Y := hide (hb.apart' HOY.out.mem)
        have HNg := hide ((hb.old HK.out).new)
        replace HK := hide (HK.out.trans hk)
        replace HOA := hide (HOA.out.kept hk)
        replace HOB := hide (HOB.out.kept hk)
        replace HOw := hide (HOw.out.kept hk)
        replace HOVW := hide (HOVW.out.kept hk)
        replace HOx := hide (HOx.out.kept hk)
        replace HOX := hide (HOX.out.kept hk)
        replace HOy := hide (HOy.out.kept hk)
        replace HOY := hide (HOY.out.kept hk)
        have HOg := hide hb.toOwn
        clear hb hk
        have cA0 := cell_at HOA.out.mem 0 (by simp)
        have cA1 := cell_at HOA.out.mem 1 (by simp)
        simp only [Nat.zero_add, List.getElem_cons_zero, List.getElem_cons_succ] at cA0 cA1
        have lA := lt_of_cell cA0
        have cB0 := cell_at HOB.out.mem 0 (by simp)
        have cB1 := cell_at HOB.out.mem 1 (by simp)
        simp only [Nat.zero_add, List.getElem_cons_zero, List.getElem_cons_succ] at cB0 cB1
        have lB := lt_of_cell cB0
        have cVW0 := cell_at HOVW.out.mem 0 (by simp)
        have cVW1 := cell_at HOVW.out.mem 1 (by simp)
        simp only [Nat.zero_add, List.getElem_cons_zero, List.getElem_cons_succ] at cVW0 cVW1
        have lVW := lt_of_cell cVW0
        have cX0 := cell_at HOX.out.mem 0 (by simp)
        have cX1 := cell_at HOX.out.mem 1 (by simp)
        simp only [Nat.zero_add, List.getElem_cons_zero, List.getElem_cons_succ] at cX0 cX1
        have lX := lt_of_cell cX0
        have cY0 := cell_at HOY.out.mem 0 (by simp)
        have cY1 := cell_at HOY.out.mem 1 (by simp)
        simp only [Nat.zero_add, List.getElem_cons_zero, List.getElem_cons_succ] at cY0 cY1
        have lY := lt_of_cell cY0
        go_wp2_with fail
        have hb := born_alloc w13 #[.int .i64 rid, .slice ag R.length cg] 25
        dsimp only at hb
        have hk := Keeps.alloc (Keeps.refl w13) (.cells #[.int .i64 rid, .slice ag R.length cg] 25)
        generalize w13.alloc (.cells #[.int .i64 rid, .slice ag R.length cg] 25) = w14 at *
        clear cA0 cA1 lA cB0 cB1 lB cVW0 cVW1 lVW cX0 cX1 lX cY0 cY1 lY
        have HDA_VG := hide (hb.apart HOA.out.mem)
        have HDVG_A := hide (hb.apart' HOA.out.mem)
        have HDB_VG := hide (hb.apart HOB.out.mem)
        have HDVG_B := hide (hb.apart' HOB.out.mem)
        have HDw_VG := hide (hb.apart HOw.out.mem)
        have HDVG_w := hide (hb.apart' HOw.out.mem)
        have HDVW_VG := hide (hb.apart HOVW.out.mem)
        have HDVG_VW := hide (hb.apart' HOVW.out.mem)
        have HDx_VG := hide (hb.apart HOx.out.mem)
        have HDVG_x := hide (hb.apart' HOx.out.mem)
        have HDX_VG := hide (hb.apart HOX.out.mem)
        have HDVG_X := hide (hb.apart' HOX.out.mem)
        have HDy_VG := hide (hb.apart HOy.out.mem)
        have HDVG_y := hide (hb.apart' HOy.out.mem)
        have HDY_VG := hide (hb.apart HOY.out.mem)
        have HDVG_Y := hide (hb.apart' HOY.out.mem)
        have HDg_VG := hide (hb.apart HOg.out.mem)
        have HDVG_g := hide (hb.apart' HOg.out.mem)
        have HNVG := hide ((hb.old HK.out).new)
        replace HK := hide (HK.out.trans hk)
        replace HOA := hide (HOA.out.kept hk)
        replace HOB := hide (HOB.out.kept hk)
        replace HOw := hide (HOw.out.kept hk)
        replace HOVW := hide (HOVW.out.kept hk)
        replace HOx := hide (HOx.out.kept hk)
        replace HOX := hide (HOX.out.kept hk)
        replace HOy := hide (HOy.out.kept hk)
        replace HOY := hide (HOY.out.kept hk)
        replace HOg := hide (HOg.out.kept hk)
        have HOVG := hide hb.toOwn
        clear hb hk
        refine (eqLedger_o rid ag aw cg cw R w14 (HOg.out.mem (ag, flat R) (by simp)) (HOw.out.mem (aw, flat R) (by simp)) HR.out).mono ?_
        rintro x w15 ⟨rfl, hk⟩
        replace HK := hide (HK.out.trans hk)
        replace HOA := hide (HOA.out.kept hk)
        replace HOB := hide (HOB.out.kept hk)
        replace HOw := hide (HOw.out.kept hk)
        replace HOVW := hide (HOVW.out.kept hk)
        replace HOx := hide (HOx.out.kept hk)
        replace HOX := hide (HOX.out.kept hk)
        replace HOy := hide (HOy.out.kept hk)
        replace HOY := hide (HOY.out.kept hk)
        replace HOg := hide (HOg.out.kept hk)
        replace HOVG := hide (HOVG.out.kept hk)
        clear hk
        have cA0 := cell_at HOA.out.mem 0 (by simp)
        have cA1 := cell_at HOA.out.mem 1 (by simp)
        simp only [Nat.zero_add, List.getElem_cons_zero, List.getElem_cons_succ] at cA0 cA1
        have lA := lt_of_cell cA0
        have cB0 := cell_at HOB.out.mem 0 (by simp)
        have cB1 := cell_at HOB.out.mem 1 (by simp)
        simp only [Nat.zero_add, List.getElem_cons_zero, List.getElem_cons_succ] at cB0 cB1
        have lB := lt_of_cell cB0
        have cVW0 := cell_at HOVW.out.mem 0 (by simp)
        have cVW1 := cell_at HOVW.out.mem 1 (by simp)
        simp only [Nat.zero_add, List.getElem_cons_zero, List.getElem_cons_succ] at cVW0 cVW1
        have lVW := lt_of_cell cVW0
        have cX0 := cell_at HOX.out.mem 0 (by simp)
        have cX1 := cell_at HOX.out.mem 1 (by simp)
        simp only [Nat.zero_add, List.getElem_cons_zero, List.getElem_cons_succ] at cX0 cX1
        have lX := lt_of_cell cX0
        have cY0 := cell_at HOY.out.mem 0 (by simp)
        have cY1 := cell_at HOY.out.mem 1 (by simp)
        simp only [Nat.zero_add, List.getElem_cons_zero, List.getElem_cons_succ] at cY0 cY1
        have lY := lt_of_cell cY0
        have cVG0 := cell_at HOVG.out.mem 0 (by simp)
        have cVG1 := cell_at HOVG.out.mem 1 (by simp)
        simp only [Nat.zero_add, List.getElem_cons_zero, List.getElem_cons_succ] at cVG0 cVG1
        have lVG := lt_of_cell cVG0
        go_wp2_with fail
        go_region_held3 (fun w' => w'.cell? ⟨w9.heap.size, 0, none⟩ = some (.int .i64 id) ∧ w'.cell? ⟨w9.heap.size, 1, none⟩ = some (.slice (some ⟨b3, 0, none⟩) L.length L.length) ∧ w'.cell? ⟨w.heap.size, 0, none⟩ = some (.int .i64 id) ∧ w'.cell? ⟨w.heap.size, 1, none⟩ = some (.slice a L.length cap)) (go_keep)
          (first
             | (go_at_call 22
                refine (unhide HTLedger _ (HK.out.trans ((Keeps.refl w15).drew))).mono ?_
                rintro x w16 ⟨b5, rfl, hb, hk⟩
                replace hb := hb.old ((Keeps.refl w15).drew)
                replace hk := ((Keeps.refl w15).drew).trans hk
                clear cA0 cA1 lA cB0 cB1 lB cVW0 cVW1 lVW cX0 cX1 lX cY0 cY1 lY cVG0 cVG1 lVG
                have HDA_z := hide (hb.apart HOA.out.mem)
                have HDz_A := hide (hb.apart' HOA.out.mem)
                have HDB_z := hide (hb.apart HOB.out.mem)
                have HDz_B := hide (hb.apart' HOB.out.mem)
                have HDw_z := hide (hb.apart HOw.out.mem)
                have HDz_w := hide (hb.apart' HOw.out.mem)
                have HDVW_z := hide (hb.apart HOVW.out.mem)
                have HDz_VW := hide (hb.apart' HOVW.out.mem)
                have HDx_z := hide (hb.apart HOx.out.mem)
                have HDz_x := hide (hb.apart' HOx.out.mem)
                have HDX_z := hide (hb.apart HOX.out.mem)
                have HDz_X := hide (hb.apart' HOX.out.mem)
                have HDy_z := hide (hb.apart HOy.out.mem)
                have HDz_y := hide (hb.apart' HOy.out.mem)
                have HDY_z := hide (hb.apart HOY.out.mem)
                have HDz_Y := hide (hb.apart' HOY.out.mem)
                have HDg_z := hide (hb.apart HOg.out.mem)
                have HDz_g := hide (hb.apart' HOg.out.mem)
                have HDVG_z := hide (hb.apart HOVG.out.mem)
                have HDz_VG := hide (hb.apart' HOVG.out.mem)
                have HNz := hide ((hb.old HK.out).new)
                replace HK := hide (HK.out.trans hk)
                replace HOA := hide (HOA.out.kept hk)
                replace HOB := hide (HOB.out.kept hk)
                replace HOw := hide (HOw.out.kept hk)
                replace HOVW := hide (HOVW.out.kept hk)
                replace HOx := hide (HOx.out.kept hk)
                replace HOX := hide (HOX.out.kept hk)
                replace HOy := hide (HOy.out.kept hk)
                replace HOY := hide (HOY.out.kept hk)
                replace HOg := hide (HOg.out.kept hk)
                replace HOVG := hide (HOVG.out.kept hk)
                have HOz := hide hb.toOwn
                clear hb hk
                have cA0 := cell_at HOA.out.mem 0 (by simp)
                have cA1 := cell_at HOA.out.mem 1 (by simp)
                simp only [Nat.zero_add, List.getElem_cons_zero, List.getElem_cons_succ] at cA0 cA1
                have lA := lt_of_cell cA0
                have cB0 := cell_at HOB.out.mem 0 (by simp)
                have cB1 := cell_at HOB.out.mem 1 (by simp)
                simp only [Nat.zero_add, List.getElem_cons_zero, List.getElem_cons_succ] at cB0 cB1
                have lB := lt_of_cell cB0
                have cVW0 := cell_at HOVW.out.mem 0 (by simp)
                have cVW1 := cell_at HOVW.out.mem 1 (by simp)
                simp only [Nat.zero_add, List.getElem_cons_zero, List.getElem_cons_succ] at cVW0 cVW1
                have lVW := lt_of_cell cVW0
                have cX0 := cell_at HOX.out.mem 0 (by simp)
                have cX1 := cell_at HOX.out.mem 1 (by simp)
                simp only [Nat.zero_add, List.getElem_cons_zero, List.getElem_cons_succ] at cX0 cX1
                have lX := lt_of_cell cX0
                have cY0 := cell_at HOY.out.mem 0 (by simp)
                have cY1 := cell_at HOY.out.mem 1 (by simp)
                simp only [Nat.zero_add, List.getElem_cons_zero, List.getElem_cons_succ] at cY0 cY1
                have lY := lt_of_cell cY0
                have cVG0 := cell_at HOVG.out.mem 0 (by simp)
                have cVG1 := cell_at HOVG.out.mem 1 (by simp)
                simp only [Nat.zero_add, List.getElem_cons_zero, List.getElem_cons_succ] at cVG0 cVG1
                have lVG := lt_of_cell cVG0)
             | (go_at_call 24
                refine (eqLedger_o id (some ⟨b3, 0, none⟩) (some ⟨b5, 0, none⟩) L.length L.length L w16 (HOx.out.mem ((some ⟨b3, 0, none⟩), flat L) (by simp)) (HOz.out.mem ((some ⟨b5, 0, none⟩), flat L) (by simp)) HL.out).mono ?_
                rintro x w17 ⟨rfl, hk⟩
                clear cA0 cA1 lA cB0 cB1 lB cVW0 cVW1 lVW cX0 cX1 lX cY0 cY1 lY cVG0 cVG1 lVG
                replace HK := hide (HK.out.trans hk)
                replace HOA := hide (HOA.out.kept hk)
                replace HOB := hide (HOB.out.kept hk)
                replace HOw := hide (HOw.out.kept hk)
                replace HOVW := hide (HOVW.out.kept hk)
                replace HOx := hide (HOx.out.kept hk)
                replace HOX := hide (HOX.out.kept hk)
                replace HOy := hide (HOy.out.kept hk)
                replace HOY := hide (HOY.out.kept hk)
                replace HOg := hide (HOg.out.kept hk)
                replace HOVG := hide (HOVG.out.kept hk)
                replace HOz := hide (HOz.out.kept hk)
                clear hk
                have cA0 := cell_at HOA.out.mem 0 (by simp)
                have cA1 := cell_at HOA.out.mem 1 (by simp)
                simp only [Nat.zero_add, List.getElem_cons_zero, List.getElem_cons_succ] at cA0 cA1
                have lA := lt_of_cell cA0
                have cB0 := cell_at HOB.out.mem 0 (by simp)
                have cB1 := cell_at HOB.out.mem 1 (by simp)
                simp only [Nat.zero_add, List.getElem_cons_zero, List.getElem_cons_succ] at cB0 cB1
                have lB := lt_of_cell cB0
                have cVW0 := cell_at HOVW.out.mem 0 (by simp)
                have cVW1 := cell_at HOVW.out.mem 1 (by simp)
                simp only [Nat.zero_add, List.getElem_cons_zero, List.getElem_cons_succ] at cVW0 cVW1
                have lVW := lt_of_cell cVW0
                have cX0 := cell_at HOX.out.mem 0 (by simp)
                have cX1 := cell_at HOX.out.mem 1 (by simp)
                simp only [Nat.zero_add, List.getElem_cons_zero, List.getElem_cons_succ] at cX0 cX1
                have lX := lt_of_cell cX0
                have cY0 := cell_at HOY.out.mem 0 (by simp)
                have cY1 := cell_at HOY.out.mem 1 (by simp)
                simp only [Nat.zero_add, List.getElem_cons_zero, List.getElem_cons_succ] at cY0 cY1
                have lY := lt_of_cell cY0
                have cVG0 := cell_at HOVG.out.mem 0 (by simp)
                have cVG1 := cell_at HOVG.out.mem 1 (by simp)
                simp only [Nat.zero_add, List.getElem_cons_zero, List.getElem_cons_succ] at cVG0 cVG1
                have lVG := lt_of_cell cVG0))
        clear HOz HNz HDA_z HDz_A HDB_z HDz_B HDw_z HDz_w HDVW_z HDz_VW HDx_z HDz_x HDX_z HDz_X HDy_z HDz_y HDY_z HDz_Y HDg_z HDz_g HDVG_z HDz_VG
        clear cA0 cA1 lA cB0 cB1 lB cVW0 cVW1 lVW cX0 cX1 lX cY0 cY1 lY cVG0 cVG1 lVG
        have cA0 := cell_at HOA.out.mem 0 (by simp)
        have cA1 := cell_at HOA.out.mem 1 (by simp)
        simp only [Nat.zero_add, List.getElem_cons_zero, List.getElem_cons_succ] at cA0 cA1
        have lA := lt_of_cell cA0
        have cB0 := cell_at HOB.out.mem 0 (by simp)
        have cB1 := cell_at HOB.out.mem 1 (by simp)
        simp only [Nat.zero_add, List.getElem_cons_zero, List.getElem_cons_succ] at cB0 cB1
        have lB := lt_of_cell cB0
        have cVW0 := cell_at HOVW.out.mem 0 (by simp)
        have cVW1 := cell_at HOVW.out.mem 1 (by simp)
        simp only [Nat.zero_add, List.getElem_cons_zero, List.getElem_cons_succ] at cVW0 cVW1
        have lVW := lt_of_cell cVW0
        have cX0 := cell_at HOX.out.mem 0 (by simp)
        have cX1 := cell_at HOX.out.mem 1 (by simp)
        simp only [Nat.zero_add, List.getElem_cons_zero, List.getElem_cons_succ] at cX0 cX1
        have lX := lt_of_cell cX0
        have cY0 := cell_at HOY.out.mem 0 (by simp)
        have cY1 := cell_at HOY.out.mem 1 (by simp)
        simp only [Nat.zero_add, List.getElem_cons_zero, List.getElem_cons_succ] at cY0 cY1
        have lY := lt_of_cell cY0
        have cVG0 := cell_at HOVG.out.mem 0 (by simp)
        have cVG1 := cell_at HOVG.out.mem 1 (by simp)
        simp only [Nat.zero_add, List.getElem_cons_zero, List.getElem_cons_succ] at cVG0 cVG1
        have lVG := lt_of_cell cVG0
        go_wp2_with fail
        go_region_held3 (fun w' => w'.cell? ⟨w11.heap.size, 0, none⟩ = some (.int .i64 pid) ∧ w'.cell? ⟨w11.heap.size, 1, none⟩ = some (.slice (some ⟨b4, 0, none⟩) P.length P.length) ∧ w'.cell? ⟨w.heap.size + 1, 0, none⟩ = some (.int .i64 pid) ∧ w'.cell? ⟨w.heap.size + 1, 1, none⟩ = some (.slice a' P.length cap')) (go_keep)
          (first
             | (go_at_call 23
                refine (unhide HTPosting _ (HK.out.trans ((Keeps.refl w17).drew))).mono ?_
                rintro x w18 ⟨b6, rfl, hb, hk⟩
                replace hb := hb.old ((Keeps.refl w17).drew)
                replace hk := ((Keeps.refl w17).drew).trans hk
                clear cA0 cA1 lA cB0 cB1 lB cVW0 cVW1 lVW cX0 cX1 lX cY0 cY1 lY cVG0 cVG1 lVG
                have HDA_z := hide (hb.apart HOA.out.mem)
                have HDz_A := hide (hb.apart' HOA.out.mem)
                have HDB_z := hide (hb.apart HOB.out.mem)
                have HDz_B := hide (hb.apart' HOB.out.mem)
                have HDw_z := hide (hb.apart HOw.out.mem)
                have HDz_w := hide (hb.apart' HOw.out.mem)
                have HDVW_z := hide (hb.apart HOVW.out.mem)
                have HDz_VW := hide (hb.apart' HOVW.out.mem)
                have HDx_z := hide (hb.apart HOx.out.mem)
                have HDz_x := hide (hb.apart' HOx.out.mem)
                have HDX_z := hide (hb.apart HOX.out.mem)
                have HDz_X := hide (hb.apart' HOX.out.mem)
                have HDy_z := hide (hb.apart HOy.out.mem)
                have HDz_y := hide (hb.apart' HOy.out.mem)
                have HDY_z := hide (hb.apart HOY.out.mem)
                have HDz_Y := hide (hb.apart' HOY.out.mem)
                have HDg_z := hide (hb.apart HOg.out.mem)
                have HDz_g := hide (hb.apart' HOg.out.mem)
                have HDVG_z := hide (hb.apart HOVG.out.mem)
                have HDz_VG := hide (hb.apart' HOVG.out.mem)
                have HNz := hide ((hb.old HK.out).new)
                replace HK := hide (HK.out.trans hk)
                replace HOA := hide (HOA.out.kept hk)
                replace HOB := hide (HOB.out.kept hk)
                replace HOw := hide (HOw.out.kept hk)
                replace HOVW := hide (HOVW.out.kept hk)
                replace HOx := hide (HOx.out.kept hk)
                replace HOX := hide (HOX.out.kept hk)
                replace HOy := hide (HOy.out.kept hk)
                replace HOY := hide (HOY.out.kept hk)
                replace HOg := hide (HOg.out.kept hk)
                replace HOVG := hide (HOVG.out.kept hk)
                have HOz := hide hb.toOwn
                clear hb hk
                have cA0 := cell_at HOA.out.mem 0 (by simp)
                have cA1 := cell_at HOA.out.mem 1 (by simp)
                simp only [Nat.zero_add, List.getElem_cons_zero, List.getElem_cons_succ] at cA0 cA1
                have lA := lt_of_cell cA0
                have cB0 := cell_at HOB.out.mem 0 (by simp)
                have cB1 := cell_at HOB.out.mem 1 (by simp)
                simp only [Nat.zero_add, List.getElem_cons_zero, List.getElem_cons_succ] at cB0 cB1
                have lB := lt_of_cell cB0
                have cVW0 := cell_at HOVW.out.mem 0 (by simp)
                have cVW1 := cell_at HOVW.out.mem 1 (by simp)
                simp only [Nat.zero_add, List.getElem_cons_zero, List.getElem_cons_succ] at cVW0 cVW1
                have lVW := lt_of_cell cVW0
                have cX0 := cell_at HOX.out.mem 0 (by simp)
                have cX1 := cell_at HOX.out.mem 1 (by simp)
                simp only [Nat.zero_add, List.getElem_cons_zero, List.getElem_cons_succ] at cX0 cX1
                have lX := lt_of_cell cX0
                have cY0 := cell_at HOY.out.mem 0 (by simp)
                have cY1 := cell_at HOY.out.mem 1 (by simp)
                simp only [Nat.zero_add, List.getElem_cons_zero, List.getElem_cons_succ] at cY0 cY1
                have lY := lt_of_cell cY0
                have cVG0 := cell_at HOVG.out.mem 0 (by simp)
                have cVG1 := cell_at HOVG.out.mem 1 (by simp)
                simp only [Nat.zero_add, List.getElem_cons_zero, List.getElem_cons_succ] at cVG0 cVG1
                have lVG := lt_of_cell cVG0)
             | (go_at_call 25
                refine (eqPosting_o pid (some ⟨b4, 0, none⟩) (some ⟨b6, 0, none⟩) P.length P.length P w18 (HOy.out.mem ((some ⟨b4, 0, none⟩), flat P) (by simp)) (HOz.out.mem ((some ⟨b6, 0, none⟩), flat P) (by simp)) HP.out).mono ?_
                rintro x w19 ⟨rfl, hk⟩
                clear cA0 cA1 lA cB0 cB1 lB cVW0 cVW1 lVW cX0 cX1 lX cY0 cY1 lY cVG0 cVG1 lVG
                replace HK := hide (HK.out.trans hk)
                replace HOA := hide (HOA.out.kept hk)
                replace HOB := hide (HOB.out.kept hk)
                replace HOw := hide (HOw.out.kept hk)
                replace HOVW := hide (HOVW.out.kept hk)
                replace HOx := hide (HOx.out.kept hk)
                replace HOX := hide (HOX.out.kept hk)
                replace HOy := hide (HOy.out.kept hk)
                replace HOY := hide (HOY.out.kept hk)
                replace HOg := hide (HOg.out.kept hk)
                replace HOVG := hide (HOVG.out.kept hk)
                replace HOz := hide (HOz.out.kept hk)
                clear hk
                have cA0 := cell_at HOA.out.mem 0 (by simp)
                have cA1 := cell_at HOA.out.mem 1 (by simp)
                simp only [Nat.zero_add, List.getElem_cons_zero, List.getElem_cons_succ] at cA0 cA1
                have lA := lt_of_cell cA0
                have cB0 := cell_at HOB.out.mem 0 (by simp)
                have cB1 := cell_at HOB.out.mem 1 (by simp)
                simp only [Nat.zero_add, List.getElem_cons_zero, List.getElem_cons_succ] at cB0 cB1
                have lB := lt_of_cell cB0
                have cVW0 := cell_at HOVW.out.mem 0 (by simp)
                have cVW1 := cell_at HOVW.out.mem 1 (by simp)
                simp only [Nat.zero_add, List.getElem_cons_zero, List.getElem_cons_succ] at cVW0 cVW1
                have lVW := lt_of_cell cVW0
                have cX0 := cell_at HOX.out.mem 0 (by simp)
                have cX1 := cell_at HOX.out.mem 1 (by simp)
                simp only [Nat.zero_add, List.getElem_cons_zero, List.getElem_cons_succ] at cX0 cX1
                have lX := lt_of_cell cX0
                have cY0 := cell_at HOY.out.mem 0 (by simp)
                have cY1 := cell_at HOY.out.mem 1 (by simp)
                simp only [Nat.zero_add, List.getElem_cons_zero, List.getElem_cons_succ] at cY0 cY1
                have lY := lt_of_cell cY0
                have cVG0 := cell_at HOVG.out.mem 0 (by simp)
                have cVG1 := cell_at HOVG.out.mem 1 (by simp)
                simp only [Nat.zero_add, List.getElem_cons_zero, List.getElem_cons_succ] at cVG0 cVG1
                have lVG := lt_of_cell cVG0))
        clear HOz HNz HDA_z HDz_A HDB_z HDz_B HDw_z HDz_w HDVW_z HDz_VW HDx_z HDz_x HDX_z HDz_X HDy_z HDz_y HDY_z HDz_Y HDg_z HDz_g HDVG_z HDz_VG
        clear cA0 cA1 lA cB0 cB1 lB cVW0 cVW1 lVW cX0 cX1 lX cY0 cY1 lY cVG0 cVG1 lVG
        have cA0 := cell_at HOA.out.mem 0 (by simp)
        have cA1 := cell_at HOA.out.mem 1 (by simp)
        simp only [Nat.zero_add, List.getElem_cons_zero, List.getElem_cons_succ] at cA0 cA1
        have lA := lt_of_cell cA0
        have cB0 := cell_at HOB.out.mem 0 (by simp)
        have cB1 := cell_at HOB.out.mem 1 (by simp)
        simp only [Nat.zero_add, List.getElem_cons_zero, List.getElem_cons_succ] at cB0 cB1
        have lB := lt_of_cell cB0
        have cVW0 := cell_at HOVW.out.mem 0 (by simp)
        have cVW1 := cell_at HOVW.out.mem 1 (by simp)
        simp only [Nat.zero_add, List.getElem_cons_zero, List.getElem_cons_succ] at cVW0 cVW1
        have lVW := lt_of_cell cVW0
        have cX0 := cell_at HOX.out.mem 0 (by simp)
        have cX1 := cell_at HOX.out.mem 1 (by simp)
        simp only [Nat.zero_add, List.getElem_cons_zero, List.getElem_cons_succ] at cX0 cX1
        have lX := lt_of_cell cX0
        have cY0 := cell_at HOY.out.mem 0 (by simp)
        have cY1 := cell_at HOY.out.mem 1 (by simp)
        simp only [Nat.zero_add, List.getElem_cons_zero, List.getElem_cons_succ] at cY0 cY1
        have lY := lt_of_cell cY0
        have cVG0 := cell_at HOVG.out.mem 0 (by simp)
        have cVG1 := cell_at HOVG.out.mem 1 (by simp)
        simp only [Nat.zero_add, List.getElem_cons_zero, List.getElem_cons_succ] at cVG0 cVG1
        have lVG := lt_of_cell cVG0
        go_wp2_with fail
        refine (markLedger_o id (some ⟨b3, 0, none⟩) L.length L 1 w19 HOx.out HL.out (by decide) (by decide)).mono ?_
        rintro x w20 ⟨rfl, ho, ht⟩
        clear cA0 cA1 lA cB0 cB1 lB cVW0 cVW1 lVW cX0 cX1 lX cY0 cY1 lY cVG0 cVG1 lVG
        replace HK := hide (ht.keeps HK.out HNx.out)
        replace HOA := hide (HOA.out.turn ht HDA_x.out)
        replace HOB := hide (HOB.out.turn ht HDB_x.out)
        replace HOw := hide (HOw.out.turn ht HDw_x.out)
        replace HOVW := hide (HOVW.out.turn ht HDVW_x.out)
        replace HOX := hide (HOX.out.turn ht HDX_x.out)
        replace HOy := hide (HOy.out.turn ht HDy_x.out)
        replace HOY := hide (HOY.out.turn ht HDY_x.out)
        replace HOg := hide (HOg.out.turn ht HDg_x.out)
        replace HOVG := hide (HOVG.out.turn ht HDVG_x.out)
        clear ht
        replace HOx := hide ho
        clear ho
        clear HOx HNx HDA_x HDx_A HDB_x HDx_B HDw_x HDx_w HDVW_x HDx_VW HDX_x HDx_X HDy_x HDx_y HDY_x HDx_Y HDg_x HDx_g HDVG_x HDx_VG
        have cA0 := cell_at HOA.out.mem 0 (by simp)
        have cA1 := cell_at HOA.out.mem 1 (by simp)
        simp only [Nat.zero_add, List.getElem_cons_zero, List.getElem_cons_succ] at cA0 cA1
        have lA := lt_of_cell cA0
        have cB0 := cell_at HOB.out.mem 0 (by simp)
        have cB1 := cell_at HOB.out.mem 1 (by simp)
        simp only [Nat.zero_add, List.getElem_cons_zero, List.getElem_cons_succ] at cB0 cB1
        have lB := lt_of_cell cB0
        have cVW0 := cell_at HOVW.out.mem 0 (by simp)
        have cVW1 := cell_at HOVW.out.mem 1 (by simp)
        simp only [Nat.zero_add, List.getElem_cons_zero, List.getElem_cons_succ] at cVW0 cVW1
        have lVW := lt_of_cell cVW0
        have cX0 := cell_at HOX.out.mem 0 (by simp)
        have cX1 := cell_at HOX.out.mem 1 (by simp)
        simp only [Nat.zero_add, List.getElem_cons_zero, List.getElem_cons_succ] at cX0 cX1
        have lX := lt_of_cell cX0
        have cY0 := cell_at HOY.out.mem 0 (by simp)
        have cY1 := cell_at HOY.out.mem 1 (by simp)
        simp only [Nat.zero_add, List.getElem_cons_zero, List.getElem_cons_succ] at cY0 cY1
        have lY := lt_of_cell cY0
        have cVG0 := cell_at HOVG.out.mem 0 (by simp)
        have cVG1 := cell_at HOVG.out.mem 1 (by simp)
        simp only [Nat.zero_add, List.getElem_cons_zero, List.getElem_cons_succ] at cVG0 cVG1
        have lVG := lt_of_cell cVG0
        go_wp2_with fail
        refine (markPosting_o pid (some ⟨b4, 0, none⟩) P.length P (1 + 3 * (L.length : Int)) w20 HOy.out HP.out (by omega) (by have := HL.out; omega)).mono ?_
        rintro x w21 ⟨rfl, ho, ht⟩
        clear cA0 cA1 lA cB0 cB1 lB cVW0 cVW1 lVW cX0 cX1 lX cY0 cY1 lY cVG0 cVG1 lVG
        replace HK := hide (ht.keeps HK.out HNy.out)
        replace HOA := hide (HOA.out.turn ht HDA_y.out)
        replace HOB := hide (HOB.out.turn ht HDB_y.out)
        replace HOw := hide (HOw.out.turn ht HDw_y.out)
        replace HOVW := hide (HOVW.out.turn ht HDVW_y.out)
        replace HOX := hide (HOX.out.turn ht HDX_y.out)
        replace HOY := hide (HOY.out.turn ht HDY_y.out)
        replace HOg := hide (HOg.out.turn ht HDg_y.out)
        replace HOVG := hide (HOVG.out.turn ht HDVG_y.out)
        clear ht
        replace HOy := hide ho
        clear ho
        clear HOy HNy HDA_y HDy_A HDB_y HDy_B HDw_y HDy_w HDVW_y HDy_VW HDX_y HDy_X HDY_y HDy_Y HDg_y HDy_g HDVG_y HDy_VG
        clear HOX HNX HDA_X HDX_A HDB_X HDX_B HDw_X HDX_w HDVW_X HDX_VW HDY_X HDX_Y HDg_X HDX_g HDVG_X HDX_VG
        clear HOY HNY HDA_Y HDY_A HDB_Y HDY_B HDw_Y HDY_w HDVW_Y HDY_VW HDg_Y HDY_g HDVG_Y HDY_VG
        have hkn : ¬ (1 + 3 * (L.length : Int) + 3 * (P.length : Int) < 0) := by omega
        have cA0 := cell_at HOA.out.mem 0 (by simp)
        have cA1 := cell_at HOA.out.mem 1 (by simp)
        simp only [Nat.zero_add, List.getElem_cons_zero, List.getElem_cons_succ] at cA0 cA1
        have lA := lt_of_cell cA0
        have cB0 := cell_at HOB.out.mem 0 (by simp)
        have cB1 := cell_at HOB.out.mem 1 (by simp)
        simp only [Nat.zero_add, List.getElem_cons_zero, List.getElem_cons_succ] at cB0 cB1
        have lB := lt_of_cell cB0
        have cVW0 := cell_at HOVW.out.mem 0 (by simp)
        have cVW1 := cell_at HOVW.out.mem 1 (by simp)
        simp only [Nat.zero_add, List.getElem_cons_zero, List.getElem_cons_succ] at cVW0 cVW1
        have lVW := lt_of_cell cVW0
        have cVG0 := cell_at HOVG.out.mem 0 (by simp)
        have cVG1 := cell_at HOVG.out.mem 1 (by simp)
        simp only [Nat.zero_add, List.getElem_cons_zero, List.getElem_cons_succ] at cVG0 cVG1
        have lVG := lt_of_cell cVG0
        go_wp2_with fail
        clear hkn
        refine (eqLedger_o rid ag aw cg cw R w21 (HOg.out.mem (ag, flat R) (by simp)) (HOw.out.mem (aw, flat R) (by simp)) HR.out).mono ?_
        rintro x w22 ⟨rfl, hk⟩
        clear cA0 cA1 lA cB0 cB1 lB cVW0 cVW1 lVW cVG0 cVG1 lVG
        replace HK := hide (HK.out.trans hk)
        replace HOA := hide (HOA.out.kept hk)
        replace HOB := hide (HOB.out.kept hk)
        replace HOw := hide (HOw.out.kept hk)
        replace HOVW := hide (HOVW.out.kept hk)
        replace HOg := hide (HOg.out.kept hk)
        replace HOVG := hide (HOVG.out.kept hk)
        clear hk
        have cA0 := cell_at HOA.out.mem 0 (by simp)
        have cA1 := cell_at HOA.out.mem 1 (by simp)
        simp only [Nat.zero_add, List.getElem_cons_zero, List.getElem_cons_succ] at cA0 cA1
        have lA := lt_of_cell cA0
        have cB0 := cell_at HOB.out.mem 0 (by simp)
        have cB1 := cell_at HOB.out.mem 1 (by simp)
        simp only [Nat.zero_add, List.getElem_cons_zero, List.getElem_cons_succ] at cB0 cB1
        have lB := lt_of_cell cB0
        have cVW0 := cell_at HOVW.out.mem 0 (by simp)
        have cVW1 := cell_at HOVW.out.mem 1 (by simp)
        simp only [Nat.zero_add, List.getElem_cons_zero, List.getElem_cons_succ] at cVW0 cVW1
        have lVW := lt_of_cell cVW0
        have cVG0 := cell_at HOVG.out.mem 0 (by simp)
        have cVG1 := cell_at HOVG.out.mem 1 (by simp)
        simp only [Nat.zero_add, List.getElem_cons_zero, List.getElem_cons_succ] at cVG0 cVG1
        have lVG := lt_of_cell cVG0
        go_wp2_with fail
        refine (markLedger_o rid ag cg R 1 w22 HOg.out HR.out (by decide) (by decide)).mono ?_
        rintro x w23 ⟨rfl, ho, ht⟩
        clear cA0 cA1 lA cB0 cB1 lB cVW0 cVW1 lVW cVG0 cVG1 lVG
        replace HK := hide (ht.keeps HK.out HNg.out)
        replace HOA := hide (HOA.out.turn ht HDA_g.out)
        replace HOB := hide (HOB.out.turn ht HDB_g.out)
        replace HOw := hide (HOw.out.turn ht HDw_g.out)
        replace HOVW := hide (HOVW.out.turn ht HDVW_g.out)
        replace HOVG := hide (HOVG.out.turn ht HDVG_g.out)
        clear ht
        replace HOg := hide ho
        clear ho
        have cA0 := cell_at HOA.out.mem 0 (by simp)
        have cA1 := cell_at HOA.out.mem 1 (by simp)
        simp only [Nat.zero_add, List.getElem_cons_zero, List.getElem_cons_succ] at cA0 cA1
        have lA := lt_of_cell cA0
        have cB0 := cell_at HOB.out.mem 0 (by simp)
        have cB1 := cell_at HOB.out.mem 1 (by simp)
        simp only [Nat.zero_add, List.getElem_cons_zero, List.getElem_cons_succ] at cB0 cB1
        have lB := lt_of_cell cB0
        have cVW0 := cell_at HOVW.out.mem 0 (by simp)
        have cVW1 := cell_at HOVW.out.mem 1 (by simp)
        simp only [Nat.zero_add, List.getElem_cons_zero, List.getElem_cons_succ] at cVW0 cVW1
        have lVW := lt_of_cell cVW0
        have cVG0 := cell_at HOVG.out.mem 0 (by simp)
        have cVG1 := cell_at HOVG.out.mem 1 (by simp)
        simp only [Nat.zero_add, List.getElem_cons_zero, List.getElem_cons_succ] at cVG0 cVG1
        have lVG := lt_of_cell cVG0
        go_wp2_with fail
        refine (heldLedger_o rid ag cg R.length 1 w23 (HOg.out.mem (ag, flat (mkL 1 R.length)) (by simp)) HR.out (by decide) (by decide)).mono ?_
        rintro x w24 ⟨rfl, hk⟩
        clear cA0 cA1 lA cB0 cB1 lB cVW0 cVW1 lVW cVG0 cVG1 lVG
        replace HK := hide (HK.out.trans hk)
        replace HOA := hide (HOA.out.kept hk)
        replace HOB := hide (HOB.out.kept hk)
        replace HOw := hide (HOw.out.kept hk)
        replace HOVW := hide (HOVW.out.kept hk)
        replace HOg := hide (HOg.out.kept hk)
        replace HOVG := hide (HOVG.out.kept hk)
        clear hk
        have hrn : ¬ (1 + 3 * (R.length : Int) < 0) := by omega
        have cA0 := cell_at HOA.out.mem 0 (by simp)
        have cA1 := cell_at HOA.out.mem 1 (by simp)
        simp only [Nat.zero_add, List.getElem_cons_zero, List.getElem_cons_succ] at cA0 cA1
        have lA := lt_of_cell cA0
        have cB0 := cell_at HOB.out.mem 0 (by simp)
        have cB1 := cell_at HOB.out.mem 1 (by simp)
        simp only [Nat.zero_add, List.getElem_cons_zero, List.getElem_cons_succ] at cB0 cB1
        have lB := lt_of_cell cB0
        have cVW0 := cell_at HOVW.out.mem 0 (by simp)
        have cVW1 := cell_at HOVW.out.mem 1 (by simp)
        simp only [Nat.zero_add, List.getElem_cons_zero, List.getElem_cons_succ] at cVW0 cVW1
        have lVW := lt_of_cell cVW0
        have cVG0 := cell_at HOVG.out.mem 0 (by simp)
        have cVG1 := cell_at HOVG.out.mem 1 (by simp)
        simp only [Nat.zero_add, List.getElem_cons_zero, List.getElem_cons_succ] at cVG0 cVG1
        have lVG := lt_of_cell cVG0
        go_wp2_with fail
        have HLA := hide HOA.out.mem.lt
        have HLB := hide HOB.out.mem.lt
        have HLw := hide HOw.out.mem.lt
        have HLVW := hide HOVW.out.mem.lt
        have HLg := hide HOg.out.mem.lt
        have HLVG := hide HOVG.out.mem.lt
        have HKR := hide (Keeps.refl w24)
        have HKW := hide HK.out
        clear cA0 cA1 lA cB0 cB1 lB cVW0 cVW1 lVW cVG0 cVG1 lVG
        have cA0 := cell_at HOA.out.mem 0 (by simp)
        have cA1 := cell_at HOA.out.mem 1 (by simp)
        simp only [Nat.zero_add, List.getElem_cons_zero, List.getElem_cons_succ] at cA0 cA1
        have lA := lt_of_cell cA0
        have cB0 := cell_at HOB.out.mem 0 (by simp)
        have cB1 := cell_at HOB.out.mem 1 (by simp)
        simp only [Nat.zero_add, List.getElem_cons_zero, List.getElem_cons_succ] at cB0 cB1
        have lB := lt_of_cell cB0
        have qA := lA
        have qB := lB
        go_region_held3 (fun w' => w'.cell? ⟨w.heap.size, 0, none⟩ = some (.int .i64 id) ∧ w'.cell? ⟨w.heap.size, 1, none⟩ = some (.slice a L.length cap) ∧ w'.cell? ⟨w.heap.size + 1, 0, none⟩ = some (.int .i64 pid) ∧ w'.cell? ⟨w.heap.size + 1, 1, none⟩ = some (.slice a' P.length cap')) (first | go_keep | (refine ⟨?_, ?_, ?_, ?_⟩ <;> (rw [World.cell?_setCell_other _ _ _ _ (by simp <;> omega), World.cell?_setCell_other _ _ _ _ (by simp <;> omega)]; assumption)))
          (first
             | (go_at_call 22
                first
                  | (refine (unhide HTLedger _ (HK.out.trans ((Keeps.refl w24).drew))).mono ?_
                     rintro x w25 ⟨b7, rfl, hb, hk⟩
                     replace hb := hb.old ((Keeps.refl w24).drew)
                     replace hk := ((Keeps.refl w24).drew).trans hk)
                  | (refine (unhide HTLedger _ (HK.out.trans ((Keeps.alloc (Keeps.refl w24) (.cells #[.int .i64 0, .slice none 0 0] 25)).drew))).mono ?_
                     rintro x w25 ⟨b7, rfl, hb, hk⟩
                     have hr0 := row_zero w24 (.int .i64 0) (.slice none 0 0) 25
                     have HVB := hide (fun b hb1 => Nat.lt_of_lt_of_le hr0.lt (hb.new b hb1))
                     have HRV := hide (Keeps.rowV hk hr0)
                     clear hr0
                     have HVN := hide HKR.out.size
                     have qVN := HKR.out.size
                     replace hb := hb.old ((Keeps.alloc (Keeps.refl w24) (.cells #[.int .i64 0, .slice none 0 0] 25)).drew)
                     replace hk := ((Keeps.alloc (Keeps.refl w24) (.cells #[.int .i64 0, .slice none 0 0] 25)).drew).trans hk)
                replace HKR := hide (HKR.out.trans hk)
                clear cA0 cA1 lA cB0 cB1 lB
                have HDA_u := hide (hb.apart HOA.out.mem)
                have HDu_A := hide (hb.apart' HOA.out.mem)
                have HDB_u := hide (hb.apart HOB.out.mem)
                have HDu_B := hide (hb.apart' HOB.out.mem)
                have HDw_u := hide (hb.apart HOw.out.mem)
                have HDu_w := hide (hb.apart' HOw.out.mem)
                have HDVW_u := hide (hb.apart HOVW.out.mem)
                have HDu_VW := hide (hb.apart' HOVW.out.mem)
                have HDg_u := hide (hb.apart HOg.out.mem)
                have HDu_g := hide (hb.apart' HOg.out.mem)
                have HDVG_u := hide (hb.apart HOVG.out.mem)
                have HDu_VG := hide (hb.apart' HOVG.out.mem)
                have HNu := hide ((hb.old HK.out).new)
                replace HK := hide (HK.out.trans hk)
                replace HOA := hide (HOA.out.kept hk)
                replace HOB := hide (HOB.out.kept hk)
                replace HOw := hide (HOw.out.kept hk)
                replace HOVW := hide (HOVW.out.kept hk)
                replace HOg := hide (HOg.out.kept hk)
                replace HOVG := hide (HOVG.out.kept hk)
                have HOu := hide hb.toOwn
                clear hb hk
                have cA0 := cell_at HOA.out.mem 0 (by simp)
                have cA1 := cell_at HOA.out.mem 1 (by simp)
                simp only [Nat.zero_add, List.getElem_cons_zero, List.getElem_cons_succ] at cA0 cA1
                have lA := lt_of_cell cA0
                have cB0 := cell_at HOB.out.mem 0 (by simp)
                have cB1 := cell_at HOB.out.mem 1 (by simp)
                simp only [Nat.zero_add, List.getElem_cons_zero, List.getElem_cons_succ] at cB0 cB1
                have lB := lt_of_cell cB0)
             | (go_at_call 23
                first
                  | (refine (unhide HTPosting _ (HK.out.trans ((Keeps.refl w25)))).mono ?_
                     rintro x w26 ⟨b8, rfl, hb, hk⟩
                     have hr0 := HRV.out
                     have HVB := hide (fun b hb1 => Nat.lt_of_lt_of_le hr0.lt (hb.new b hb1))
                     replace HRV := hide (Keeps.rowV hk hr0)
                     clear hr0
                     replace hb := hb.old ((Keeps.refl w25))
                     replace hk := ((Keeps.refl w25)).trans hk)
                  | (refine (unhide HTPosting _ (HK.out.trans ((Keeps.refl w25)))).mono ?_
                     rintro x w26 ⟨b8, rfl, hb, hk⟩
                     replace hb := hb.old ((Keeps.refl w25))
                     replace hk := ((Keeps.refl w25)).trans hk)
                  | (refine (unhide HTPosting _ (HK.out.trans ((Keeps.alloc (Keeps.refl w25) (.cells #[.int .i64 0, .slice none 0 0] 25))))).mono ?_
                     rintro x w26 ⟨b8, rfl, hb, hk⟩
                     have hr0 := row_zero w25 (.int .i64 0) (.slice none 0 0) 25
                     have HVB := hide (fun b hb1 => Nat.lt_of_lt_of_le hr0.lt (hb.new b hb1))
                     have HRV := hide (Keeps.rowV hk hr0)
                     clear hr0
                     have HVN := hide HKR.out.size
                     have qVN := HKR.out.size
                     replace hb := hb.old ((Keeps.alloc (Keeps.refl w25) (.cells #[.int .i64 0, .slice none 0 0] 25)))
                     replace hk := ((Keeps.alloc (Keeps.refl w25) (.cells #[.int .i64 0, .slice none 0 0] 25))).trans hk)
                replace HKR := hide (HKR.out.trans hk)
                clear cA0 cA1 lA cB0 cB1 lB
                have HDA_v := hide (hb.apart HOA.out.mem)
                have HDv_A := hide (hb.apart' HOA.out.mem)
                have HDB_v := hide (hb.apart HOB.out.mem)
                have HDv_B := hide (hb.apart' HOB.out.mem)
                have HDw_v := hide (hb.apart HOw.out.mem)
                have HDv_w := hide (hb.apart' HOw.out.mem)
                have HDVW_v := hide (hb.apart HOVW.out.mem)
                have HDv_VW := hide (hb.apart' HOVW.out.mem)
                have HDg_v := hide (hb.apart HOg.out.mem)
                have HDv_g := hide (hb.apart' HOg.out.mem)
                have HDVG_v := hide (hb.apart HOVG.out.mem)
                have HDv_VG := hide (hb.apart' HOVG.out.mem)
                have HDu_v := hide (hb.apart HOu.out.mem)
                have HDv_u := hide (hb.apart' HOu.out.mem)
                have HNv := hide ((hb.old HK.out).new)
                replace HK := hide (HK.out.trans hk)
                replace HOA := hide (HOA.out.kept hk)
                replace HOB := hide (HOB.out.kept hk)
                replace HOw := hide (HOw.out.kept hk)
                replace HOVW := hide (HOVW.out.kept hk)
                replace HOg := hide (HOg.out.kept hk)
                replace HOVG := hide (HOVG.out.kept hk)
                replace HOu := hide (HOu.out.kept hk)
                have HOv := hide hb.toOwn
                clear hb hk
                have cA0 := cell_at HOA.out.mem 0 (by simp)
                have cA1 := cell_at HOA.out.mem 1 (by simp)
                simp only [Nat.zero_add, List.getElem_cons_zero, List.getElem_cons_succ] at cA0 cA1
                have lA := lt_of_cell cA0
                have cB0 := cell_at HOB.out.mem 0 (by simp)
                have cB1 := cell_at HOB.out.mem 1 (by simp)
                simp only [Nat.zero_add, List.getElem_cons_zero, List.getElem_cons_succ] at cB0 cB1
                have lB := lt_of_cell cB0)
             | (go_at_call 9
                first
                  | (refine (unhide HIP _ _ _ ((HOu.out.mem ((some ⟨b7, 0, none⟩), flat L) (by simp)).kept ((Keeps.refl w26))) ((HOv.out.mem ((some ⟨b8, 0, none⟩), flat P) (by simp)).kept ((Keeps.refl w26)))).mono ?_
                     rintro x w27 ⟨⟨ah, ch, rfl, hnh, hb⟩, hk⟩
                     clear hnh
                     have hr0 := HRV.out
                     have HVB := hide (fun b hb1 => Nat.lt_of_lt_of_le hr0.lt (hb.new b hb1))
                     replace HRV := hide (Keeps.rowV hk hr0)
                     clear hr0
                     have zV0 := HRV.out.cell (i := 0) (by decide)
                     have zV1 := HRV.out.cell (i := 1) (by decide)
                     have fV0 := HRV.out.frozen 0
                     have fV1 := HRV.out.frozen 1
                     have lV := HRV.out.lt
                     simp at zV0 zV1
                     replace hb := hb.old ((Keeps.refl w26))
                     replace hk := ((Keeps.refl w26)).trans hk)
                  | (refine (unhide HIP _ _ _ ((HOu.out.mem ((some ⟨b7, 0, none⟩), flat L) (by simp)).kept ((Keeps.refl w26))) ((HOv.out.mem ((some ⟨b8, 0, none⟩), flat P) (by simp)).kept ((Keeps.refl w26)))).mono ?_
                     rintro x w27 ⟨⟨ah, ch, rfl, hnh, hb⟩, hk⟩
                     clear hnh
                     replace hb := hb.old ((Keeps.refl w26))
                     replace hk := ((Keeps.refl w26)).trans hk)
                  | (refine (unhide HIP _ _ _ ((HOu.out.mem ((some ⟨b7, 0, none⟩), flat L) (by simp)).kept ((Keeps.alloc (Keeps.refl w26) (.cells #[.int .i64 0, .slice none 0 0] 25)))) ((HOv.out.mem ((some ⟨b8, 0, none⟩), flat P) (by simp)).kept ((Keeps.alloc (Keeps.refl w26) (.cells #[.int .i64 0, .slice none 0 0] 25))))).mono ?_
                     rintro x w27 ⟨⟨ah, ch, rfl, hnh, hb⟩, hk⟩
                     clear hnh
                     have hr0 := row_zero w26 (.int .i64 0) (.slice none 0 0) 25
                     have HVB := hide (fun b hb1 => Nat.lt_of_lt_of_le hr0.lt (hb.new b hb1))
                     have HRV := hide (Keeps.rowV hk hr0)
                     clear hr0
                     have HVN := hide HKR.out.size
                     have qVN := HKR.out.size
                     have zV0 := HRV.out.cell (i := 0) (by decide)
                     have zV1 := HRV.out.cell (i := 1) (by decide)
                     have fV0 := HRV.out.frozen 0
                     have fV1 := HRV.out.frozen 1
                     have lV := HRV.out.lt
                     simp at zV0 zV1
                     replace hb := hb.old ((Keeps.alloc (Keeps.refl w26) (.cells #[.int .i64 0, .slice none 0 0] 25)))
                     replace hk := ((Keeps.alloc (Keeps.refl w26) (.cells #[.int .i64 0, .slice none 0 0] 25))).trans hk)
                replace HKR := hide (HKR.out.trans hk)
                clear cA0 cA1 lA cB0 cB1 lB
                have HDA_h := hide (hb.apart HOA.out.mem)
                have HDh_A := hide (hb.apart' HOA.out.mem)
                have HDB_h := hide (hb.apart HOB.out.mem)
                have HDh_B := hide (hb.apart' HOB.out.mem)
                have HDw_h := hide (hb.apart HOw.out.mem)
                have HDh_w := hide (hb.apart' HOw.out.mem)
                have HDVW_h := hide (hb.apart HOVW.out.mem)
                have HDh_VW := hide (hb.apart' HOVW.out.mem)
                have HDg_h := hide (hb.apart HOg.out.mem)
                have HDh_g := hide (hb.apart' HOg.out.mem)
                have HDVG_h := hide (hb.apart HOVG.out.mem)
                have HDh_VG := hide (hb.apart' HOVG.out.mem)
                have HDu_h := hide (hb.apart HOu.out.mem)
                have HDh_u := hide (hb.apart' HOu.out.mem)
                have HDv_h := hide (hb.apart HOv.out.mem)
                have HDh_v := hide (hb.apart' HOv.out.mem)
                have HNh := hide ((hb.old HK.out).new)
                replace HK := hide (HK.out.trans hk)
                replace HOA := hide (HOA.out.kept hk)
                replace HOB := hide (HOB.out.kept hk)
                replace HOw := hide (HOw.out.kept hk)
                replace HOVW := hide (HOVW.out.kept hk)
                replace HOg := hide (HOg.out.kept hk)
                replace HOVG := hide (HOVG.out.kept hk)
                replace HOu := hide (HOu.out.kept hk)
                replace HOv := hide (HOv.out.kept hk)
                have HOh := hide hb.toOwn
                clear hb hk
                have cA0 := cell_at HOA.out.mem 0 (by simp)
                have cA1 := cell_at HOA.out.mem 1 (by simp)
                simp only [Nat.zero_add, List.getElem_cons_zero, List.getElem_cons_succ] at cA0 cA1
                have lA := lt_of_cell cA0
                have cB0 := cell_at HOB.out.mem 0 (by simp)
                have cB1 := cell_at HOB.out.mem 1 (by simp)
                simp only [Nat.zero_add, List.getElem_cons_zero, List.getElem_cons_succ] at cB0 cB1
                have lB := lt_of_cell cB0))
        all_goals clear HOu HNu HDA_u HDu_A HDB_u HDu_B HDw_u HDu_w HDVW_u HDu_VW HDg_u HDu_g HDVG_u HDu_VG HDv_u HDu_v HDh_u HDu_h
        all_goals clear HOv HNv HDA_v HDv_A HDB_v HDv_B HDw_v HDv_w HDVW_v HDv_VW HDg_v HDv_g HDVG_v HDv_VG HDh_v HDv_h
        all_goals clear cA0 cA1 lA cB0 cB1 lB
        all_goals
          first
            | (have hrv : w27.rowIs w24.heap.size _ _ _ := HRV.out
               have hVN := HVN.out
               have hVB := HVB.out
               clear HRV HVN HVB zV0 zV1 fV0 fV1 lV qVN
               obtain ⟨hOV, hT⟩ := var_turn hrv (.int .i64 rid) (.slice ah R.length ch)
               generalize (w27.setCell ⟨w24.heap.size, 0, none⟩ (.int .i64 rid)).setCell ⟨w24.heap.size, 1, none⟩ (.slice ah R.length ch) = w28 at *
               have hz0 : w24.heap.size = w24.heap.size := rfl
               generalize hz1 : w24.heap.size = VBVH at hrv hOV hT hVN hVB hz0 ⊢
               obtain ⟨hd1, hd2⟩ := apart_var (S := [(some ⟨w.heap.size, 0, none⟩, [.int .i64 id, .slice a L.length cap])]) (VB := VBVH) (cs := [.int .i64 rid, .slice ah R.length ch]) (by simp) (fun b hb1 e => by have := HLA.out b hb1; omega)
               have HDA_VH := hide hd1
               have HDVH_A := hide hd2
               replace HOA := hide (HOA.out.turn hT (fun b hb1 hx => hd1 b hb1 (by rw [fp_one, fpS_some (by simp)]; exact hx)))
               clear hd1 hd2
               obtain ⟨hd1, hd2⟩ := apart_var (S := [(some ⟨w.heap.size + 1, 0, none⟩, [.int .i64 pid, .slice a' P.length cap'])]) (VB := VBVH) (cs := [.int .i64 rid, .slice ah R.length ch]) (by simp) (fun b hb1 e => by have := HLB.out b hb1; omega)
               have HDB_VH := hide hd1
               have HDVH_B := hide hd2
               replace HOB := hide (HOB.out.turn hT (fun b hb1 hx => hd1 b hb1 (by rw [fp_one, fpS_some (by simp)]; exact hx)))
               clear hd1 hd2
               obtain ⟨hd1, hd2⟩ := apart_var (S := [(aw, flat R)]) (VB := VBVH) (cs := [.int .i64 rid, .slice ah R.length ch]) (by simp) (fun b hb1 e => by have := HLw.out b hb1; omega)
               have HDw_VH := hide hd1
               have HDVH_w := hide hd2
               replace HOw := hide (HOw.out.turn hT (fun b hb1 hx => hd1 b hb1 (by rw [fp_one, fpS_some (by simp)]; exact hx)))
               clear hd1 hd2
               obtain ⟨hd1, hd2⟩ := apart_var (S := [(some ⟨VBVW, 0, none⟩, [.int .i64 rid, .slice aw R.length cw])]) (VB := VBVH) (cs := [.int .i64 rid, .slice ah R.length ch]) (by simp) (fun b hb1 e => by have := HLVW.out b hb1; omega)
               have HDVW_VH := hide hd1
               have HDVH_VW := hide hd2
               replace HOVW := hide (HOVW.out.turn hT (fun b hb1 hx => hd1 b hb1 (by rw [fp_one, fpS_some (by simp)]; exact hx)))
               clear hd1 hd2
               obtain ⟨hd1, hd2⟩ := apart_var (S := [(ag, flat (mkL 1 R.length))]) (VB := VBVH) (cs := [.int .i64 rid, .slice ah R.length ch]) (by simp) (fun b hb1 e => by have := HLg.out b hb1; omega)
               have HDg_VH := hide hd1
               have HDVH_g := hide hd2
               replace HOg := hide (HOg.out.turn hT (fun b hb1 hx => hd1 b hb1 (by rw [fp_one, fpS_some (by simp)]; exact hx)))
               clear hd1 hd2
               obtain ⟨hd1, hd2⟩ := apart_var (S := [(some ⟨w13.heap.size, 0, none⟩, [.int .i64 rid, .slice ag R.length cg])]) (VB := VBVH) (cs := [.int .i64 rid, .slice ah R.length ch]) (by simp) (fun b hb1 e => by have := HLVG.out b hb1; omega)
               have HDVG_VH := hide hd1
               have HDVH_VG := hide hd2
               replace HOVG := hide (HOVG.out.turn hT (fun b hb1 hx => hd1 b hb1 (by rw [fp_one, fpS_some (by simp)]; exact hx)))
               clear hd1 hd2
               obtain ⟨hd1, hd2⟩ := apart_var (S := [(ah, flat R)]) (VB := VBVH) (cs := [.int .i64 rid, .slice ah R.length ch]) (by simp) (fun b hb1 e => by have := hVB b hb1; omega)
               have HDh_VH := hide hd1
               have HDVH_h := hide hd2
               replace HOh := hide (HOh.out.turn hT (fun b hb1 hx => hd1 b hb1 (by rw [fp_one, fpS_some (by simp)]; exact hx)))
               clear hd1 hd2
               have HNVH : Hid (∀ b ∈ fp [((some ⟨VBVH, 0, none⟩ : Option Addr), [.int .i64 rid, .slice ah R.length ch])], w.heap.size ≤ b) := fun b hb1 => by have h1 : b = VBVH := (by simpa [fp, fpS] using hb1); have := HKW.out.size; omega
               replace HK := hide (hT.keeps HK.out (fun b hb1 => HNVH.out b (by rw [fp_one, fpS_some (by simp)]; exact hb1)))
               have HOVH := hide hOV
               clear hOV hT hrv hVN hVB)
            | (have hrv : w27.rowIs w25.heap.size _ _ _ := HRV.out
               have hVN := HVN.out
               have hVB := HVB.out
               clear HRV HVN HVB zV0 zV1 fV0 fV1 lV qVN
               obtain ⟨hOV, hT⟩ := var_turn hrv (.int .i64 rid) (.slice ah R.length ch)
               generalize (w27.setCell ⟨w25.heap.size, 0, none⟩ (.int .i64 rid)).setCell ⟨w25.heap.size, 1, none⟩ (.slice ah R.length ch) = w28 at *
               generalize w25.heap.size = VBVH at *
               obtain ⟨hd1, hd2⟩ := apart_var (S := [(some ⟨w.heap.size, 0, none⟩, [.int .i64 id, .slice a L.length cap])]) (VB := VBVH) (cs := [.int .i64 rid, .slice ah R.length ch]) (by simp) (fun b hb1 e => by have := HLA.out b hb1; omega)
               have HDA_VH := hide hd1
               have HDVH_A := hide hd2
               replace HOA := hide (HOA.out.turn hT (fun b hb1 hx => hd1 b hb1 (by rw [fp_one, fpS_some (by simp)]; exact hx)))
               clear hd1 hd2
               obtain ⟨hd1, hd2⟩ := apart_var (S := [(some ⟨w.heap.size + 1, 0, none⟩, [.int .i64 pid, .slice a' P.length cap'])]) (VB := VBVH) (cs := [.int .i64 rid, .slice ah R.length ch]) (by simp) (fun b hb1 e => by have := HLB.out b hb1; omega)
               have HDB_VH := hide hd1
               have HDVH_B := hide hd2
               replace HOB := hide (HOB.out.turn hT (fun b hb1 hx => hd1 b hb1 (by rw [fp_one, fpS_some (by simp)]; exact hx)))
               clear hd1 hd2
               obtain ⟨hd1, hd2⟩ := apart_var (S := [(aw, flat R)]) (VB := VBVH) (cs := [.int .i64 rid, .slice ah R.length ch]) (by simp) (fun b hb1 e => by have := HLw.out b hb1; omega)
               have HDw_VH := hide hd1
               have HDVH_w := hide hd2
               replace HOw := hide (HOw.out.turn hT (fun b hb1 hx => hd1 b hb1 (by rw [fp_one, fpS_some (by simp)]; exact hx)))
               clear hd1 hd2
               obtain ⟨hd1, hd2⟩ := apart_var (S := [(some ⟨VBVW, 0, none⟩, [.int .i64 rid, .slice aw R.length cw])]) (VB := VBVH) (cs := [.int .i64 rid, .slice ah R.length ch]) (by simp) (fun b hb1 e => by have := HLVW.out b hb1; omega)
               have HDVW_VH := hide hd1
               have HDVH_VW := hide hd2
               replace HOVW := hide (HOVW.out.turn hT (fun b hb1 hx => hd1 b hb1 (by rw [fp_one, fpS_some (by simp)]; exact hx)))
               clear hd1 hd2
               obtain ⟨hd1, hd2⟩ := apart_var (S := [(ag, flat (mkL 1 R.length))]) (VB := VBVH) (cs := [.int .i64 rid, .slice ah R.length ch]) (by simp) (fun b hb1 e => by have := HLg.out b hb1; omega)
               have HDg_VH := hide hd1
               have HDVH_g := hide hd2
               replace HOg := hide (HOg.out.turn hT (fun b hb1 hx => hd1 b hb1 (by rw [fp_one, fpS_some (by simp)]; exact hx)))
               clear hd1 hd2
               obtain ⟨hd1, hd2⟩ := apart_var (S := [(some ⟨w13.heap.size, 0, none⟩, [.int .i64 rid, .slice ag R.length cg])]) (VB := VBVH) (cs := [.int .i64 rid, .slice ah R.length ch]) (by simp) (fun b hb1 e => by have := HLVG.out b hb1; omega)
               have HDVG_VH := hide hd1
               have HDVH_VG := hide hd2
               replace HOVG := hide (HOVG.out.turn hT (fun b hb1 hx => hd1 b hb1 (by rw [fp_one, fpS_some (by simp)]; exact hx)))
               clear hd1 hd2
               obtain ⟨hd1, hd2⟩ := apart_var (S := [(ah, flat R)]) (VB := VBVH) (cs := [.int .i64 rid, .slice ah R.length ch]) (by simp) (fun b hb1 e => by have := hVB b hb1; omega)
               have HDh_VH := hide hd1
               have HDVH_h := hide hd2
               replace HOh := hide (HOh.out.turn hT (fun b hb1 hx => hd1 b hb1 (by rw [fp_one, fpS_some (by simp)]; exact hx)))
               clear hd1 hd2
               have HNVH : Hid (∀ b ∈ fp [((some ⟨VBVH, 0, none⟩ : Option Addr), [.int .i64 rid, .slice ah R.length ch])], w.heap.size ≤ b) := fun b hb1 => by have h1 : b = VBVH := (by simpa [fp, fpS] using hb1); have := HKW.out.size; omega
               replace HK := hide (hT.keeps HK.out (fun b hb1 => HNVH.out b (by rw [fp_one, fpS_some (by simp)]; exact hb1)))
               have HOVH := hide hOV
               clear hOV hT hrv hVN hVB)
            | (have hrv : w27.rowIs w26.heap.size _ _ _ := HRV.out
               have hVN := HVN.out
               have hVB := HVB.out
               clear HRV HVN HVB zV0 zV1 fV0 fV1 lV qVN
               obtain ⟨hOV, hT⟩ := var_turn hrv (.int .i64 rid) (.slice ah R.length ch)
               generalize (w27.setCell ⟨w26.heap.size, 0, none⟩ (.int .i64 rid)).setCell ⟨w26.heap.size, 1, none⟩ (.slice ah R.length ch) = w28 at *
               generalize w26.heap.size = VBVH at *
               obtain ⟨hd1, hd2⟩ := apart_var (S := [(some ⟨w.heap.size, 0, none⟩, [.int .i64 id, .slice a L.length cap])]) (VB := VBVH) (cs := [.int .i64 rid, .slice ah R.length ch]) (by simp) (fun b hb1 e => by have := HLA.out b hb1; omega)
               have HDA_VH := hide hd1
               have HDVH_A := hide hd2
               replace HOA := hide (HOA.out.turn hT (fun b hb1 hx => hd1 b hb1 (by rw [fp_one, fpS_some (by simp)]; exact hx)))
               clear hd1 hd2
               obtain ⟨hd1, hd2⟩ := apart_var (S := [(some ⟨w.heap.size + 1, 0, none⟩, [.int .i64 pid, .slice a' P.length cap'])]) (VB := VBVH) (cs := [.int .i64 rid, .slice ah R.length ch]) (by simp) (fun b hb1 e => by have := HLB.out b hb1; omega)
               have HDB_VH := hide hd1
               have HDVH_B := hide hd2
               replace HOB := hide (HOB.out.turn hT (fun b hb1 hx => hd1 b hb1 (by rw [fp_one, fpS_some (by simp)]; exact hx)))
               clear hd1 hd2
               obtain ⟨hd1, hd2⟩ := apart_var (S := [(aw, flat R)]) (VB := VBVH) (cs := [.int .i64 rid, .slice ah R.length ch]) (by simp) (fun b hb1 e => by have := HLw.out b hb1; omega)
               have HDw_VH := hide hd1
               have HDVH_w := hide hd2
               replace HOw := hide (HOw.out.turn hT (fun b hb1 hx => hd1 b hb1 (by rw [fp_one, fpS_some (by simp)]; exact hx)))
               clear hd1 hd2
               obtain ⟨hd1, hd2⟩ := apart_var (S := [(some ⟨VBVW, 0, none⟩, [.int .i64 rid, .slice aw R.length cw])]) (VB := VBVH) (cs := [.int .i64 rid, .slice ah R.length ch]) (by simp) (fun b hb1 e => by have := HLVW.out b hb1; omega)
               have HDVW_VH := hide hd1
               have HDVH_VW := hide hd2
               replace HOVW := hide (HOVW.out.turn hT (fun b hb1 hx => hd1 b hb1 (by rw [fp_one, fpS_some (by simp)]; exact hx)))
               clear hd1 hd2
               obtain ⟨hd1, hd2⟩ := apart_var (S := [(ag, flat (mkL 1 R.length))]) (VB := VBVH) (cs := [.int .i64 rid, .slice ah R.length ch]) (by simp) (fun b hb1 e => by have := HLg.out b hb1; omega)
               have HDg_VH := hide hd1
               have HDVH_g := hide hd2
               replace HOg := hide (HOg.out.turn hT (fun b hb1 hx => hd1 b hb1 (by rw [fp_one, fpS_some (by simp)]; exact hx)))
               clear hd1 hd2
               obtain ⟨hd1, hd2⟩ := apart_var (S := [(some ⟨w13.heap.size, 0, none⟩, [.int .i64 rid, .slice ag R.length cg])]) (VB := VBVH) (cs := [.int .i64 rid, .slice ah R.length ch]) (by simp) (fun b hb1 e => by have := HLVG.out b hb1; omega)
               have HDVG_VH := hide hd1
               have HDVH_VG := hide hd2
               replace HOVG := hide (HOVG.out.turn hT (fun b hb1 hx => hd1 b hb1 (by rw [fp_one, fpS_some (by simp)]; exact hx)))
               clear hd1 hd2
               obtain ⟨hd1, hd2⟩ := apart_var (S := [(ah, flat R)]) (VB := VBVH) (cs := [.int .i64 rid, .slice ah R.length ch]) (by simp) (fun b hb1 e => by have := hVB b hb1; omega)
               have HDh_VH := hide hd1
               have HDVH_h := hide hd2
               replace HOh := hide (HOh.out.turn hT (fun b hb1 hx => hd1 b hb1 (by rw [fp_one, fpS_some (by simp)]; exact hx)))
               clear hd1 hd2
               have HNVH : Hid (∀ b ∈ fp [((some ⟨VBVH, 0, none⟩ : Option Addr), [.int .i64 rid, .slice ah R.length ch])], w.heap.size ≤ b) := fun b hb1 => by have h1 : b = VBVH := (by simpa [fp, fpS] using hb1); have := HKW.out.size; omega
               replace HK := hide (hT.keeps HK.out (fun b hb1 => HNVH.out b (by rw [fp_one, fpS_some (by simp)]; exact hb1)))
               have HOVH := hide hOV
               clear hOV hT hrv hVN hVB)
            | (have hb := born_alloc w27 #[.int .i64 rid, .slice ah R.length ch] 25
               dsimp only at hb
               have hk := Keeps.alloc (Keeps.refl w27) (.cells #[.int .i64 rid, .slice ah R.length ch] 25)
               generalize w27.alloc (.cells #[.int .i64 rid, .slice ah R.length ch] 25) = w28 at *
               have HDA_VH := hide (hb.apart HOA.out.mem)
               have HDVH_A := hide (hb.apart' HOA.out.mem)
               have HDB_VH := hide (hb.apart HOB.out.mem)
               have HDVH_B := hide (hb.apart' HOB.out.mem)
               have HDw_VH := hide (hb.apart HOw.out.mem)
               have HDVH_w := hide (hb.apart' HOw.out.mem)
               have HDVW_VH := hide (hb.apart HOVW.out.mem)
               have HDVH_VW := hide (hb.apart' HOVW.out.mem)
               have HDg_VH := hide (hb.apart HOg.out.mem)
               have HDVH_g := hide (hb.apart' HOg.out.mem)
               have HDVG_VH := hide (hb.apart HOVG.out.mem)
               have HDVH_VG := hide (hb.apart' HOVG.out.mem)
               have HDh_VH := hide (hb.apart HOh.out.mem)
               have HDVH_h := hide (hb.apart' HOh.out.mem)
               have HNVH := hide ((hb.old HK.out).new)
               replace HK := hide (HK.out.trans hk)
               replace HOA := hide (HOA.out.kept hk)
               replace HOB := hide (HOB.out.kept hk)
               replace HOw := hide (HOw.out.kept hk)
               replace HOVW := hide (HOVW.out.kept hk)
               replace HOg := hide (HOg.out.kept hk)
               replace HOVG := hide (HOVG.out.kept hk)
               replace HOh := hide (HOh.out.kept hk)
               have HOVH := hide hb.toOwn
               clear hb hk
               generalize w27.heap.size = VBVH at *)
          clear HKR HKW qA qB HLA HLB HLw HLVW HLg HLVG
          have cA0 := cell_at HOA.out.mem 0 (by simp)
          have cA1 := cell_at HOA.out.mem 1 (by simp)
          simp only [Nat.zero_add, List.getElem_cons_zero, List.getElem_cons_succ] at cA0 cA1
          have lA := lt_of_cell cA0
          have cB0 := cell_at HOB.out.mem 0 (by simp)
          have cB1 := cell_at HOB.out.mem 1 (by simp)
          simp only [Nat.zero_add, List.getElem_cons_zero, List.getElem_cons_succ] at cB0 cB1
          have lB := lt_of_cell cB0
          have cVW0 := cell_at HOVW.out.mem 0 (by simp)
          have cVW1 := cell_at HOVW.out.mem 1 (by simp)
          simp only [Nat.zero_add, List.getElem_cons_zero, List.getElem_cons_succ] at cVW0 cVW1
          have lVW := lt_of_cell cVW0
          have cVG0 := cell_at HOVG.out.mem 0 (by simp)
          have cVG1 := cell_at HOVG.out.mem 1 (by simp)
          simp only [Nat.zero_add, List.getElem_cons_zero, List.getElem_cons_succ] at cVG0 cVG1
          have lVG := lt_of_cell cVG0
          have cVH0 := cell_at HOVH.out.mem 0 (by simp)
          have cVH1 := cell_at HOVH.out.mem 1 (by simp)
          simp only [Nat.zero_add, List.getElem_cons_zero, List.getElem_cons_succ] at cVH0 cVH1
          have lVH := lt_of_cell cVH0
          go_wp2_with fail
          refine (eqLedger_o rid ah aw ch cw R w28 (HOh.out.mem (ah, flat R) (by simp)) (HOw.out.mem (aw, flat R) (by simp)) HR.out).mono ?_
          rintro x w29 ⟨rfl, hk⟩
          clear cA0 cA1 lA cB0 cB1 lB cVW0 cVW1 lVW cVG0 cVG1 lVG cVH0 cVH1 lVH
          replace HK := hide (HK.out.trans hk)
          replace HOA := hide (HOA.out.kept hk)
          replace HOB := hide (HOB.out.kept hk)
          replace HOw := hide (HOw.out.kept hk)
          replace HOVW := hide (HOVW.out.kept hk)
          replace HOg := hide (HOg.out.kept hk)
          replace HOVG := hide (HOVG.out.kept hk)
          replace HOh := hide (HOh.out.kept hk)
          replace HOVH := hide (HOVH.out.kept hk)
          clear hk
          have cA0 := cell_at HOA.out.mem 0 (by simp)
          have cA1 := cell_at HOA.out.mem 1 (by simp)
          simp only [Nat.zero_add, List.getElem_cons_zero, List.getElem_cons_succ] at cA0 cA1
          have lA := lt_of_cell cA0
          have cB0 := cell_at HOB.out.mem 0 (by simp)
          have cB1 := cell_at HOB.out.mem 1 (by simp)
          simp only [Nat.zero_add, List.getElem_cons_zero, List.getElem_cons_succ] at cB0 cB1
          have lB := lt_of_cell cB0
          have cVW0 := cell_at HOVW.out.mem 0 (by simp)
          have cVW1 := cell_at HOVW.out.mem 1 (by simp)
          simp only [Nat.zero_add, List.getElem_cons_zero, List.getElem_cons_succ] at cVW0 cVW1
          have lVW := lt_of_cell cVW0
          have cVG0 := cell_at HOVG.out.mem 0 (by simp)
          have cVG1 := cell_at HOVG.out.mem 1 (by simp)
          simp only [Nat.zero_add, List.getElem_cons_zero, List.getElem_cons_succ] at cVG0 cVG1
          have lVG := lt_of_cell cVG0
          have cVH0 := cell_at HOVH.out.mem 0 (by simp)
          have cVH1 := cell_at HOVH.out.mem 1 (by simp)
          simp only [Nat.zero_add, List.getElem_cons_zero, List.getElem_cons_succ] at cVH0 cVH1
          have lVH := lt_of_cell cVH0
          go_wp2_with fail
          refine (heldLedger_o rid ag cg R.length 1 w29 (HOg.out.mem (ag, flat (mkL 1 R.length)) (by simp)) HR.out (by decide) (by decide)).mono ?_
          rintro x w30 ⟨rfl, hk⟩
          clear cA0 cA1 lA cB0 cB1 lB cVW0 cVW1 lVW cVG0 cVG1 lVG cVH0 cVH1 lVH
          replace HK := hide (HK.out.trans hk)
          replace HOA := hide (HOA.out.kept hk)
          replace HOB := hide (HOB.out.kept hk)
          replace HOw := hide (HOw.out.kept hk)
          replace HOVW := hide (HOVW.out.kept hk)
          replace HOg := hide (HOg.out.kept hk)
          replace HOVG := hide (HOVG.out.kept hk)
          replace HOh := hide (HOh.out.kept hk)
          replace HOVH := hide (HOVH.out.kept hk)
          clear hk
          have cA0 := cell_at HOA.out.mem 0 (by simp)
          have cA1 := cell_at HOA.out.mem 1 (by simp)
          simp only [Nat.zero_add, List.getElem_cons_zero, List.getElem_cons_succ] at cA0 cA1
          have lA := lt_of_cell cA0
          have cB0 := cell_at HOB.out.mem 0 (by simp)
          have cB1 := cell_at HOB.out.mem 1 (by simp)
          simp only [Nat.zero_add, List.getElem_cons_zero, List.getElem_cons_succ] at cB0 cB1
          have lB := lt_of_cell cB0
          have cVW0 := cell_at HOVW.out.mem 0 (by simp)
          have cVW1 := cell_at HOVW.out.mem 1 (by simp)
          simp only [Nat.zero_add, List.getElem_cons_zero, List.getElem_cons_succ] at cVW0 cVW1
          have lVW := lt_of_cell cVW0
          have cVG0 := cell_at HOVG.out.mem 0 (by simp)
          have cVG1 := cell_at HOVG.out.mem 1 (by simp)
          simp only [Nat.zero_add, List.getElem_cons_zero, List.getElem_cons_succ] at cVG0 cVG1
          have lVG := lt_of_cell cVG0
          have cVH0 := cell_at HOVH.out.mem 0 (by simp)
          have cVH1 := cell_at HOVH.out.mem 1 (by simp)
          simp only [Nat.zero_add, List.getElem_cons_zero, List.getElem_cons_succ] at cVH0 cVH1
          have lVH := lt_of_cell cVH0
          go_wp2_with fail
          go_ret
          exact ⟨rfl, HK.out⟩
    · rw [if_neg hlt2]
      go_wp2_with fail
      go_ret
      exact ⟨rfl, HK.out⟩
  · rw [if_neg (by omega)]
    go_wp2_with fail
    go_ret
    exact ⟨rfl, HK.out⟩

theorem own : ownKnob Try.prog.godebug = none := by kernel_rfl
theorem laidOut : laidOutB Try.prog = true := by kernel_rfl

set_option maxRecDepth 100000 in
theorem lifted (os : Os) (started : os.Started) (H : Type) (enc : TypeId × Value → H) :
    ReturnsInHanded {} Try.checked os 6 .any (Rows.fnExactPostSpec.pre6 enc Try.prog Try.f6 Rows.fnExactPostRow.domain false) (Rows.fnExactPostSpec.post enc Try.prog Try.f6 false true false false) := by
  refine returnsInHanded_of_change (C := Try.checked) own started (by kernel_rfl) Try.func6
    (ChangeSpec.witness6 (enc := enc) (C := Try.checked) false ⟨#[], #[.agg #[.int .i64 0, .slice none 0 0], .agg #[.int .i64 0, .slice none 0 0]], []⟩ 8 (by kernel_rfl) (by kernel_rfl) (by kernel_rfl) (by kernel_rfl)) ?_
  intro W base args ds gs before hval0 hW hcnd _
  have hval : ∀ (j : Nat) t v, Try.f6.params[j]? = some t → args[j]? = some v → Value.okWide Try.prog W .any base t v := hval0
  have hW' := hW
  obtain ⟨p, q, hA0, hV, rfl, hfz, hnd⟩ := hW
  have hA : DataW.TrodAll enc Try.prog W 0 (fun _ => true) true Try.f6.params.toList args.toList ds p := hA0
  rw [Try.params6] at hA hval
  obtain ⟨v0, vs0, d0, ds0, p0, q0, hargs, rfl, rfl, h0, r0⟩ := trodAll_cons hA
  obtain ⟨v1, vs1, d1, ds1, p1, q1, rfl, rfl, rfl, h1, r1⟩ := trodAll_cons r0
  obtain ⟨rfl, rfl, rfl⟩ := trodAll_nil r1
  obtain rfl : args = #[v0, v1] := by cases args; simp_all
  obtain ⟨rfl, rfl⟩ := trodVars_none hV
  have lt0 := lt_row h0
  have k0 := h0
  obtain ⟨id0, a0, cap0, L0, rfl, w0, hc0, hl0⟩ := ledger_row (hval 0 53 v0 rfl rfl) h0
  have lt1 := lt_row h1
  have k1 := h1
  obtain ⟨id1, a1, cap1, L1, rfl, w1, hc1, hl1⟩ := posting_row (hval 1 55 v1 rfl rfl) h1
  clear hA0 hval0
  refine (walk id0 a0 cap0 L0 id1 a1 cap1 L1 W w0 hc0 hl0 w1 hc1 hl1).mono fun e W' ⟨he, hb⟩ => ?_
  subst he
  refine ⟨_, rfl, _, _, _, [], (p0 ++ (p1 ++ [])), [], hW', ?_, ?_, ?_, Below.frame hb _, fun h => by cases h⟩
  · exact trodAll_mk1 (shut_bool Try.underlying4 _)
  · exact (trodAll_cons_mk (Below.trod laidOut (by kernel_rfl) (of_decide_eq_true (by kernel_rfl)) k0 hb lt0) (trodAll_cons_mk (Below.trod laidOut (by kernel_rfl) (of_decide_eq_true (by kernel_rfl)) k1 hb lt1) trodAll_mk0))
  · exact rfl

theorem over : Rows.fnExactPostRow.holds Try.pinned (OpenSpec.ofChange Rows.fnExactPostSpec) :=
  OpenClaim.holds_of_wide 6 Try.f6 rfl rfl rfl rfl rfl rfl rfl ⟨rfl, rfl, rfl, rfl, rfl⟩ rfl rfl rfl rfl rfl (by kernel_rfl) Try.func6 (by kernel_rfl)
    (of_decide_eq_true (by kernel_rfl)) (by unfold Func.isWrapper; first | (rw [if_pos (by decide +kernel)]; kernel_rfl) | (rw [if_neg (by decide +kernel)]; exact ⟨rfl, rfl⟩))
    (fun os started H enc _ => lifted os started H enc)
end Go.Proofs.Ytecjjkgdgmjgmaa.fnExactPost
namespace Go.Proofs.Ytecjjkgdgmjgmaa
theorem fnExactPost_holds : Rows.FnExactPostSaid := fnExactPost.over
end Go.Proofs.Ytecjjkgdgmjgmaa
