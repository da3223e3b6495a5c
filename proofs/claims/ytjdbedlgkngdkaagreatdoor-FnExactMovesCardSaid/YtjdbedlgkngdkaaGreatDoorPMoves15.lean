/- Texts of the verifier, joined: Pk, Pl, Pw. -/
import Derived.Test.YtjdbedlgkngdkaaGreatDoorPMoves14
namespace Go.Proofs.YtjdbedlgkngdkaaGreatDoor
open Go.RowKit Go.Deep
set_option linter.unusedVariables false
set_option linter.unusedSimpArgs false
set_option maxRecDepth 10000

def row4 (v0 v1 v2 v3 : Value) : Nat → Value := fun i => if i = 0 then v0 else if i = 1 then v1 else if i = 2 then v2 else v3
theorem row4_at (v0 v1 v2 v3 : Value) : ∀ i, i < (#[v0, v1, v2, v3] : Array Value).size → (#[v0, v1, v2, v3] : Array Value)[i]? = some (row4 v0 v1 v2 v3 i)
  | 0, _ => rfl
  | 1, _ => rfl
  | 2, _ => rfl
  | 3, _ => rfl
  | n + 4, h => absurd h (by simp)
set_option maxHeartbeats 4000000 in
theorem lay_1 (w wr : World) (R G : Nat) (ca : Option Addr) (cc : Nat) (C : List Chn) (ea : Option Addr) (ec : Nat) (E : List Edg) (fr tt amt cost : Int) (h : PlS w wr R G 76 (.slice ca C.length cc) ea ec E) (hc : ∀ w', Keeps w w' → Cells w' ca (chs C)) (hl : C.length ≤ 20) (hE : E.length ≤ 1000) :
    Calls Tryz.prog 73 #[.pointer (some ⟨G, 0, none⟩), .int .i64 1, .int .i64 fr, .int .i64 tt, .int .i64 amt, .int .i64 cost] wr fun e w' => e = .returned (.tuple #[]) ∧ ∃ ea' ec', (ea' = none → ec' = 0) ∧ PlS w w' R G 76 (.slice ca C.length cc) ea' ec' (E ++ [⟨0, atI C tt + 1, capV amt, cost⟩]) := by
  have HP := hide h
  have HN := hide (fun x w' (hk : Keeps wr w') => node_impl G ca cc C x w' ((h.kept hk).cell0) (hc w' (h.keep.trans hk)) (by omega))
  have HEL := hide hE
  have HCV : Hid (capV amt = min amt 1000000000) := by show _ = _; unfold capV; split <;> omega
  rw [HCV.out]
  have HR : Hid ((wr.alloc (.cells #[.int .i64 0, .int .i64 0, .int .i64 (min amt 1000000000), .int .i64 cost] 40)).rowIs wr.heap.size 40 4 (row4 (.int .i64 0) (.int .i64 0) (.int .i64 (min amt 1000000000)) (.int .i64 cost))) := World.rowIs_alloc wr #[.int .i64 0, .int .i64 0, .int .i64 (min amt 1000000000), .int .i64 cost] 40 (row4 (.int .i64 0) (.int .i64 0) (.int .i64 (min amt 1000000000)) (.int .i64 cost)) (row4_at _ _ _ _)
  have HKN := hide (Keeps.alloc (Keeps.refl wr) (.cells #[.int .i64 0, .int .i64 0, .int .i64 (min amt 1000000000), .int .i64 cost] 40))
  have HV : Hid (G < wr.heap.size) := h.gr.lt
  clear h hc hE HCV
  go_enter Tryz.func73, Tryz.ntmps73
  go_upto_region 1 with fail
  generalize hcp : min amt 1000000000 = cp at *
  have HCP := hide hcp
  clear hcp
  obtain ⟨V, hV⟩ : ∃ V, V = wr.heap.size := ⟨_, rfl⟩
  have HVV : Hid (wr.heap.size ≤ V) := by show _ ≤ _; omega
  rw [← hV] at HR ⊢
  generalize wr.alloc (.cells #[.int .i64 0, .int .i64 0, .int .i64 cp, .int .i64 cost] 40) = W1 at *
  have HAF := hide (fun x => HN.out x)
  obtain ⟨j1, hj1⟩ : ∃ j1, j1 = atI C fr := ⟨_, rfl⟩
  obtain ⟨j2, hj2⟩ : ∃ j2, j2 = atI C tt := ⟨_, rfl⟩
  have HN1 := hide (HN.out fr)
  have HN2 := hide (HN.out tt)
  rw [← hj1] at HN1
  rw [← hj2] at HN2
  try rw [← hj1]
  try rw [← hj2]
  have HJ1 := hide hj1
  have HJ2 := hide hj2
  clear HN HAF hj1 hj2 hV
  go_wp2_with fail
  refine (unhide HN2 W1 HKN.out).mono ?_
  rintro e W2 ⟨rfl, hk⟩
  replace HKN := hide (HKN.out.trans hk)
  have HRn := hide (hk.rowK HR.out)
  clear hk HR
  have r1 := HRn.out.cell (i := 1) (by decide)
  have f1 := HRn.out.frozen 1
  have hlt := HRn.out.lt
  go_upto_region 8 with fail
  have HR1 := hide ((HRn.out.set 1 (.int .i64 (j2 + 1))).congr (g := row4 (.int .i64 (0)) (.int .i64 (j2 + 1)) (.int .i64 (cp)) (.int .i64 (cost))) (fun i hi => by rcases (show i = 0 ∨ i = 1 ∨ i = 2 ∨ i = 3 by omega) with rfl | rfl | rfl | rfl <;> rfl))
  replace HKN := hide (HKN.out.setCell (p := ⟨V, 1, none⟩) (by dsimp only; have := HVV.out; omega) (.int .i64 (j2 + 1)))
  clear HRn r1 f1 hlt
  generalize W2.setCell ⟨V, 1, none⟩ (.int .i64 (j2 + 1)) = W2' at *
  have HP2 := hide (HP.out.kept HKN.out)
  have d0 := HR1.out.cell (i := 0) (by decide)
  have d1 := HR1.out.cell (i := 1) (by decide)
  have d2 := HR1.out.cell (i := 2) (by decide)
  have d3 := HR1.out.cell (i := 3) (by decide)
  simp only [row4, if_true, if_false, show ¬ (1 : Nat) = 0 by decide, show ¬ (2 : Nat) = 0 by decide, show ¬ (2 : Nat) = 1 by decide, show ¬ (3 : Nat) = 0 by decide, show ¬ (3 : Nat) = 1 by decide, show ¬ (3 : Nat) = 2 by decide] at d0 d1 d2 d3
  have G1 := gr_cell HP2.out.cell1
  have D0 := gr_cell d0
  have D1 := gr_cell d1
  have D2 := gr_cell d2
  have D3 := gr_cell d3
  clear d0 d1 d2 d3
  refine wp_region_app [.u, .f, .f, .f, .f, .h, .b, .t, .t, .t, .t] (by kernel_rfl) (by kernel_rfl) rfl rfl rfl rfl rfl rfl rfl (fun _ _ d _ _ h => by cases d <;> exact h) ?_
  simp only [pkU, pkF, pkH, pkT, pkB]
  refine wpUni_step ?v0 (by rfl) ?f0 ?_
  case f0 =>
    intro w9
    go_simp
    with_reducible rfl
  try simp only [Act.put, List.setIfInBounds_toArray, List.set_cons_zero, List.set_cons_succ]
  refine wpUni_nil ?_
  refine wpFlo_step ?v1 (by rfl) ?f1 ?_
  case f1 =>
    rintro w9 ⟨t9, rfl⟩
    go_simp
    with_reducible rfl
  try simp only [Act.put, List.setIfInBounds_toArray, List.set_cons_zero, List.set_cons_succ]
  refine wpFlo_step ?v2 (by rfl) ?f2 ?_
  case f2 =>
    rintro w9 ⟨t9, rfl⟩
    go_simp
    with_reducible rfl
  try simp only [Act.put, List.setIfInBounds_toArray, List.set_cons_zero, List.set_cons_succ]
  refine wpFlo_step ?v3 (by rfl) ?f3 ?_
  case f3 =>
    rintro w9 ⟨t9, rfl⟩
    go_simp
    with_reducible rfl
  try simp only [Act.put, List.setIfInBounds_toArray, List.set_cons_zero, List.set_cons_succ]
  refine wpFlo_step ?v4 (by rfl) ?f4 ?_
  case f4 =>
    rintro w9 ⟨t9, rfl⟩
    go_simp
    with_reducible rfl
  try simp only [Act.put, List.setIfInBounds_toArray, List.set_cons_zero, List.set_cons_succ]
  refine wpFlo_nil ?_
  repeat (go_big_quiet_step (fail))
  refine wpQuiet_nil ?_
  refine ⟨rfl, ?_⟩
  rintro w9 ⟨t9, rfl⟩ K9 hK9
  go_simp
  refine hK9.out _ _ (gr_gr (Keeps.alloc (Keeps.refl _) _)) ?_
  clear hK9 K9
  have HP9 := hide (HP2.out.kept (gr_keeps W2' t9))
  generalize gr W2' t9 = W9 at *
  have HK9 := hide (Keeps.alloc (Keeps.refl W9) (.cells #[.int .i64 0, .int .i64 (j2 + 1), .int .i64 cp, .int .i64 cost] 40))
  have HM9 := hide (mem_one W9 ⟨0, j2 + 1, cp, cost⟩)
  have HO9 := hide ((HP9.out.kept HK9.out).ow)
  have HB9 : Hid (G + 1 ≤ (W9.alloc (.cells #[.int .i64 0, .int .i64 (j2 + 1), .int .i64 cp, .int .i64 cost] 40)).heap.size) := by show _ ≤ _; have := HP9.out.gr.lt; simp; omega
  dsimp only at HM9
  clear G1 D0 D1 D2 D3
  go_wp2_with (at_builtin; refine app_Edge rfl (.tmp 40) (.tmp 42) rfl (G + 1) _ E [⟨0, j2 + 1, cp, cost⟩] rfl (some ⟨W9.heap.size, 0, none⟩) 1 rfl HM9.out (fun h => nomatch h) HO9.out (by have := HEL.out; simp; omega) HB9.out ?_; intro v' w' ho hg hnn; obtain ⟨ea', ec', rfl, hen, hDG, q1, q2, q3⟩ := HP9.out.grow HK9.out ho hg; have HDG := hide hDG; have HENN := hide hen; clear hDG ho hg hnn hen)
  go_end0
  refine ⟨rfl, ea', ec', HENN.out, ?_⟩
  rw [← HJ2.out, HCP.out]
  exact HDG.out
set_option maxHeartbeats 4000000 in
theorem lay_2 (w wr : World) (R G : Nat) (ca : Option Addr) (cc : Nat) (C : List Chn) (ea : Option Addr) (ec : Nat) (E : List Edg) (fr tt amt cost : Int) (h : PlS w wr R G 76 (.slice ca C.length cc) ea ec E) (hc : ∀ w', Keeps w w' → Cells w' ca (chs C)) (hl : C.length ≤ 20) (hE : E.length ≤ 1000) :
    Calls Tryz.prog 73 #[.pointer (some ⟨G, 0, none⟩), .int .i64 2, .int .i64 fr, .int .i64 tt, .int .i64 amt, .int .i64 cost] wr fun e w' => e = .returned (.tuple #[]) ∧ ∃ ea' ec', (ea' = none → ec' = 0) ∧ PlS w w' R G 76 (.slice ca C.length cc) ea' ec' (E ++ [⟨atI C fr + 1, 0, capV amt, cost⟩]) := by
  have HP := hide h
  have HN := hide (fun x w' (hk : Keeps wr w') => node_impl G ca cc C x w' ((h.kept hk).cell0) (hc w' (h.keep.trans hk)) (by omega))
  have HEL := hide hE
  have HCV : Hid (capV amt = min amt 1000000000) := by show _ = _; unfold capV; split <;> omega
  rw [HCV.out]
  have HR : Hid ((wr.alloc (.cells #[.int .i64 0, .int .i64 0, .int .i64 (min amt 1000000000), .int .i64 cost] 40)).rowIs wr.heap.size 40 4 (row4 (.int .i64 0) (.int .i64 0) (.int .i64 (min amt 1000000000)) (.int .i64 cost))) := World.rowIs_alloc wr #[.int .i64 0, .int .i64 0, .int .i64 (min amt 1000000000), .int .i64 cost] 40 (row4 (.int .i64 0) (.int .i64 0) (.int .i64 (min amt 1000000000)) (.int .i64 cost)) (row4_at _ _ _ _)
  have HKN := hide (Keeps.alloc (Keeps.refl wr) (.cells #[.int .i64 0, .int .i64 0, .int .i64 (min amt 1000000000), .int .i64 cost] 40))
  have HV : Hid (G < wr.heap.size) := h.gr.lt
  clear h hc hE HCV
  go_enter Tryz.func73, Tryz.ntmps73
  go_upto_region 1 with fail
  generalize hcp : min amt 1000000000 = cp at *
  have HCP := hide hcp
  clear hcp
  obtain ⟨V, hV⟩ : ∃ V, V = wr.heap.size := ⟨_, rfl⟩
  have HVV : Hid (wr.heap.size ≤ V) := by show _ ≤ _; omega
  rw [← hV] at HR ⊢
  generalize wr.alloc (.cells #[.int .i64 0, .int .i64 0, .int .i64 cp, .int .i64 cost] 40) = W1 at *
  have HAF := hide (fun x => HN.out x)
  obtain ⟨j1, hj1⟩ : ∃ j1, j1 = atI C fr := ⟨_, rfl⟩
  obtain ⟨j2, hj2⟩ : ∃ j2, j2 = atI C tt := ⟨_, rfl⟩
  have HN1 := hide (HN.out fr)
  have HN2 := hide (HN.out tt)
  rw [← hj1] at HN1
  rw [← hj2] at HN2
  try rw [← hj1]
  try rw [← hj2]
  have HJ1 := hide hj1
  have HJ2 := hide hj2
  clear HN HAF hj1 hj2 hV
  go_wp2_with fail
  refine (unhide HN1 W1 HKN.out).mono ?_
  rintro e W2 ⟨rfl, hk⟩
  replace HKN := hide (HKN.out.trans hk)
  have HRn := hide (hk.rowK HR.out)
  clear hk HR
  have r0 := HRn.out.cell (i := 0) (by decide)
  have f0 := HRn.out.frozen 0
  have hlt := HRn.out.lt
  go_upto_region 8 with fail
  have HR0 := hide ((HRn.out.set 0 (.int .i64 (j1 + 1))).congr (g := row4 (.int .i64 (j1 + 1)) (.int .i64 (0)) (.int .i64 (cp)) (.int .i64 (cost))) (fun i hi => by rcases (show i = 0 ∨ i = 1 ∨ i = 2 ∨ i = 3 by omega) with rfl | rfl | rfl | rfl <;> rfl))
  replace HKN := hide (HKN.out.setCell (p := ⟨V, 0, none⟩) (by dsimp only; have := HVV.out; omega) (.int .i64 (j1 + 1)))
  clear HRn r0 f0 hlt
  generalize W2.setCell ⟨V, 0, none⟩ (.int .i64 (j1 + 1)) = W2' at *
  have HP2 := hide (HP.out.kept HKN.out)
  have d0 := HR0.out.cell (i := 0) (by decide)
  have d1 := HR0.out.cell (i := 1) (by decide)
  have d2 := HR0.out.cell (i := 2) (by decide)
  have d3 := HR0.out.cell (i := 3) (by decide)
  simp only [row4, if_true, if_false, show ¬ (1 : Nat) = 0 by decide, show ¬ (2 : Nat) = 0 by decide, show ¬ (2 : Nat) = 1 by decide, show ¬ (3 : Nat) = 0 by decide, show ¬ (3 : Nat) = 1 by decide, show ¬ (3 : Nat) = 2 by decide] at d0 d1 d2 d3
  have G1 := gr_cell HP2.out.cell1
  have D0 := gr_cell d0
  have D1 := gr_cell d1
  have D2 := gr_cell d2
  have D3 := gr_cell d3
  clear d0 d1 d2 d3
  refine wp_region_app [.u, .f, .f, .f, .f, .h, .b, .t, .t, .t, .t] (by kernel_rfl) (by kernel_rfl) rfl rfl rfl rfl rfl rfl rfl (fun _ _ d _ _ h => by cases d <;> exact h) ?_
  simp only [pkU, pkF, pkH, pkT, pkB]
  refine wpUni_step ?v0 (by rfl) ?f0 ?_
  case f0 =>
    intro w9
    go_simp
    with_reducible rfl
  try simp only [Act.put, List.setIfInBounds_toArray, List.set_cons_zero, List.set_cons_succ]
  refine wpUni_nil ?_
  refine wpFlo_step ?v1 (by rfl) ?f1 ?_
  case f1 =>
    rintro w9 ⟨t9, rfl⟩
    go_simp
    with_reducible rfl
  try simp only [Act.put, List.setIfInBounds_toArray, List.set_cons_zero, List.set_cons_succ]
  refine wpFlo_step ?v2 (by rfl) ?f2 ?_
  case f2 =>
    rintro w9 ⟨t9, rfl⟩
    go_simp
    with_reducible rfl
  try simp only [Act.put, List.setIfInBounds_toArray, List.set_cons_zero, List.set_cons_succ]
  refine wpFlo_step ?v3 (by rfl) ?f3 ?_
  case f3 =>
    rintro w9 ⟨t9, rfl⟩
    go_simp
    with_reducible rfl
  try simp only [Act.put, List.setIfInBounds_toArray, List.set_cons_zero, List.set_cons_succ]
  refine wpFlo_step ?v4 (by rfl) ?f4 ?_
  case f4 =>
    rintro w9 ⟨t9, rfl⟩
    go_simp
    with_reducible rfl
  try simp only [Act.put, List.setIfInBounds_toArray, List.set_cons_zero, List.set_cons_succ]
  refine wpFlo_nil ?_
  repeat (go_big_quiet_step (fail))
  refine wpQuiet_nil ?_
  refine ⟨rfl, ?_⟩
  rintro w9 ⟨t9, rfl⟩ K9 hK9
  go_simp
  refine hK9.out _ _ (gr_gr (Keeps.alloc (Keeps.refl _) _)) ?_
  clear hK9 K9
  have HP9 := hide (HP2.out.kept (gr_keeps W2' t9))
  generalize gr W2' t9 = W9 at *
  have HK9 := hide (Keeps.alloc (Keeps.refl W9) (.cells #[.int .i64 (j1 + 1), .int .i64 0, .int .i64 cp, .int .i64 cost] 40))
  have HM9 := hide (mem_one W9 ⟨j1 + 1, 0, cp, cost⟩)
  have HO9 := hide ((HP9.out.kept HK9.out).ow)
  have HB9 : Hid (G + 1 ≤ (W9.alloc (.cells #[.int .i64 (j1 + 1), .int .i64 0, .int .i64 cp, .int .i64 cost] 40)).heap.size) := by show _ ≤ _; have := HP9.out.gr.lt; simp; omega
  dsimp only at HM9
  clear G1 D0 D1 D2 D3
  go_wp2_with (at_builtin; refine app_Edge rfl (.tmp 40) (.tmp 42) rfl (G + 1) _ E [⟨j1 + 1, 0, cp, cost⟩] rfl (some ⟨W9.heap.size, 0, none⟩) 1 rfl HM9.out (fun h => nomatch h) HO9.out (by have := HEL.out; simp; omega) HB9.out ?_; intro v' w' ho hg hnn; obtain ⟨ea', ec', rfl, hen, hDG, q1, q2, q3⟩ := HP9.out.grow HK9.out ho hg; have HDG := hide hDG; have HENN := hide hen; clear hDG ho hg hnn hen)
  go_end0
  refine ⟨rfl, ea', ec', HENN.out, ?_⟩
  rw [← HJ1.out, HCP.out]
  exact HDG.out
set_option maxHeartbeats 4000000 in
theorem lay_3 (w wr : World) (R G : Nat) (ca : Option Addr) (cc : Nat) (C : List Chn) (ea : Option Addr) (ec : Nat) (E : List Edg) (fr tt amt cost : Int) (h : PlS w wr R G 76 (.slice ca C.length cc) ea ec E) (hc : ∀ w', Keeps w w' → Cells w' ca (chs C)) (hl : C.length ≤ 20) (hE : E.length ≤ 1000) :
    Calls Tryz.prog 73 #[.pointer (some ⟨G, 0, none⟩), .int .i64 3, .int .i64 fr, .int .i64 tt, .int .i64 amt, .int .i64 cost] wr fun e w' => e = .returned (.tuple #[]) ∧ ∃ ea' ec', (ea' = none → ec' = 0) ∧ PlS w w' R G 76 (.slice ca C.length cc) ea' ec' (E ++ [⟨atI C fr + 1, atI C tt + 1, capV amt, cost⟩]) := by
  have HP := hide h
  have HN := hide (fun x w' (hk : Keeps wr w') => node_impl G ca cc C x w' ((h.kept hk).cell0) (hc w' (h.keep.trans hk)) (by omega))
  have HEL := hide hE
  have HCV : Hid (capV amt = min amt 1000000000) := by show _ = _; unfold capV; split <;> omega
  rw [HCV.out]
  have HR : Hid ((wr.alloc (.cells #[.int .i64 0, .int .i64 0, .int .i64 (min amt 1000000000), .int .i64 cost] 40)).rowIs wr.heap.size 40 4 (row4 (.int .i64 0) (.int .i64 0) (.int .i64 (min amt 1000000000)) (.int .i64 cost))) := World.rowIs_alloc wr #[.int .i64 0, .int .i64 0, .int .i64 (min amt 1000000000), .int .i64 cost] 40 (row4 (.int .i64 0) (.int .i64 0) (.int .i64 (min amt 1000000000)) (.int .i64 cost)) (row4_at _ _ _ _)
  have HKN := hide (Keeps.alloc (Keeps.refl wr) (.cells #[.int .i64 0, .int .i64 0, .int .i64 (min amt 1000000000), .int .i64 cost] 40))
  have HV : Hid (G < wr.heap.size) := h.gr.lt
  clear h hc hE HCV
  go_enter Tryz.func73, Tryz.ntmps73
  go_upto_region 1 with fail
  generalize hcp : min amt 1000000000 = cp at *
  have HCP := hide hcp
  clear hcp
  obtain ⟨V, hV⟩ : ∃ V, V = wr.heap.size := ⟨_, rfl⟩
  have HVV : Hid (wr.heap.size ≤ V) := by show _ ≤ _; omega
  rw [← hV] at HR ⊢
  generalize wr.alloc (.cells #[.int .i64 0, .int .i64 0, .int .i64 cp, .int .i64 cost] 40) = W1 at *
  have HAF := hide (fun x => HN.out x)
  obtain ⟨j1, hj1⟩ : ∃ j1, j1 = atI C fr := ⟨_, rfl⟩
  obtain ⟨j2, hj2⟩ : ∃ j2, j2 = atI C tt := ⟨_, rfl⟩
  have HN1 := hide (HN.out fr)
  have HN2 := hide (HN.out tt)
  rw [← hj1] at HN1
  rw [← hj2] at HN2
  try rw [← hj1]
  try rw [← hj2]
  have HJ1 := hide hj1
  have HJ2 := hide hj2
  clear HN HAF hj1 hj2 hV
  go_wp2_with fail
  refine (unhide HN1 W1 HKN.out).mono ?_
  rintro e W2 ⟨rfl, hk⟩
  replace HKN := hide (HKN.out.trans hk)
  have HRn := hide (hk.rowK HR.out)
  clear hk HR
  have r0 := HRn.out.cell (i := 0) (by decide)
  have f0 := HRn.out.frozen 0
  have hlt := HRn.out.lt
  go_upto_region 7 with fail
  have HR0 := hide ((HRn.out.set 0 (.int .i64 (j1 + 1))).congr (g := row4 (.int .i64 (j1 + 1)) (.int .i64 (0)) (.int .i64 (cp)) (.int .i64 (cost))) (fun i hi => by rcases (show i = 0 ∨ i = 1 ∨ i = 2 ∨ i = 3 by omega) with rfl | rfl | rfl | rfl <;> rfl))
  replace HKN := hide (HKN.out.setCell (p := ⟨V, 0, none⟩) (by dsimp only; have := HVV.out; omega) (.int .i64 (j1 + 1)))
  clear HRn r0 f0 hlt
  generalize W2.setCell ⟨V, 0, none⟩ (.int .i64 (j1 + 1)) = W2' at *
  go_wp2_with fail
  refine (unhide HN2 W2' HKN.out).mono ?_
  rintro e W3 ⟨rfl, hk⟩
  replace HKN := hide (HKN.out.trans hk)
  have HRn := hide (hk.rowK HR0.out)
  clear hk HR0
  have r1 := HRn.out.cell (i := 1) (by decide)
  have f1 := HRn.out.frozen 1
  have hlt := HRn.out.lt
  go_upto_region 8 with fail
  have HR1 := hide ((HRn.out.set 1 (.int .i64 (j2 + 1))).congr (g := row4 (.int .i64 (j1 + 1)) (.int .i64 (j2 + 1)) (.int .i64 (cp)) (.int .i64 (cost))) (fun i hi => by rcases (show i = 0 ∨ i = 1 ∨ i = 2 ∨ i = 3 by omega) with rfl | rfl | rfl | rfl <;> rfl))
  replace HKN := hide (HKN.out.setCell (p := ⟨V, 1, none⟩) (by dsimp only; have := HVV.out; omega) (.int .i64 (j2 + 1)))
  clear HRn r1 f1 hlt
  generalize W3.setCell ⟨V, 1, none⟩ (.int .i64 (j2 + 1)) = W3' at *
  have HP2 := hide (HP.out.kept HKN.out)
  have d0 := HR1.out.cell (i := 0) (by decide)
  have d1 := HR1.out.cell (i := 1) (by decide)
  have d2 := HR1.out.cell (i := 2) (by decide)
  have d3 := HR1.out.cell (i := 3) (by decide)
  simp only [row4, if_true, if_false, show ¬ (1 : Nat) = 0 by decide, show ¬ (2 : Nat) = 0 by decide, show ¬ (2 : Nat) = 1 by decide, show ¬ (3 : Nat) = 0 by decide, show ¬ (3 : Nat) = 1 by decide, show ¬ (3 : Nat) = 2 by decide] at d0 d1 d2 d3
  have G1 := gr_cell HP2.out.cell1
  have D0 := gr_cell d0
  have D1 := gr_cell d1
  have D2 := gr_cell d2
  have D3 := gr_cell d3
  clear d0 d1 d2 d3
  refine wp_region_app [.u, .f, .f, .f, .f, .h, .b, .t, .t, .t, .t] (by kernel_rfl) (by kernel_rfl) rfl rfl rfl rfl rfl rfl rfl (fun _ _ d _ _ h => by cases d <;> exact h) ?_
  simp only [pkU, pkF, pkH, pkT, pkB]
  refine wpUni_step ?v0 (by rfl) ?f0 ?_
  case f0 =>
    intro w9
    go_simp
    with_reducible rfl
  try simp only [Act.put, List.setIfInBounds_toArray, List.set_cons_zero, List.set_cons_succ]
  refine wpUni_nil ?_
  refine wpFlo_step ?v1 (by rfl) ?f1 ?_
  case f1 =>
    rintro w9 ⟨t9, rfl⟩
    go_simp
    with_reducible rfl
  try simp only [Act.put, List.setIfInBounds_toArray, List.set_cons_zero, List.set_cons_succ]
  refine wpFlo_step ?v2 (by rfl) ?f2 ?_
  case f2 =>
    rintro w9 ⟨t9, rfl⟩
    go_simp
    with_reducible rfl
  try simp only [Act.put, List.setIfInBounds_toArray, List.set_cons_zero, List.set_cons_succ]
  refine wpFlo_step ?v3 (by rfl) ?f3 ?_
  case f3 =>
    rintro w9 ⟨t9, rfl⟩
    go_simp
    with_reducible rfl
  try simp only [Act.put, List.setIfInBounds_toArray, List.set_cons_zero, List.set_cons_succ]
  refine wpFlo_step ?v4 (by rfl) ?f4 ?_
  case f4 =>
    rintro w9 ⟨t9, rfl⟩
    go_simp
    with_reducible rfl
  try simp only [Act.put, List.setIfInBounds_toArray, List.set_cons_zero, List.set_cons_succ]
  refine wpFlo_nil ?_
  repeat (go_big_quiet_step (fail))
  refine wpQuiet_nil ?_
  refine ⟨rfl, ?_⟩
  rintro w9 ⟨t9, rfl⟩ K9 hK9
  go_simp
  refine hK9.out _ _ (gr_gr (Keeps.alloc (Keeps.refl _) _)) ?_
  clear hK9 K9
  have HP9 := hide (HP2.out.kept (gr_keeps W3' t9))
  generalize gr W3' t9 = W9 at *
  have HK9 := hide (Keeps.alloc (Keeps.refl W9) (.cells #[.int .i64 (j1 + 1), .int .i64 (j2 + 1), .int .i64 cp, .int .i64 cost] 40))
  have HM9 := hide (mem_one W9 ⟨j1 + 1, j2 + 1, cp, cost⟩)
  have HO9 := hide ((HP9.out.kept HK9.out).ow)
  have HB9 : Hid (G + 1 ≤ (W9.alloc (.cells #[.int .i64 (j1 + 1), .int .i64 (j2 + 1), .int .i64 cp, .int .i64 cost] 40)).heap.size) := by show _ ≤ _; have := HP9.out.gr.lt; simp; omega
  dsimp only at HM9
  clear G1 D0 D1 D2 D3
  go_wp2_with (at_builtin; refine app_Edge rfl (.tmp 40) (.tmp 42) rfl (G + 1) _ E [⟨j1 + 1, j2 + 1, cp, cost⟩] rfl (some ⟨W9.heap.size, 0, none⟩) 1 rfl HM9.out (fun h => nomatch h) HO9.out (by have := HEL.out; simp; omega) HB9.out ?_; intro v' w' ho hg hnn; obtain ⟨ea', ec', rfl, hen, hDG, q1, q2, q3⟩ := HP9.out.grow HK9.out ho hg; have HDG := hide hDG; have HENN := hide hen; clear hDG ho hg hnn hen)
  go_end0
  refine ⟨rfl, ea', ec', HENN.out, ?_⟩
  rw [← HJ1.out, ← HJ2.out, HCP.out]
  exact HDG.out
end Go.Proofs.YtjdbedlgkngdkaaGreatDoor
namespace Go.Proofs.YtjdbedlgkngdkaaGreatDoor
open Go.RowKit Go.Deep
set_option linter.unusedVariables false
set_option linter.unusedSimpArgs false
set_option maxRecDepth 10000

set_option maxHeartbeats 4000000 in
theorem above_impl (w wr : World) (R G : Nat) (ca : Option Addr) (cc : Nat) (C : List Chn) (ea : Option Addr) (ec : Nat) (E0 : List Edg) (lo hi : Int) (h : PlS w wr R G 76 (.slice ca C.length cc) ea ec E0) (hen : ea = none → ec = 0) (hc : ∀ w', Keeps w w' → Cells w' ca (chs C)) (hl : C.length ≤ 20) (hE : E0.length ≤ 100) (hid : idsB C = true) (hlo : ∀ k (hk : k < C.length), 0 ≤ C[k].lo ∧ C[k].lo ≤ 1125899906842624) :
    Calls Tryz.prog 33 #[.pointer (some ⟨G, 0, none⟩), .int .i64 lo, .int .i64 hi] wr fun e w' => e = .returned (.tuple #[]) ∧ ∃ ea' ec', (ea' = none → ec' = 0) ∧ PlS w w' R G 76 (.slice ca C.length cc) ea' ec' (E0 ++ overC (aboveE lo hi) C C.length) := by
  have HP0 := hide h
  have HCC := hide hc
  have HE0 := hide hE
  have HID := hide hid
  have HLO := hide hlo
  have HEN0 := hide hen
  
  have g0 := h.cell0
  have hGl := lt_of_cell g0
  clear h hc hE hid hlo hen 
  go_enter Tryz.func33, Tryz.ntmps33
  go_wp2_with fail
  clear g0 hGl
  go_loopw [15] (fun y wq => ∃ (k : Nat) (ea : Option Addr) (ec : Nat), k ≤ C.length ∧ y = .int .i64 (k : Int) ∧ Hid (ea = none → ec = 0) ∧ Hid (PlS w wq R G 76 (.slice ca C.length cc) ea ec (E0 ++ overC (aboveE lo hi) C k))) (fun y _ => C.length - (intOf y).toNat)
  case atStart => exact ⟨0, ea, ec, by omega, rfl, HEN0.out, (by show PlS _ _ _ _ _ _ _ _ _; simpa [overC] using HP0.out)⟩
  case round =>
    clear HP0 HEN0
    obtain ⟨k, ea, ec, hk, rfl, HEN, HP⟩ := hrel
    by_cases hlt : k < C.length
    · obtain ⟨b, off, ea0, c0, c1, c2, c3, c4, c5, c6⟩ := chs_at (unhide HCC _ HP.out.keep) k hlt
      subst ea0
      have HST : Hid (E0 ++ overC (aboveE lo hi) C (k + 1) = (E0 ++ overC (aboveE lo hi) C k) ++ aboveE lo hi k C[k]) := by show _ = _; rw [overC_step (aboveE lo hi) C hlt]; simp only [List.append_assoc]
      have HEN2 : Hid ((E0 ++ overC (aboveE lo hi) C k).length ≤ 100 + k) := by
        show _ ≤ _
        have h1 := overC_len (aboveE_len lo hi) C k
        have h0 := HE0.out
        rw [List.length_append]; omega
      have HAM : Hid (0 ≤ C[k].lo ∧ C[k].lo ≤ 1125899906842624) := HLO.out k hlt
      have HEB := hide (endV_bound (sz := C[k].sz) (lo := lo) (hi := hi) (k := hi) (.inr rfl))
      have HED := hide (fun w1 => ends_impl C[k] lo hi w1)
      have HOW := hide (atI_own HID.out hlt)
      have HAE : Hid (aboveE lo hi k C[k] = if endV C[k].sz hi lo hi < C[k].lo then [⟨0, (k : Int) + 1, capV (C[k].lo - endV C[k].sz hi lo hi), 0⟩] else []) := rfl
      obtain ⟨E1, hE1⟩ : ∃ E1, E1 = E0 ++ overC (aboveE lo hi) C (k + 1) := ⟨_, rfl⟩
      have HE1 := hide hE1
      rw [← hE1] at HST
      clear hE1
      generalize E0 ++ overC (aboveE lo hi) C k = E at *
      generalize aboveE lo hi k C[k] = F at *
      generalize C[k] = x at *
      obtain ⟨xid, xsz, xlo, xre, xba, xpp, xsc⟩ := x
      dsimp only [Chn.v] at *
      generalize endV xsz lo lo hi = v1 at *
      generalize endV xsz hi lo hi = v2 at *
      have HA := hide (rowc7 wr (.int .i64 xid) (.int .i64 xsz) (.int .i64 xlo) (.int .i64 xre) (.int .i64 xba) (.int .i64 xpp) (.int .i64 xsc) 84)
      have HKA := hide (Keeps.alloc (Keeps.refl wr) (.cells #[.int .i64 xid, .int .i64 xsz, .int .i64 xlo, .int .i64 xre, .int .i64 xba, .int .i64 xpp, .int .i64 xsc] 84))
      go_upto_region 3 with fail
      generalize wr.heap.size = V at *
      generalize wr.alloc (.cells #[.int .i64 xid, .int .i64 xsz, .int .i64 xlo, .int .i64 xre, .int .i64 xba, .int .i64 xpp, .int .i64 xsc] 84) = W1 at *
      obtain ⟨d0, d1, d2, d3, d4, d5, d6⟩ := unhide HA W1 (Keeps.refl _)
      clear c0 c1 c2 c3 c4 c5 c6
      go_wp2_with fail
      refine (unhide HED W1).mono ?_
      rintro e W2 ⟨rfl, hk2⟩
      obtain ⟨d0, d1, d2, d3, d4, d5, d6⟩ := unhide HA W2 hk2
      have HP2 := hide ((HP.out.kept HKA.out).kept hk2)
      clear hk2 HP HKA HED HA
      by_cases hc : v2 < xlo
      · rw [if_pos hc] at HAE
        have hw2 : IntKind.i64.wrap (xlo - v2) = xlo - v2 := by rw [IntKind.wrap_i64]; have := HAM.out; have := HEB.out; omega
        skip
        have HLY := hide (lay_1 w W2 R G _ cc C ea ec E 0 xid (xlo - v2) 0 HP2.out HCC.out hl (by have := HEN2.out; omega))
        rw [HOW.out] at HLY
        go_wp2_with fail
        refine (unhide HLY).mono ?_
        rintro e W3 ⟨rfl, ea', ec', hen', hp'⟩
        have HP3 := hide hp'
        have HEN3 := hide hen'
        clear hp' hen' d0 d1 d2 d3 d4 d5 d6
        go_wp2_with fail
        go_roundw
        case rel => exact ⟨k + 1, ea', ec', by omega, by go_num, HEN3.out, by rw [← HE1.out, HST.out, HAE.out]; exact HP3.out⟩
        case measure => simp [intOf]; omega
      · rw [if_neg hc] at HAE
        have HE : Hid (E1 = E) := by show _ = _; rw [HST.out, HAE.out, List.append_nil]
        go_wp2_with fail
        go_roundw
        case rel => exact ⟨k + 1, ea, ec, by omega, by go_num, HEN.out, by rw [← HE1.out, HE.out]; exact HP2.out⟩
        case measure => simp [intOf]; omega
    · have e : k = C.length := by omega
      subst e
      go_wp2_with fail
      go_end0
      exact ⟨rfl, ea, ec, HEN.out, HP.out⟩
set_option maxHeartbeats 4000000 in
theorem lack_impl (w wr : World) (R G : Nat) (ca : Option Addr) (cc : Nat) (C : List Chn) (ea : Option Addr) (ec : Nat) (E0 : List Edg) (lo hi gain : Int) (h : PlS w wr R G 76 (.slice ca C.length cc) ea ec E0) (hen : ea = none → ec = 0) (hc : ∀ w', Keeps w w' → Cells w' ca (chs C)) (hl : C.length ≤ 20) (hE : E0.length ≤ 100) (hid : idsB C = true) (hlo : ∀ k (hk : k < C.length), 0 ≤ C[k].lo ∧ C[k].lo ≤ 1125899906842624) (hgn : 0 ≤ gain ∧ gain ≤ 1000000) :
    Calls Tryz.prog 34 #[.pointer (some ⟨G, 0, none⟩), .int .i64 lo, .int .i64 hi, .int .i64 gain] wr fun e w' => e = .returned (.tuple #[]) ∧ ∃ ea' ec', (ea' = none → ec' = 0) ∧ PlS w w' R G 76 (.slice ca C.length cc) ea' ec' (E0 ++ overC (lackE lo hi gain) C C.length) := by
  have HP0 := hide h
  have HCC := hide hc
  have HE0 := hide hE
  have HID := hide hid
  have HLO := hide hlo
  have HEN0 := hide hen
  have HGB := hide hgn
  have g0 := h.cell0
  have hGl := lt_of_cell g0
  clear h hc hE hid hlo hen hgn
  go_enter Tryz.func34, Tryz.ntmps34
  go_wp2_with fail
  clear g0 hGl
  go_loopw [17] (fun y wq => ∃ (k : Nat) (ea : Option Addr) (ec : Nat), k ≤ C.length ∧ y = .int .i64 (k : Int) ∧ Hid (ea = none → ec = 0) ∧ Hid (PlS w wq R G 76 (.slice ca C.length cc) ea ec (E0 ++ overC (lackE lo hi gain) C k))) (fun y _ => C.length - (intOf y).toNat)
  case atStart => exact ⟨0, ea, ec, by omega, rfl, HEN0.out, (by show PlS _ _ _ _ _ _ _ _ _; simpa [overC] using HP0.out)⟩
  case round =>
    clear HP0 HEN0
    obtain ⟨k, ea, ec, hk, rfl, HEN, HP⟩ := hrel
    by_cases hlt : k < C.length
    · obtain ⟨b, off, ea0, c0, c1, c2, c3, c4, c5, c6⟩ := chs_at (unhide HCC _ HP.out.keep) k hlt
      subst ea0
      have HST : Hid (E0 ++ overC (lackE lo hi gain) C (k + 1) = (E0 ++ overC (lackE lo hi gain) C k) ++ lackE lo hi gain k C[k]) := by show _ = _; rw [overC_step (lackE lo hi gain) C hlt]; simp only [List.append_assoc]
      have HEN2 : Hid ((E0 ++ overC (lackE lo hi gain) C k).length ≤ 100 + k) := by
        show _ ≤ _
        have h1 := overC_len (lackE_len lo hi gain) C k
        have h0 := HE0.out
        rw [List.length_append]; omega
      have HAM : Hid (0 ≤ C[k].lo ∧ C[k].lo ≤ 1125899906842624) := HLO.out k hlt
      have HEB := hide (endV_bound (sz := C[k].sz) (lo := lo) (hi := hi) (k := lo) (.inl rfl))
      have HED := hide (fun w1 => ends_impl C[k] lo hi w1)
      have HOW := hide (atI_own HID.out hlt)
      have HAE : Hid (lackE lo hi gain k C[k] = if C[k].lo < endV C[k].sz lo lo hi then [⟨(k : Int) + 1, 0, capV (endV C[k].sz lo lo hi - C[k].lo), -gain⟩] else []) := rfl
      obtain ⟨E1, hE1⟩ : ∃ E1, E1 = E0 ++ overC (lackE lo hi gain) C (k + 1) := ⟨_, rfl⟩
      have HE1 := hide hE1
      rw [← hE1] at HST
      clear hE1
      generalize E0 ++ overC (lackE lo hi gain) C k = E at *
      generalize lackE lo hi gain k C[k] = F at *
      generalize C[k] = x at *
      obtain ⟨xid, xsz, xlo, xre, xba, xpp, xsc⟩ := x
      dsimp only [Chn.v] at *
      generalize endV xsz lo lo hi = v1 at *
      generalize endV xsz hi lo hi = v2 at *
      have HA := hide (rowc7 wr (.int .i64 xid) (.int .i64 xsz) (.int .i64 xlo) (.int .i64 xre) (.int .i64 xba) (.int .i64 xpp) (.int .i64 xsc) 84)
      have HKA := hide (Keeps.alloc (Keeps.refl wr) (.cells #[.int .i64 xid, .int .i64 xsz, .int .i64 xlo, .int .i64 xre, .int .i64 xba, .int .i64 xpp, .int .i64 xsc] 84))
      go_upto_region 3 with fail
      generalize wr.heap.size = V at *
      generalize wr.alloc (.cells #[.int .i64 xid, .int .i64 xsz, .int .i64 xlo, .int .i64 xre, .int .i64 xba, .int .i64 xpp, .int .i64 xsc] 84) = W1 at *
      obtain ⟨d0, d1, d2, d3, d4, d5, d6⟩ := unhide HA W1 (Keeps.refl _)
      clear c0 c1 c2 c3 c4 c5 c6
      go_wp2_with fail
      refine (unhide HED W1).mono ?_
      rintro e W2 ⟨rfl, hk2⟩
      obtain ⟨d0, d1, d2, d3, d4, d5, d6⟩ := unhide HA W2 hk2
      have HP2 := hide ((HP.out.kept HKA.out).kept hk2)
      clear hk2 HP HKA HED HA
      by_cases hc : xlo < v1
      · rw [if_pos hc] at HAE
        have hw2 : IntKind.i64.wrap (v1 - xlo) = v1 - xlo := by rw [IntKind.wrap_i64]; have := HAM.out; have := HEB.out; omega
        have hw3 : IntKind.i64.wrap (-gain) = -gain := by rw [IntKind.wrap_i64]; have := HGB.out; omega
        have HLY := hide (lay_2 w W2 R G _ cc C ea ec E xid 0 (v1 - xlo) (-gain) HP2.out HCC.out hl (by have := HEN2.out; omega))
        rw [HOW.out] at HLY
        go_wp2_with fail
        refine (unhide HLY).mono ?_
        rintro e W3 ⟨rfl, ea', ec', hen', hp'⟩
        have HP3 := hide hp'
        have HEN3 := hide hen'
        clear hp' hen' d0 d1 d2 d3 d4 d5 d6
        go_wp2_with fail
        go_roundw
        case rel => exact ⟨k + 1, ea', ec', by omega, by go_num, HEN3.out, by rw [← HE1.out, HST.out, HAE.out]; exact HP3.out⟩
        case measure => simp [intOf]; omega
      · rw [if_neg hc] at HAE
        have HE : Hid (E1 = E) := by show _ = _; rw [HST.out, HAE.out, List.append_nil]
        go_wp2_with fail
        go_roundw
        case rel => exact ⟨k + 1, ea, ec, by omega, by go_num, HEN.out, by rw [← HE1.out, HE.out]; exact HP2.out⟩
        case measure => simp [intOf]; omega
    · have e : k = C.length := by omega
      subst e
      go_wp2_with fail
      go_end0
      exact ⟨rfl, ea, ec, HEN.out, HP.out⟩
set_option maxHeartbeats 4000000 in
theorem lprices_impl (w wr : World) (R G : Nat) (ca : Option Addr) (cc : Nat) (C : List Chn) (ea : Option Addr) (ec : Nat) (E0 : List Edg) (a : Option Addr) (cap : Nat) (L : List Prc) (h : PlS w wr R G 76 (.slice ca C.length cc) ea ec E0) (hen : ea = none → ec = 0) (hc : ∀ w', Keeps w w' → Cells w' ca (chs C)) (hl : C.length ≤ 20) (hE : E0.length ≤ 100) (hp : ∀ w', Keeps w w' → Cells w' a (pcs L)) (hL : L.length ≤ 20) :
    Calls Tryz.prog 35 #[.pointer (some ⟨G, 0, none⟩), .slice a L.length cap] wr fun e w' => e = .returned (.tuple #[]) ∧ ∃ ea' ec', (ea' = none → ec' = 0) ∧ PlS w w' R G 76 (.slice ca C.length cc) ea' ec' (E0 ++ L.map (priceE C)) := by
  have HP0 := hide h
  have HCC := hide hc
  have HPP := hide hp
  have HE0 := hide hE
  have HEN0 := hide hen
  clear h hc hE hp hen
  go_enter Tryz.func35, Tryz.ntmps35
  go_wp2_with fail
  go_loopw [8] (fun y wq => ∃ (k : Nat) (ea : Option Addr) (ec : Nat), k ≤ L.length ∧ y = .int .i64 (k : Int) ∧ Hid (ea = none → ec = 0) ∧ Hid (PlS w wq R G 76 (.slice ca C.length cc) ea ec (E0 ++ (L.take k).map (priceE C)))) (fun y _ => L.length - (intOf y).toNat)
  case atStart => exact ⟨0, ea, ec, by omega, rfl, HEN0.out, (by show PlS _ _ _ _ _ _ _ _ _; simpa using HP0.out)⟩
  case round =>
    clear HP0 HEN0
    obtain ⟨k, ea, ec, hk, rfl, HEN, HP⟩ := hrel
    by_cases hlt : k < L.length
    · obtain ⟨b, off, ea0, c0, c1, c2⟩ := pcs_at (unhide HPP _ HP.out.keep) k hlt
      subst ea0
      have HST : Hid (E0 ++ (L.take (k + 1)).map (priceE C) = (E0 ++ (L.take k).map (priceE C)) ++ [priceE C L[k]]) := by show _ = _; rw [List.take_add_one, List.getElem?_eq_getElem hlt, Option.toList_some, List.map_append, List.map_singleton, List.append_assoc]
      have HEN2 : Hid ((E0 ++ (L.take k).map (priceE C)).length ≤ 100 + k) := by
        show _ ≤ _
        have := HE0.out
        rw [List.length_append, List.length_map, List.length_take]
        omega
      have HPE : Hid (priceE C L[k] = ⟨atI C L[k].fr + 1, atI C L[k].to + 1, 1000000000, L[k].pp⟩) := rfl
      obtain ⟨E1, hE1⟩ : ∃ E1, E1 = E0 ++ (L.take (k + 1)).map (priceE C) := ⟨_, rfl⟩
      have HE1 := hide hE1
      rw [← hE1, HPE.out] at HST
      clear hE1 HPE
      generalize E0 ++ (L.take k).map (priceE C) = E at *
      generalize L[k] = x at *
      obtain ⟨xfr, xto, xpp⟩ := x
      dsimp only [Prc.v] at *
      have HA := hide (rowc3 wr (.int .i64 xfr) (.int .i64 xto) (.int .i64 xpp) 69)
      have HKA := hide (Keeps.alloc (Keeps.refl wr) (.cells #[.int .i64 xfr, .int .i64 xto, .int .i64 xpp] 69))
      go_upto_region 3 with fail
      generalize wr.heap.size = V at *
      generalize wr.alloc (.cells #[.int .i64 xfr, .int .i64 xto, .int .i64 xpp] 69) = W2 at *
      obtain ⟨d0, d1, d2⟩ := unhide HA W2 (Keeps.refl _)
      have HP2 := hide (HP.out.kept HKA.out)
      have HLY := hide (lay_3 w W2 R G ca cc C ea ec E xfr xto 1000000000 xpp HP2.out HCC.out hl (by have := HEN2.out; omega))
      rw [show capV 1000000000 = 1000000000 by decide] at HLY
      clear c0 c1 c2 HP HKA HA
      go_wp2_with fail
      refine (unhide HLY).mono ?_
      rintro e W3 ⟨rfl, ea', ec', hen', hp'⟩
      have HP3 := hide hp'
      have HEN3 := hide hen'
      clear hp' hen' d0 d1 d2
      go_wp2_with fail
      go_roundw
      case rel => exact ⟨k + 1, ea', ec', by omega, by go_num, HEN3.out, by rw [← HE1.out, HST.out]; exact HP3.out⟩
      case measure => simp [intOf]; omega
    · have e : k = L.length := by omega
      subst e
      go_wp2_with fail
      go_end0
      refine ⟨rfl, ea, ec, HEN.out, ?_⟩
      have := HP.out
      rwa [List.take_length] at this
end Go.Proofs.YtjdbedlgkngdkaaGreatDoor
namespace Go.Proofs.YtjdbedlgkngdkaaGreatDoor
open Go.RowKit Go.Deep
set_option linter.unusedVariables false
set_option linter.unusedSimpArgs false
set_option maxRecDepth 10000

set_option maxHeartbeats 8000000 in
theorem plan_impl (B : Bo) (lo hi gain : Int) (a : Option Addr) (cap : Nat) (L : List Prc) (w : World) (hm : Mem w B.segs) (hl : B.len) (hp : Cells w a (pcs L)) (hlp : L.length ≤ 1048576) (hcp : L.length ≤ cap) :
    Calls Tryz.prog 9 #[B.v, .int .i64 lo, .int .i64 hi, .int .i64 gain, .slice a L.length cap] w fun e w' => ∃ ea ec, e = .returned (.tuple #[.agg #[.int .i64 (planN B.d lo hi gain L), .slice ea (planV B.d lo hi gain L).length ec], .bool (planB B.d lo hi gain L)]) ∧ (ea = none → ec = 0) ∧ Born w w' [(ea, egs (planV B.d lo hi gain L))] ∧ Keeps w w' := by
  have HPO := hide (fun w' (hk : Keeps w w') => prices_impl B a cap L w' (hm.kept hk) hl (hp.kept hk) hlp hcp)
  have HPP := hide (fun w' (hk : Keeps w w') => hp.kept hk)
  have HCC := hide (fun w' (hk : Keeps w w') => Bo.memC (hm.kept hk))
  obtain ⟨tk, nx, wa, ca, cc, C, ha, hc, Hs, ra, rc, R⟩ := B
  have HBA := hide (book_box ⟨tk, nx, wa, ca, cc, C, ha, hc, Hs, ra, rc, R⟩ w 27)
  dsimp only [Bo.v] at *
  clear hm hl hp
  obtain ⟨bd, hbd⟩ : ∃ bd, bd = Bo.d ⟨tk, nx, wa, ca, cc, C, ha, hc, Hs, ra, rc, R⟩ := ⟨_, rfl⟩
  have HBD : Hid (bd.C = C) := by show _ = _; rw [hbd]; rfl
  rw [← hbd] at HPO ⊢
  clear hbd
  have s1 : (w.alloc (.cells #[.int .i64 tk, .int .i64 nx, .int .i64 wa, .slice ca C.length cc, .slice ha Hs.length hc, .slice ra R.length rc] 27)).heap.size = w.heap.size + 1 := by simp
  have HK1 := hide (Keeps.alloc (Keeps.refl w) (.cells #[.int .i64 tk, .int .i64 nx, .int .i64 wa, .slice ca C.length cc, .slice ha Hs.length hc, .slice ra R.length rc] 27))
  have HK2 := hide (Keeps.alloc (Keeps.refl (w.alloc (.cells #[.int .i64 tk, .int .i64 nx, .int .i64 wa, .slice ca C.length cc, .slice ha Hs.length hc, .slice ra R.length rc] 27))) (.cells #[.int .i64 0, .slice none 0 0] 36))
  have HR := hide (World.rowIs_alloc (w.alloc (.cells #[.int .i64 tk, .int .i64 nx, .int .i64 wa, .slice ca C.length cc, .slice ha Hs.length hc, .slice ra R.length rc] 27)) #[.int .i64 0, .slice none 0 0] 36 (row2 (.int .i64 0) (.slice none 0 0)) (row2_at _ _))
  rw [s1] at HR
  go_enter Tryz.func9, Tryz.ntmps9
  go_upto_region 1 with fail
  have HS00 := hide s1
  clear s1
  generalize w.alloc (.cells #[.int .i64 tk, .int .i64 nx, .int .i64 wa, .slice ca C.length cc, .slice ha Hs.length hc, .slice ra R.length rc] 27) = W00 at *
  generalize W00.alloc (.cells #[.int .i64 0, .slice none 0 0] 36) = W0 at *
  have HKA := hide (HK1.out.trans HK2.out)
  obtain ⟨q0, q1, q2, q3, q4, q5⟩ := HBA.out.kept HK2.out
  have HBW := hide (fun w' (hk : Keeps W00 w') => HBA.out.kept hk)
  have HKX := hide HK1.out
  have HKV := hide HK2.out
  dsimp only at q0 q1 q2 q3 q4 q5
  clear HK1 HK2 HBA
  cases h1 : pricesB bd L
  · have HPN := hide (plan_no (B := bd) (lo := lo) (hi := hi) (gain := gain) (L := L) (by simp [planB, h1]))
    go_wp2_with fail
    refine (unhide HPO _ HKA.out).mono ?_
    rintro e W1 ⟨rfl, hk⟩
    rw [h1]
    have HKW := hide (HKA.out.trans hk)
    have HRW := hide (hk.rowK HR.out)
    clear hk q0 q1 q2 q3 q4 q5
    have r0 := HRW.out.cell (i := 0) (by decide)
    have r1 := HRW.out.cell (i := 1) (by decide)
    have f0 := HRW.out.frozen 0
    have f1 := HRW.out.frozen 1
    have hlt := HRW.out.lt
    go_wp2_with fail
    have hr := (HRW.out.set 0 (.int .i64 0)).set 1 (.slice none 0 0)
    have p0 := hr.cell (i := 0) (by decide)
    have p1 := hr.cell (i := 1) (by decide)
    simp only [if_true, if_false, show ¬ (0 : Nat) = 1 by decide] at p0 p1
    have hkF : Keeps w ((W1.setCell ⟨w.heap.size + 1, 0, none⟩ (.int .i64 0)).setCell ⟨w.heap.size + 1, 1, none⟩ (.slice none 0 0)) := ((HKW.out).setCell (by dsimp only; omega) _).setCell (by dsimp only; omega) _
    have HFIN : Hid (∃ ea ec, Ending.returned (.tuple #[.agg #[.int .i64 0, .slice none 0 0], .bool false]) = .returned (.tuple #[.agg #[.int .i64 (planN bd lo hi gain L), .slice ea (planV bd lo hi gain L).length ec], .bool (planB bd lo hi gain L)]) ∧ (ea = none → ec = 0) ∧ Born w ((W1.setCell ⟨w.heap.size + 1, 0, none⟩ (.int .i64 0)).setCell ⟨w.heap.size + 1, 1, none⟩ (.slice none 0 0)) [(ea, egs (planV bd lo hi gain L))] ∧ Keeps w ((W1.setCell ⟨w.heap.size + 1, 0, none⟩ (.int .i64 0)).setCell ⟨w.heap.size + 1, 1, none⟩ (.slice none 0 0))) := by
      obtain ⟨e1, e2, e3⟩ := HPN.out
      refine ⟨none, 0, ?_, fun _ => rfl, ?_, hkF⟩
      · rw [e1, e2, e3]; rfl
      · rw [e2]
        exact ⟨⟨fun s hs => by rw [List.mem_singleton.1 hs]; exact Cells.nil _ _, by simp [fp, fpS, egs], fun b hb => absurd hb (by simp [fp, fpS, egs])⟩, fun b hb => absurd hb (by simp [fp, fpS, egs])⟩
    clear hr r0 r1 f0 f1 hlt
    refine bodyPost_ret (v := .tuple #[.agg #[.int .i64 0, .slice none 0 0], .bool false]) ?_ rfl HFIN.out
    clear hkF HFIN
    revert p0 p1
    generalize World.setCell (World.setCell _ _ _) _ _ = WW
    intro p0 p1
    simp [results, Tryz.results9, go_sem, p0, p1]
  go_wp2_with fail
  refine (unhide HPO _ HKA.out).mono ?_
  rintro e W1 ⟨rfl, hk⟩
  rw [h1]
  have HKW := hide (HKA.out.trans hk)
  have HRW := hide (hk.rowK HR.out)
  replace HKV := hide (HKV.out.trans hk)
  clear hk q0 q1 q2 q3 q4 q5 HR HKA HPO
  go_wp2_with fail
  refine (band_impl lo hi _).mono ?_
  rintro e W2 ⟨rfl, hk⟩
  replace HKW := hide (HKW.out.trans hk)
  replace HRW := hide (hk.rowK HRW.out)
  replace HKV := hide (HKV.out.trans hk)
  clear hk
  cases h2 : bandB lo hi
  · have HPN := hide (plan_no (B := bd) (lo := lo) (hi := hi) (gain := gain) (L := L) (by simp [planB, h2]))
    have r0 := HRW.out.cell (i := 0) (by decide)
    have r1 := HRW.out.cell (i := 1) (by decide)
    have f0 := HRW.out.frozen 0
    have f1 := HRW.out.frozen 1
    have hlt := HRW.out.lt
    go_wp2_with fail
    have hr := (HRW.out.set 0 (.int .i64 0)).set 1 (.slice none 0 0)
    have p0 := hr.cell (i := 0) (by decide)
    have p1 := hr.cell (i := 1) (by decide)
    simp only [if_true, if_false, show ¬ (0 : Nat) = 1 by decide] at p0 p1
    have hkF : Keeps w ((W2.setCell ⟨w.heap.size + 1, 0, none⟩ (.int .i64 0)).setCell ⟨w.heap.size + 1, 1, none⟩ (.slice none 0 0)) := ((HKW.out).setCell (by dsimp only; omega) _).setCell (by dsimp only; omega) _
    have HFIN : Hid (∃ ea ec, Ending.returned (.tuple #[.agg #[.int .i64 0, .slice none 0 0], .bool false]) = .returned (.tuple #[.agg #[.int .i64 (planN bd lo hi gain L), .slice ea (planV bd lo hi gain L).length ec], .bool (planB bd lo hi gain L)]) ∧ (ea = none → ec = 0) ∧ Born w ((W2.setCell ⟨w.heap.size + 1, 0, none⟩ (.int .i64 0)).setCell ⟨w.heap.size + 1, 1, none⟩ (.slice none 0 0)) [(ea, egs (planV bd lo hi gain L))] ∧ Keeps w ((W2.setCell ⟨w.heap.size + 1, 0, none⟩ (.int .i64 0)).setCell ⟨w.heap.size + 1, 1, none⟩ (.slice none 0 0))) := by
      obtain ⟨e1, e2, e3⟩ := HPN.out
      refine ⟨none, 0, ?_, fun _ => rfl, ?_, hkF⟩
      · rw [e1, e2, e3]; rfl
      · rw [e2]
        exact ⟨⟨fun s hs => by rw [List.mem_singleton.1 hs]; exact Cells.nil _ _, by simp [fp, fpS, egs], fun b hb => absurd hb (by simp [fp, fpS, egs])⟩, fun b hb => absurd hb (by simp [fp, fpS, egs])⟩
    clear hr r0 r1 f0 f1 hlt
    refine bodyPost_ret (v := .tuple #[.agg #[.int .i64 0, .slice none 0 0], .bool false]) ?_ rfl HFIN.out
    clear hkF HFIN
    revert p0 p1
    generalize World.setCell (World.setCell _ _ _) _ _ = WW
    intro p0 p1
    simp [results, Tryz.results9, go_sem, p0, p1]
  go_wp2_with fail
  refine (ppm_impl gain _).mono ?_
  rintro e W3 ⟨rfl, hk⟩
  replace HKW := hide (HKW.out.trans hk)
  replace HRW := hide (hk.rowK HRW.out)
  replace HKV := hide (HKV.out.trans hk)
  clear hk
  cases h3 : ppmB gain
  · have HPN := hide (plan_no (B := bd) (lo := lo) (hi := hi) (gain := gain) (L := L) (by simp [planB, h3]))
    have r0 := HRW.out.cell (i := 0) (by decide)
    have r1 := HRW.out.cell (i := 1) (by decide)
    have f0 := HRW.out.frozen 0
    have f1 := HRW.out.frozen 1
    have hlt := HRW.out.lt
    go_wp2_with fail
    have hr := (HRW.out.set 0 (.int .i64 0)).set 1 (.slice none 0 0)
    have p0 := hr.cell (i := 0) (by decide)
    have p1 := hr.cell (i := 1) (by decide)
    simp only [if_true, if_false, show ¬ (0 : Nat) = 1 by decide] at p0 p1
    have hkF : Keeps w ((W3.setCell ⟨w.heap.size + 1, 0, none⟩ (.int .i64 0)).setCell ⟨w.heap.size + 1, 1, none⟩ (.slice none 0 0)) := ((HKW.out).setCell (by dsimp only; omega) _).setCell (by dsimp only; omega) _
    have HFIN : Hid (∃ ea ec, Ending.returned (.tuple #[.agg #[.int .i64 0, .slice none 0 0], .bool false]) = .returned (.tuple #[.agg #[.int .i64 (planN bd lo hi gain L), .slice ea (planV bd lo hi gain L).length ec], .bool (planB bd lo hi gain L)]) ∧ (ea = none → ec = 0) ∧ Born w ((W3.setCell ⟨w.heap.size + 1, 0, none⟩ (.int .i64 0)).setCell ⟨w.heap.size + 1, 1, none⟩ (.slice none 0 0)) [(ea, egs (planV bd lo hi gain L))] ∧ Keeps w ((W3.setCell ⟨w.heap.size + 1, 0, none⟩ (.int .i64 0)).setCell ⟨w.heap.size + 1, 1, none⟩ (.slice none 0 0))) := by
      obtain ⟨e1, e2, e3⟩ := HPN.out
      refine ⟨none, 0, ?_, fun _ => rfl, ?_, hkF⟩
      · rw [e1, e2, e3]; rfl
      · rw [e2]
        exact ⟨⟨fun s hs => by rw [List.mem_singleton.1 hs]; exact Cells.nil _ _, by simp [fp, fpS, egs], fun b hb => absurd hb (by simp [fp, fpS, egs])⟩, fun b hb => absurd hb (by simp [fp, fpS, egs])⟩
    clear hr r0 r1 f0 f1 hlt
    refine bodyPost_ret (v := .tuple #[.agg #[.int .i64 0, .slice none 0 0], .bool false]) ?_ rfl HFIN.out
    clear hkF HFIN
    revert p0 p1
    generalize World.setCell (World.setCell _ _ _) _ _ = WW
    intro p0 p1
    simp [results, Tryz.results9, go_sem, p0, p1]
  have HPB : Hid (planB bd lo hi gain L = true) := by show _ = _; simp [planB, h1, h2, h3]
  obtain ⟨q0, q1, q2, q3, q4, q5⟩ := unhide HBW _ HKV.out
  dsimp only at q0 q1 q2 q3 q4 q5
  have HBK := hide (prices_true (B := bd) (L := L) h1)
  have HGB : Hid (0 ≤ gain ∧ gain ≤ 1000000) := by simp [ppmB] at h3; exact h3
  have HL20 : Hid (L.length ≤ 20) := HBK.out.2.1
  have HLO : Hid (∀ k (hk : k < C.length), 0 ≤ C[k].lo ∧ C[k].lo ≤ 1125899906842624) := by
    have hb := book_lo HBK.out.1
    rw [HBD.out] at hb
    exact hb
  have HID : Hid (idsB C = true) := by
    have hb := HBK.out.1
    simp only [bookB, Bool.and_eq_true] at hb
    rw [← HBD.out]
    exact hb.1.2
  have hc20 : C.length ≤ 20 := by
    have hb := HBK.out.1
    simp only [bookB, headB, Bool.and_eq_true, decide_eq_true_eq] at hb
    have := HBD.out
    rw [← this]
    omega
  have HGA := hide (World.rowIs_alloc W3 #[.slice ca C.length cc, .slice none 0 0] 76 (row2 (.slice ca C.length cc) (.slice none 0 0)) (row2_at _ _))
  have HGK := hide (Keeps.alloc (Keeps.refl W3) (.cells #[.slice ca C.length cc, .slice none 0 0] 76))
  have HRL := hide HRW.out.lt
  go_upto_region 4 with fail
  clear q0 q1 q2 q3 q4 q5 h1 h2 h3
  generalize hG : W3.heap.size = G at *
  have HP0 : Hid (PlS W00 (W3.alloc (.cells #[.slice ca C.length cc, .slice none 0 0] 76)) (w.heap.size + 1) G 76 (.slice ca C.length cc) none 0 []) :=
    ⟨HKV.out.trans HGK.out, HGA.out, ⟨_, HGK.out.rowK HRW.out⟩, ⟨by simp [egs], .inl ⟨rfl, rfl⟩⟩, by have := HS00.out; omega, by have := HRL.out; omega⟩
  generalize W3.alloc (.cells #[.slice ca C.length cc, .slice none 0 0] 76) = W4 at *
  clear HGA HGK HRW HKW HRL hG HKV
  have HCX := hide (fun w' (hk : Keeps W00 w') => unhide HCC w' (HKX.out.trans hk))
  have HPX := hide (fun w' (hk : Keeps W00 w') => unhide HPP w' (HKX.out.trans hk))
  go_wp2_with fail
  refine (above_impl W00 W4 (w.heap.size + 1) G ca cc C none 0 [] lo hi HP0.out (fun _ => rfl) HCX.out hc20 (by simp) HID.out HLO.out).mono ?_
  rintro e W5 ⟨rfl, ea1, ec1, hen1, hp1⟩
  rw [List.nil_append] at hp1
  have HP1 := hide hp1
  have HEN1 := hide hen1
  have HL1 := hide (overC_len (aboveE_len lo hi) C C.length)
  clear hp1 hen1 HP0
  go_wp2_with fail
  refine (lack_impl W00 W5 (w.heap.size + 1) G ca cc C ea1 ec1 _ lo hi gain HP1.out HEN1.out HCX.out hc20 (by have := HL1.out; omega) HID.out HLO.out HGB.out).mono ?_
  rintro e W6 ⟨rfl, ea2, ec2, hen2, hp2⟩
  have HP2 := hide hp2
  have HEN2 := hide hen2
  have HL2 := hide (overC_len (lackE_len lo hi gain) C C.length)
  clear hp2 hen2 HP1
  go_wp2_with fail
  refine (lprices_impl W00 W6 (w.heap.size + 1) G ca cc C ea2 ec2 _ a cap L HP2.out HEN2.out HCX.out hc20 (by have := HL1.out; have := HL2.out; rw [List.length_append]; omega) HPX.out HL20.out).mono ?_
  rintro e wr ⟨rfl, ea, ec, hen3, hp3⟩
  have HP := hide hp3
  have HEN := hide hen3
  clear hp3 hen3 HP2
  have HFE : Hid (planV bd lo hi gain L = overC (aboveE lo hi) C C.length ++ overC (lackE lo hi gain) C C.length ++ L.map (priceE C)) := by
    show _ = _
    rw [(plan_yes HPB.out).2, HBD.out]
    rfl
  have HFN : Hid (planN bd lo hi gain L = (C.length : Int) + 1) := by
    show _ = _
    rw [(plan_yes HPB.out).1, HBD.out]
  generalize overC (aboveE lo hi) C C.length ++ overC (lackE lo hi gain) C C.length ++ L.map (priceE C) = E at *
  obtain ⟨fr, hfr⟩ := HP.out.rs
  have HRW := hide hfr
  have HKW := hide (HKX.out.trans HP.out.keep)
  have g0 := HP.out.cell0
  have g1 := HP.out.cell1
  have hR := HP.out.lt
  clear hfr
  obtain ⟨q0, q1, q2, q3, q4, q5⟩ := unhide HBW _ HP.out.keep
  dsimp only at q0 q1 q2 q3 q4 q5
  have hwc : IntKind.i64.wrap ((C.length : Int) + 1) = (C.length : Int) + 1 := by rw [IntKind.wrap_i64]; omega
  have r0 := HRW.out.cell (i := 0) (by decide)
  have r1 := HRW.out.cell (i := 1) (by decide)
  have f0 := HRW.out.frozen 0
  have f1 := HRW.out.frozen 1
  have hlt := HRW.out.lt
  go_wp2_with fail
  have hr := (HRW.out.set 0 (.int .i64 ((C.length : Int) + 1))).set 1 (.slice ea E.length ec)
  have p0 := hr.cell (i := 0) (by decide)
  have p1 := hr.cell (i := 1) (by decide)
  simp only [if_true, if_false, show ¬ (0 : Nat) = 1 by decide] at p0 p1
  have hkF : Keeps w ((wr.setCell ⟨w.heap.size + 1, 0, none⟩ (.int .i64 ((C.length : Int) + 1))).setCell ⟨w.heap.size + 1, 1, none⟩ (.slice ea E.length ec)) := ((HKW.out).setCell (by dsimp only; omega) _).setCell (by dsimp only; omega) _
  have ht : Turn [w.heap.size + 1] wr ((wr.setCell ⟨w.heap.size + 1, 0, none⟩ (.int .i64 ((C.length : Int) + 1))).setCell ⟨w.heap.size + 1, 1, none⟩ (.slice ea E.length ec)) := (Turn.set (by simp) _).trans' (Turn.set (by simp) _)
  have ho := ownsE_turn HP.out.ow (fun j hj => ht.block j (HP.out.ow.lt j hj).2 (by have h1 := (HP.out.ow.lt j hj).1; simp; omega))
  have HFIN : Hid (∃ ea' ec', Ending.returned (.tuple #[.agg #[.int .i64 ((C.length : Int) + 1), .slice ea E.length ec], .bool true]) = .returned (.tuple #[.agg #[.int .i64 (planN bd lo hi gain L), .slice ea' (planV bd lo hi gain L).length ec'], .bool (planB bd lo hi gain L)]) ∧ (ea' = none → ec' = 0) ∧ Born w ((wr.setCell ⟨w.heap.size + 1, 0, none⟩ (.int .i64 ((C.length : Int) + 1))).setCell ⟨w.heap.size + 1, 1, none⟩ (.slice ea E.length ec)) [(ea', egs (planV bd lo hi gain L))] ∧ Keeps w ((wr.setCell ⟨w.heap.size + 1, 0, none⟩ (.int .i64 ((C.length : Int) + 1))).setCell ⟨w.heap.size + 1, 1, none⟩ (.slice ea E.length ec))) := by
    refine ⟨ea, ec, ?_, HEN.out, ?_, hkF⟩
    · rw [HFN.out, HFE.out, HPB.out]
    · rw [HFE.out]
      exact bornE ho (by omega)
  clear ht ho g0 g1 q0 q1 q2 q3 q4 q5
  clear hr r0 r1 f0 f1 hlt
  refine bodyPost_ret (v := .tuple #[.agg #[.int .i64 ((C.length : Int) + 1), .slice ea E.length ec], .bool true]) ?_ rfl HFIN.out
  clear hkF HFIN
  revert p0 p1
  generalize World.setCell (World.setCell _ _ _) _ _ = WW
  intro p0 p1
  simp [results, Tryz.results9, go_sem, p0, p1]
end Go.Proofs.YtjdbedlgkngdkaaGreatDoor
