/- Texts of the verifier, joined: BEF, BEG, BEN. -/
import Derived.Test.YtpkkdkdecajekaaGreatDoorPFnEvent11
import Derived.Tactics2
import Derived.Defers
import Derived.Recover
import Derived.Laws.Pointers
import Derived.Test.YtpkkdkdecajekaaGreatDoorPFnEvent7
namespace Go.Proofs.YtpkkdkdecajekaaGreatDoor
open Go.RowKit Go.Deep
set_option linter.unusedVariables false
set_option linter.unusedSimpArgs false
set_option maxRecDepth 10000
set_option maxHeartbeats 2000000 in
theorem catchE_panic (R Q : Nat) (hRQ : R ≠ Q) (x0 x1 x2 x3 x4 x5 x6 y : Value) (u : TypeId) (pv : Value) (older : List PanicEntry) (w : World) (hR : Own w [(some ⟨R, 0, none⟩, [x0, x1, x2, x3, x4, x5, x6])]) (hc : w.cell? ⟨Q, 0, none⟩ = some y) (hz : w.frozen? ⟨Q, 0, none⟩ = false) :
    CallsD Tryz.prog 20 #[.pointer (some ⟨R, 0, none⟩), .pointer (some ⟨Q, 0, none⟩)] (.panicking ({ v := .iface u pv, recovered := false } :: older)) w fun e u' w' =>
      e = .returned (.tuple #[]) ∧ u' = .panicking ({ v := .iface u pv, recovered := true } :: older) ∧ w' = (((((((w.setCell ⟨R, 0, none⟩ (.int .i64 0)).setCell ⟨R, 1, none⟩ (.int .i64 0)).setCell ⟨R, 2, none⟩ (.int .i64 0)).setCell ⟨R, 3, none⟩ (.int .i64 0)).setCell ⟨R, 4, none⟩ (.int .i64 0)).setCell ⟨R, 5, none⟩ (.int .i64 0)).setCell ⟨R, 6, none⟩ (.bool false)).setCell ⟨Q, 0, none⟩ (.bool false) := by
  have c0 := cell_at hR.mem 0 (by simp)
  have c1 := cell_at hR.mem 1 (by simp)
  have c2 := cell_at hR.mem 2 (by simp)
  have c3 := cell_at hR.mem 3 (by simp)
  have c4 := cell_at hR.mem 4 (by simp)
  have c5 := cell_at hR.mem 5 (by simp)
  have c6 := cell_at hR.mem 6 (by simp)
  simp only [Nat.zero_add, List.getElem_cons_zero, List.getElem_cons_succ] at c0 c1 c2 c3 c4 c5 c6
  have fR : ∀ i, w.frozen? ⟨R, i, none⟩ = false := hR.free R (by rw [fp_one, fpS_some (by simp)]; simp)
  refine callsD_of_wpS Tryz.func20 rfl fun c₀ cs hu => ?_
  apply wpS_seq
  apply wpS_region
  simp [wpOpsS, go_sem, recoverD, hu, Tryz.ntmps20, Exit.thenS]
  refine wpS_cond (t := true) (by simp [Act.eval, Array.replicate]) ?_
  simp only [if_true]
  apply wpS_region
  simp [wpOpsS, go_sem, c0, c1, c2, c3, c4, c5, c6, fR, hc, hz, hRQ, Ne.symm hRQ, bodyPostS, results, Tryz.results20]
theorem catchE_idle (p q : Addr) (w : World) :
    CallsD Tryz.prog 20 #[.pointer (some p), .pointer (some q)] .returning w fun e u' w' => e = .returned (.tuple #[]) ∧ u' = .returning ∧ w' = w := by
  refine callsD_of_wpS Tryz.func20 rfl fun c₀ cs hu => ?_
  apply wpS_seq
  apply wpS_region
  simp [wpOpsS, go_sem, recoverD, hu, Tryz.ntmps20, Exit.thenS]
  refine wpS_cond (t := false) (by simp [Act.eval, Array.replicate]) ?_
  simp only [Bool.false_eq_true, if_false]
  refine wpS_of_wp (wp_skip ?_)
  cases c₀
  simp_all [bodyPostS, results, Tryz.results20]
end Go.Proofs.YtpkkdkdecajekaaGreatDoor
namespace Go.Proofs.YtpkkdkdecajekaaGreatDoor
open Go.RowKit Go.Deep
set_option linter.unusedVariables false
set_option linter.unusedSimpArgs false
set_option maxRecDepth 10000
theorem event_no (B b off : Nat) (L : List UInt8) (cap : Nat) (w : World) (u : TypeId) (pv : Value) (hv : w.cell? ⟨0, 0, none⟩ = some (.iface u pv)) (hgB : 0 ≠ B) (hr : Rd w B (some ⟨b, off, none⟩) L cap (0 : Nat)) (hb : L.length = 22 → b ≠ B ∧ b < w.heap.size) (hBl : B < w.heap.size) (hc : Cells w (some ⟨b, off, none⟩) (bys L)) (hl : L.length ≤ 16777216) (hcap : L.length ≤ cap) (hcm : cap ≤ 9223372036854775807) (hB : ebB L = false) :
    Calls Tryz.prog 21 #[.pointer (some ⟨B, 0, none⟩)] w fun e w' => e = .panicked [{ v := .iface u pv, recovered := false }] ∧ Turn [B] w w' := by
  by_cases h22 : L.length = 22
  · obtain ⟨h1, h2⟩ := hb h22
    by_cases hz : numL (cut L 0 1) = 69
    · by_cases hq : numL (cut L 21 1) ≤ 1
      · refine event_bad B b off L cap w u pv hv hgB hr h1 hBl h2 hc hcap hcm h22 (numL (cut L 0 1)) (numL (cut L 1 1)) (numL (cut L 2 3)) (numL (cut L 5 1)) (numL (cut L 6 1)) (numL (cut L 7 7)) (numL (cut L 14 7)) (numL (cut L 21 1)) rfl rfl rfl rfl rfl rfl rfl rfl hz hq ?_
        unfold ebB at hB
        rw [decide_eq_true h22, decide_eq_true hz, decide_eq_true hq] at hB
        simpa using hB
      · exact event_last B b off L cap w u pv hv hgB hr h1 hBl h2 hc hcap hcm h22 (numL (cut L 0 1)) (numL (cut L 1 1)) (numL (cut L 2 3)) (numL (cut L 5 1)) (numL (cut L 6 1)) (numL (cut L 7 7)) (numL (cut L 14 7)) (numL (cut L 21 1)) rfl rfl rfl rfl rfl rfl rfl rfl hz hq
    · exact event_first B b off L cap w u pv hv hgB hr h1 hBl h2 hc hcap hcm h22 (numL (cut L 0 1)) (numL (cut L 1 1)) (numL (cut L 2 3)) (numL (cut L 5 1)) (numL (cut L 6 1)) (numL (cut L 7 7)) (numL (cut L 14 7)) (numL (cut L 21 1)) rfl rfl rfl rfl rfl rfl rfl rfl hz
  · exact event_len B _ L.length cap w u pv hv hr.data hl h22
theorem event_ok (B b off : Nat) (L : List UInt8) (cap : Nat) (w : World) (u : TypeId) (pv : Value) (hv : w.cell? ⟨0, 0, none⟩ = some (.iface u pv)) (hgB : 0 ≠ B) (hr : Rd w B (some ⟨b, off, none⟩) L cap (0 : Nat)) (hb : L.length = 22 → b ≠ B ∧ b < w.heap.size) (hBl : B < w.heap.size) (hc : Cells w (some ⟨b, off, none⟩) (bys L)) (hl : L.length ≤ 16777216) (hcap : L.length ≤ cap) (hcm : cap ≤ 9223372036854775807) (hB : ebB L = true) :
    Calls Tryz.prog 21 #[.pointer (some ⟨B, 0, none⟩)] w fun e w' => e = .returned (evV (numL (cut L 1 1) : Nat) (numL (cut L 2 3) : Nat) (numL (cut L 5 1) : Nat) (numL (cut L 6 1) : Nat) (numL (cut L 7 7) : Nat) (numL (cut L 14 7) : Nat) (decide (numL (cut L 21 1) = 1))) ∧ Turn [B] w w' := by
  unfold ebB at hB
  simp only [Bool.and_eq_true, decide_eq_true_eq] at hB
  obtain ⟨⟨⟨h22, hz⟩, hq⟩, hev⟩ := hB
  obtain ⟨h1, h2⟩ := hb h22
  exact event_yes B b off L cap w u pv hv hgB hr h1 hBl h2 hc hcap hcm h22 (numL (cut L 0 1)) (numL (cut L 1 1)) (numL (cut L 2 3)) (numL (cut L 5 1)) (numL (cut L 6 1)) (numL (cut L 7 7)) (numL (cut L 14 7)) (numL (cut L 21 1)) rfl rfl rfl rfl rfl rfl rfl rfl hz hq hev
/-- The world where BodyEvent calls event. -/
abbrev threeE (w : World) (ad : Option Addr) (l cap : Nat) : World := ((w.alloc (Obj.cells #[.int .i64 0, .int .i64 0, .int .i64 0, .int .i64 0, .int .i64 0, .int .i64 0, .bool false] 24)).alloc (Obj.cells #[Value.bool false] 4)).alloc (Obj.cells #[.slice ad l cap, .int .i64 0] 48)
theorem threeE_keeps (w : World) (ad : Option Addr) (l cap : Nat) : Keeps w (threeE w ad l cap) := (((Keeps.refl w).alloc _).alloc _).alloc _
theorem threeE_rd (w : World) (ad : Option Addr) (L : List UInt8) (cap : Nat) : Rd (threeE w ad L.length cap) (w.heap.size + 1 + 1) ad L cap ((0 : Nat) : Int) :=
  ⟨by rw [World.cell?_alloc_at _ _ _ _ (by simp)]; rfl, by rw [World.cell?_alloc_at _ _ _ _ (by simp)]; rfl, by rw [World.frozen?_alloc_at _ _ _ _ (by simp)]⟩
theorem threeE_own (w : World) (ad : Option Addr) (l cap : Nat) : Own (threeE w ad l cap) [(some ⟨w.heap.size, 0, none⟩, [.int .i64 0, .int .i64 0, .int .i64 0, .int .i64 0, .int .i64 0, .int .i64 0, .bool false])] :=
  (((born_alloc w #[.int .i64 0, .int .i64 0, .int .i64 0, .int .i64 0, .int .i64 0, .int .i64 0, .bool false] 24).toOwn.kept (Keeps.alloc (Keeps.refl _) _)).kept (Keeps.alloc (Keeps.refl _) _))
theorem threeE_b (w : World) (ad : Option Addr) (l cap : Nat) : (threeE w ad l cap).cell? ⟨w.heap.size + 1, 0, none⟩ = some (.bool false) := by
  rw [World.cell?_alloc_past _ _ _ (by simp), World.cell?_alloc_at _ _ _ _ (by simp)]; rfl
theorem threeE_zb (w : World) (ad : Option Addr) (l cap : Nat) : (threeE w ad l cap).frozen? ⟨w.heap.size + 1, 0, none⟩ = false := by
  rw [World.frozen?_alloc_past _ _ _ (by simp), World.frozen?_alloc_at _ _ _ _ (by simp)]
theorem own_seven {w : World} {R : Nat} {x0 x1 x2 x3 x4 x5 x6 : Value} (h : Own w [(some ⟨R, 0, none⟩, [x0, x1, x2, x3, x4, x5, x6])]) (y0 y1 y2 y3 y4 y5 y6 : Value) :
    Own (((((((w.setCell ⟨R, 0, none⟩ (y0)).setCell ⟨R, 1, none⟩ (y1)).setCell ⟨R, 2, none⟩ (y2)).setCell ⟨R, 3, none⟩ (y3)).setCell ⟨R, 4, none⟩ (y4)).setCell ⟨R, 5, none⟩ (y5)).setCell ⟨R, 6, none⟩ (y6)) [(some ⟨R, 0, none⟩, [y0, y1, y2, y3, y4, y5, y6])] := by
  have h := own_set h 0 (by simp) y0
  have h := own_set h 1 (by simp) y1
  have h := own_set h 2 (by simp) y2
  have h := own_set h 3 (by simp) y3
  have h := own_set h 4 (by simp) y4
  have h := own_set h 5 (by simp) y5
  exact own_set h 6 (by simp) y6
theorem keeps_seven {W w : World} {R : Nat} (h : Keeps W w) (hR : W.heap.size ≤ R) (y0 y1 y2 y3 y4 y5 y6 : Value) : Keeps W (((((((w.setCell ⟨R, 0, none⟩ (y0)).setCell ⟨R, 1, none⟩ (y1)).setCell ⟨R, 2, none⟩ (y2)).setCell ⟨R, 3, none⟩ (y3)).setCell ⟨R, 4, none⟩ (y4)).setCell ⟨R, 5, none⟩ (y5)).setCell ⟨R, 6, none⟩ (y6)) :=
  (((((((h.setCell (p := ⟨R, 0, none⟩) hR y0).setCell (p := ⟨R, 1, none⟩) hR y1).setCell (p := ⟨R, 2, none⟩) hR y2).setCell (p := ⟨R, 3, none⟩) hR y3).setCell (p := ⟨R, 4, none⟩) hR y4).setCell (p := ⟨R, 5, none⟩) hR y5).setCell (p := ⟨R, 6, none⟩) hR y6)
theorem seven_other {w : World} {R : Nat} {p : Addr} (hp : p.block ≠ R) {v : Value} (h : w.cell? p = some v) (y0 y1 y2 y3 y4 y5 y6 : Value) : (((((((w.setCell ⟨R, 0, none⟩ (y0)).setCell ⟨R, 1, none⟩ (y1)).setCell ⟨R, 2, none⟩ (y2)).setCell ⟨R, 3, none⟩ (y3)).setCell ⟨R, 4, none⟩ (y4)).setCell ⟨R, 5, none⟩ (y5)).setCell ⟨R, 6, none⟩ (y6)).cell? p = some v := by
  iterate 7 rw [World.cell?_setCell_other _ _ _ _ (fun e => hp (by rw [← e]))]
  exact h
theorem own_set' {w : World} {R : Nat} {xs : List Value} (h : Own w [(some ⟨R, 0, none⟩, xs)]) {a : Addr} (ha : a.block ≠ R) (v : Value) : Own (w.setCell a v) [(some ⟨R, 0, none⟩, xs)] :=
  h.turn (Turn.set (fs := [a.block]) (by simp) v) (fun x hx hb => by
    have e1 : x = a.block := by simpa using hb
    rw [fp_one] at hx
    by_cases h0 : xs = []
    · simp [fpS, h0] at hx
    · rw [fpS_some h0] at hx
      exact ha (e1.symm.trans (by simpa using hx)))
set_option maxHeartbeats 4000000 in
theorem bodyevent_no (b off : Nat) (L : List UInt8) (cap : Nat) (w : World) (u : TypeId) (pv : Value) (hv : w.cell? ⟨0, 0, none⟩ = some (.iface u pv)) (hc : Cells w (some ⟨b, off, none⟩) (bys L)) (hl : L.length ≤ 16777216) (hcap : L.length ≤ cap) (hcm : cap ≤ 9223372036854775807) (hB : ebB L = false) :
    Calls Tryz.prog 9 #[.slice (some ⟨b, off, none⟩) L.length cap] w fun e w' => e = .returned (.tuple #[evV 0 0 0 0 0 0 false, .bool false]) ∧ Keeps w w' := by
  have hmf : ∀ (fn : Fn) (first cap : Array Value) (w : World), (Instr.makeFunc fn first cap).run Tryz.prog w = .ok (.func fn first cap) w := fun _ _ _ _ => rfl
  have hk3 := threeE_keeps w (some ⟨b, off, none⟩) L.length cap
  have hgl := lt_of_cell hv
  have hbb : L.length = 22 → b < w.heap.size := fun h22 => by
    rcases hc with h' | ⟨b', off', e, h'⟩
    · rw [bys_nil] at h'; subst h'; simp at h22
    · have e' := Option.some.inj e
      injection e' with e1 e2
      subst e1 e2
      exact lt_of_cell (h' 0 (by rw [bys_length]; omega))
  have HE := hide (event_no (w.heap.size + 1 + 1) b off L cap (threeE w (some ⟨b, off, none⟩) L.length cap) u pv (hk3.cell hv) (by omega) (threeE_rd w _ L cap) (fun h => by have := hbb h; exact ⟨by omega, by simp; omega⟩) (by simp) (hc.kept hk3) hl hcap hcm hB)
  have HO := hide (threeE_own w (some ⟨b, off, none⟩) L.length cap)
  have H1 := hide (threeE_b w (some ⟨b, off, none⟩) L.length cap)
  have H2 := hide (threeE_zb w (some ⟨b, off, none⟩) L.length cap)
  have HK := hide hk3
  clear hk3 hv hc hB hbb hgl
  go_enter_defers Tryz.func9, Tryz.ntmps9
  go_wp2_with fail
  go_at_call 21
  refine (unhide HE).mono ?_
  rintro e w1 ⟨rfl, ht⟩
  have hO := HO.out.turn ht (fun x hx hb => by
    rw [fp_one, fpS_some (by simp)] at hx
    simp at hx hb
    omega)
  have t1 := ht.cell (p := ⟨w.heap.size + 1, 0, none⟩) (by simp) H1.out
  have z1 : w1.frozen? ⟨w.heap.size + 1, 0, none⟩ = false := by rw [← H2.out]; exact World.frozen?_of_block (ht.block _ (by simp) (by simp))
  have hk1 : Keeps w w1 := ht.keeps HK.out (fun x hx => by simp at hx; omega)
  clear ht HE HO H1 H2 HK
  have hO2 := own_set' (own_seven hO (.int .i64 0) (.int .i64 0) (.int .i64 0) (.int .i64 0) (.int .i64 0) (.int .i64 0) (.bool false)) (a := ⟨w.heap.size + 1, 0, none⟩) (by simp) (.bool false)
  have hk2 := (keeps_seven hk1 (Nat.le_refl _) (.int .i64 0) (.int .i64 0) (.int .i64 0) (.int .i64 0) (.int .i64 0) (.int .i64 0) (.bool false)).setCell (p := ⟨w.heap.size + 1, 0, none⟩) (Nat.le_succ _) (.bool false)
  have e8 := World.cell?_setCell_same (((((((w1.setCell ⟨w.heap.size, 0, none⟩ (.int .i64 0)).setCell ⟨w.heap.size, 1, none⟩ (.int .i64 0)).setCell ⟨w.heap.size, 2, none⟩ (.int .i64 0)).setCell ⟨w.heap.size, 3, none⟩ (.int .i64 0)).setCell ⟨w.heap.size, 4, none⟩ (.int .i64 0)).setCell ⟨w.heap.size, 5, none⟩ (.int .i64 0)).setCell ⟨w.heap.size, 6, none⟩ (.bool false)) ⟨w.heap.size + 1, 0, none⟩ (.bool false) (seven_other (p := ⟨w.heap.size + 1, 0, none⟩) (by simp) t1 (.int .i64 0) (.int .i64 0) (.int .i64 0) (.int .i64 0) (.int .i64 0) (.int .i64 0) (.bool false))
  have e0 := cell_at hO2.mem 0 (by simp)
  have e1 := cell_at hO2.mem 1 (by simp)
  have e2 := cell_at hO2.mem 2 (by simp)
  have e3 := cell_at hO2.mem 3 (by simp)
  have e4 := cell_at hO2.mem 4 (by simp)
  have e5 := cell_at hO2.mem 5 (by simp)
  have e6 := cell_at hO2.mem 6 (by simp)
  simp only [Nat.zero_add, List.getElem_cons_zero, List.getElem_cons_succ] at e0 e1 e2 e3 e4 e5 e6
  refine leaves_cons (f := 20) (args := #[.pointer (some ⟨w.heap.size, 0, none⟩), .pointer (some ⟨w.heap.size + 1, 0, none⟩)]) (by simp) rfl ?_
  refine (catchE_panic w.heap.size (w.heap.size + 1) (by omega) _ _ _ _ _ _ _ _ u pv [] w1 hO t1 z1).mono ?_
  rintro e u' w' ⟨rfl, rfl, hw'⟩
  rw [← hw'] at e0 e1 e2 e3 e4 e5 e6 e8 hk2
  simp [Leaves, settle, results, Tryz.results9, go_sem, e0, e1, e2, e3, e4, e5, e6, e8, hk2]
set_option maxHeartbeats 4000000 in
theorem bodyevent_ok (b off : Nat) (L : List UInt8) (cap : Nat) (w : World) (u : TypeId) (pv : Value) (hv : w.cell? ⟨0, 0, none⟩ = some (.iface u pv)) (hc : Cells w (some ⟨b, off, none⟩) (bys L)) (hl : L.length ≤ 16777216) (hcap : L.length ≤ cap) (hcm : cap ≤ 9223372036854775807) (hB : ebB L = true) :
    Calls Tryz.prog 9 #[.slice (some ⟨b, off, none⟩) L.length cap] w fun e w' => e = .returned (.tuple #[evV (numL (cut L 1 1) : Nat) (numL (cut L 2 3) : Nat) (numL (cut L 5 1) : Nat) (numL (cut L 6 1) : Nat) (numL (cut L 7 7) : Nat) (numL (cut L 14 7) : Nat) (decide (numL (cut L 21 1) = 1)), .bool true]) ∧ Keeps w w' := by
  have hmf : ∀ (fn : Fn) (first cap : Array Value) (w : World), (Instr.makeFunc fn first cap).run Tryz.prog w = .ok (.func fn first cap) w := fun _ _ _ _ => rfl
  have hk3 := threeE_keeps w (some ⟨b, off, none⟩) L.length cap
  have hgl := lt_of_cell hv
  have hbb : L.length = 22 → b < w.heap.size := fun h22 => by
    rcases hc with h' | ⟨b', off', e, h'⟩
    · rw [bys_nil] at h'; subst h'; simp at h22
    · have e' := Option.some.inj e
      injection e' with e1 e2
      subst e1 e2
      exact lt_of_cell (h' 0 (by rw [bys_length]; omega))
  have HE := hide (event_ok (w.heap.size + 1 + 1) b off L cap (threeE w (some ⟨b, off, none⟩) L.length cap) u pv (hk3.cell hv) (by omega) (threeE_rd w _ L cap) (fun h => by have := hbb h; exact ⟨by omega, by simp; omega⟩) (by simp) (hc.kept hk3) hl hcap hcm hB)
  have HO := hide (threeE_own w (some ⟨b, off, none⟩) L.length cap)
  have H1 := hide (threeE_b w (some ⟨b, off, none⟩) L.length cap)
  have H2 := hide (threeE_zb w (some ⟨b, off, none⟩) L.length cap)
  have HK := hide hk3
  clear hk3 hv hc hB hbb hgl
  go_enter_defers Tryz.func9, Tryz.ntmps9
  go_wp2_with fail
  go_at_call 21
  refine (unhide HE).mono ?_
  rintro e w1 ⟨rfl, ht⟩
  have hO := HO.out.turn ht (fun x hx hb => by
    rw [fp_one, fpS_some (by simp)] at hx
    simp at hx hb
    omega)
  have t1 := ht.cell (p := ⟨w.heap.size + 1, 0, none⟩) (by simp) H1.out
  have z1 : w1.frozen? ⟨w.heap.size + 1, 0, none⟩ = false := by rw [← H2.out]; exact World.frozen?_of_block (ht.block _ (by simp) (by simp))
  have hk1 : Keeps w w1 := ht.keeps HK.out (fun x hx => by simp at hx; omega)
  clear ht HE HO H1 H2 HK
  generalize hke : ((numL (cut L 1 1) : Nat) : Int) = k at *
  generalize hye : ((numL (cut L 2 3) : Nat) : Int) = y at *
  generalize hce : ((numL (cut L 5 1) : Nat) : Int) = c at *
  generalize hte : ((numL (cut L 6 1) : Nat) : Int) = t at *
  generalize hme : ((numL (cut L 7 7) : Nat) : Int) = m at *
  generalize hfe : ((numL (cut L 14 7) : Nat) : Int) = f at *
  generalize hbe : decide (numL (cut L 21 1) = 1) = bb at *
  have HX : Hid (evV k y c t m f bb = evV (numL (cut L 1 1) : Nat) (numL (cut L 2 3) : Nat) (numL (cut L 5 1) : Nat) (numL (cut L 6 1) : Nat) (numL (cut L 7 7) : Nat) (numL (cut L 14 7) : Nat) (decide (numL (cut L 21 1) = 1))) := by show _ = _; rw [hke, hye, hce, hte, hme, hfe, hbe]
  clear hke hye hce hte hme hfe hbe
  have hO1 := own_seven hO (.int .i64 k) (.int .i64 y) (.int .i64 c) (.int .i64 t) (.int .i64 m) (.int .i64 f) (.bool bb)
  have hO2 := own_seven hO1 (.int .i64 k) (.int .i64 y) (.int .i64 c) (.int .i64 t) (.int .i64 m) (.int .i64 f) (.bool bb)
  have hO3 := own_set' hO2 (a := ⟨w.heap.size + 1, 0, none⟩) (by simp) (.bool true)
  have c0 := cell_at hO.mem 0 (by simp)
  have d0 := cell_at hO1.mem 0 (by simp)
  have c1 := cell_at hO.mem 1 (by simp)
  have d1 := cell_at hO1.mem 1 (by simp)
  have c2 := cell_at hO.mem 2 (by simp)
  have d2 := cell_at hO1.mem 2 (by simp)
  have c3 := cell_at hO.mem 3 (by simp)
  have d3 := cell_at hO1.mem 3 (by simp)
  have c4 := cell_at hO.mem 4 (by simp)
  have d4 := cell_at hO1.mem 4 (by simp)
  have c5 := cell_at hO.mem 5 (by simp)
  have d5 := cell_at hO1.mem 5 (by simp)
  have c6 := cell_at hO.mem 6 (by simp)
  have d6 := cell_at hO1.mem 6 (by simp)
  simp only [Nat.zero_add, List.getElem_cons_zero, List.getElem_cons_succ] at c0 d0 c1 d1 c2 d2 c3 d3 c4 d4 c5 d5 c6 d6
  have fR : ∀ i, w1.frozen? ⟨w.heap.size, i, none⟩ = false := hO.free w.heap.size (by rw [fp_one, fpS_some (by simp)]; simp)
  have HO3 := hide hO3
  clear hO hO1 hO2 hO3
  have hq2 := seven_other (R := w.heap.size) (p := ⟨w.heap.size + 1, 0, none⟩) (by simp) (seven_other (R := w.heap.size) (p := ⟨w.heap.size + 1, 0, none⟩) (by simp) t1 (.int .i64 k) (.int .i64 y) (.int .i64 c) (.int .i64 t) (.int .i64 m) (.int .i64 f) (.bool bb)) (.int .i64 k) (.int .i64 y) (.int .i64 c) (.int .i64 t) (.int .i64 m) (.int .i64 f) (.bool bb)
  have HQ := hide (World.cell?_setCell_same ((((((((((((((w1.setCell ⟨w.heap.size, 0, none⟩ (.int .i64 k)).setCell ⟨w.heap.size, 1, none⟩ (.int .i64 y)).setCell ⟨w.heap.size, 2, none⟩ (.int .i64 c)).setCell ⟨w.heap.size, 3, none⟩ (.int .i64 t)).setCell ⟨w.heap.size, 4, none⟩ (.int .i64 m)).setCell ⟨w.heap.size, 5, none⟩ (.int .i64 f)).setCell ⟨w.heap.size, 6, none⟩ (.bool bb)).setCell ⟨w.heap.size, 0, none⟩ (.int .i64 k)).setCell ⟨w.heap.size, 1, none⟩ (.int .i64 y)).setCell ⟨w.heap.size, 2, none⟩ (.int .i64 c)).setCell ⟨w.heap.size, 3, none⟩ (.int .i64 t)).setCell ⟨w.heap.size, 4, none⟩ (.int .i64 m)).setCell ⟨w.heap.size, 5, none⟩ (.int .i64 f)).setCell ⟨w.heap.size, 6, none⟩ (.bool bb)) ⟨w.heap.size + 1, 0, none⟩ (.bool true) hq2)
  have HK2 := hide ((keeps_seven (keeps_seven hk1 (Nat.le_refl _) (.int .i64 k) (.int .i64 y) (.int .i64 c) (.int .i64 t) (.int .i64 m) (.int .i64 f) (.bool bb)) (Nat.le_refl _) (.int .i64 k) (.int .i64 y) (.int .i64 c) (.int .i64 t) (.int .i64 m) (.int .i64 f) (.bool bb)).setCell (p := ⟨w.heap.size + 1, 0, none⟩) (Nat.le_succ _) (.bool true))
  go_wp2_with fail
  generalize ((((((((((((((w1.setCell ⟨w.heap.size, 0, none⟩ (.int .i64 k)).setCell ⟨w.heap.size, 1, none⟩ (.int .i64 y)).setCell ⟨w.heap.size, 2, none⟩ (.int .i64 c)).setCell ⟨w.heap.size, 3, none⟩ (.int .i64 t)).setCell ⟨w.heap.size, 4, none⟩ (.int .i64 m)).setCell ⟨w.heap.size, 5, none⟩ (.int .i64 f)).setCell ⟨w.heap.size, 6, none⟩ (.bool bb)).setCell ⟨w.heap.size, 0, none⟩ (.int .i64 k)).setCell ⟨w.heap.size, 1, none⟩ (.int .i64 y)).setCell ⟨w.heap.size, 2, none⟩ (.int .i64 c)).setCell ⟨w.heap.size, 3, none⟩ (.int .i64 t)).setCell ⟨w.heap.size, 4, none⟩ (.int .i64 m)).setCell ⟨w.heap.size, 5, none⟩ (.int .i64 f)).setCell ⟨w.heap.size, 6, none⟩ (.bool bb)).setCell ⟨w.heap.size + 1, 0, none⟩ (.bool true) = w2 at *
  have hO3 := HO3.out
  clear c0 d0 c1 d1 c2 d2 c3 d3 c4 d4 c5 d5 c6 d6
  have e0 := cell_at hO3.mem 0 (by simp)
  have e1 := cell_at hO3.mem 1 (by simp)
  have e2 := cell_at hO3.mem 2 (by simp)
  have e3 := cell_at hO3.mem 3 (by simp)
  have e4 := cell_at hO3.mem 4 (by simp)
  have e5 := cell_at hO3.mem 5 (by simp)
  have e6 := cell_at hO3.mem 6 (by simp)
  simp only [Nat.zero_add, List.getElem_cons_zero, List.getElem_cons_succ] at e0 e1 e2 e3 e4 e5 e6
  have e8 := HQ.out
  have hk2 := HK2.out
  refine leaves_cons (f := 20) (args := #[.pointer (some ⟨w.heap.size, 0, none⟩), .pointer (some ⟨w.heap.size + 1, 0, none⟩)]) (by simp) rfl ?_
  refine (catchE_idle _ _ _).mono ?_
  rintro e u' w' ⟨rfl, rfl, rfl⟩
  have hx := HX.out
  simp [Leaves, settle, results, Tryz.results9, go_sem, e0, e1, e2, e3, e4, e5, e6, e8, hk2]
  simpa using hx
theorem bodyevent_impl (b off : Nat) (L : List UInt8) (cap : Nat) (w : World) (u : TypeId) (pv : Value) (hv : w.cell? ⟨0, 0, none⟩ = some (.iface u pv)) (hc : Cells w (some ⟨b, off, none⟩) (bys L)) (hl : L.length ≤ 16777216) (hcap : L.length ≤ cap) (hcm : cap ≤ 9223372036854775807) :
    Calls Tryz.prog 9 #[.slice (some ⟨b, off, none⟩) L.length cap] w fun e w' => e = .returned (.tuple #[ebV L, .bool (ebB L)]) ∧ Keeps w w' := by
  cases hB : ebB L
  · unfold ebV
    rw [hB, if_neg (by simp)]
    exact bodyevent_no b off L cap w u pv hv hc hl hcap hcm hB
  · unfold ebV
    rw [hB, if_pos rfl]
    exact bodyevent_ok b off L cap w u pv hv hc hl hcap hcm hB
end Go.Proofs.YtpkkdkdecajekaaGreatDoor
namespace Go.Proofs.YtpkkdkdecajekaaGreatDoor
open Go.RowKit Go.Deep
set_option linter.unusedVariables false
set_option maxRecDepth 10000
theorem numL_digs : ∀ (s n : Nat), n < 256 ^ s → numL (digs n s) = n
  | 0, n, h => by
    have : n = 0 := by simpa using h
    subst this
    rfl
  | s + 1, n, h => by
    rw [digs_snoc, numL_snoc, numL_digs s (n / 256) (by rw [Nat.pow_succ] at h; omega)]
    have e : (UInt8.ofNat n).toNat = n % 256 := by simp
    rw [e]
    omega
theorem cut_at {M A X C : List UInt8} {p s : Nat} (h : M = A ++ (X ++ C)) (hp : A.length = p) (hs : X.length = s) : cut M p s = X := by
  subst h hp hs
  simp [cut]

set_option maxHeartbeats 4000000 in
theorem bodyevent_len (a : Option Addr) (L : List UInt8) (cap : Nat) (w : World) (u : TypeId) (pv : Value) (hv : w.cell? ⟨0, 0, none⟩ = some (.iface u pv)) (hl : L.length ≤ 16777216) (h22 : L.length ≠ 22) :
    Calls Tryz.prog 9 #[.slice a L.length cap] w fun e w' => e = .returned (.tuple #[evV 0 0 0 0 0 0 false, .bool false]) ∧ Keeps w w' := by
  have hmf : ∀ (fn : Fn) (first cap : Array Value) (w : World), (Instr.makeFunc fn first cap).run Tryz.prog w = .ok (.func fn first cap) w := fun _ _ _ _ => rfl
  have hk3 := threeE_keeps w a L.length cap
  have HE := hide (event_len (w.heap.size + 1 + 1) a L.length cap (threeE w a L.length cap) u pv (hk3.cell hv) (threeE_rd w a L cap).data hl h22)
  have HO := hide (threeE_own w a L.length cap)
  have H1 := hide (threeE_b w a L.length cap)
  have H2 := hide (threeE_zb w a L.length cap)
  have HK := hide hk3
  clear hk3 hv
  go_enter_defers Tryz.func9, Tryz.ntmps9
  go_wp2_with fail
  go_at_call 21
  refine (unhide HE).mono ?_
  rintro e w1 ⟨rfl, ht⟩
  have hO := HO.out.turn ht (fun x hx hb => by
    rw [fp_one, fpS_some (by simp)] at hx
    simp at hx hb
    omega)
  have t1 := ht.cell (p := ⟨w.heap.size + 1, 0, none⟩) (by simp) H1.out
  have z1 : w1.frozen? ⟨w.heap.size + 1, 0, none⟩ = false := by rw [← H2.out]; exact World.frozen?_of_block (ht.block _ (by simp) (by simp))
  have hk1 : Keeps w w1 := ht.keeps HK.out (fun x hx => by simp at hx; omega)
  clear ht HE HO H1 H2 HK
  have hO2 := own_set' (own_seven hO (.int .i64 0) (.int .i64 0) (.int .i64 0) (.int .i64 0) (.int .i64 0) (.int .i64 0) (.bool false)) (a := ⟨w.heap.size + 1, 0, none⟩) (by simp) (.bool false)
  have hk2 := (keeps_seven hk1 (Nat.le_refl _) (.int .i64 0) (.int .i64 0) (.int .i64 0) (.int .i64 0) (.int .i64 0) (.int .i64 0) (.bool false)).setCell (p := ⟨w.heap.size + 1, 0, none⟩) (Nat.le_succ _) (.bool false)
  have e8 := World.cell?_setCell_same (((((((w1.setCell ⟨w.heap.size, 0, none⟩ (.int .i64 0)).setCell ⟨w.heap.size, 1, none⟩ (.int .i64 0)).setCell ⟨w.heap.size, 2, none⟩ (.int .i64 0)).setCell ⟨w.heap.size, 3, none⟩ (.int .i64 0)).setCell ⟨w.heap.size, 4, none⟩ (.int .i64 0)).setCell ⟨w.heap.size, 5, none⟩ (.int .i64 0)).setCell ⟨w.heap.size, 6, none⟩ (.bool false)) ⟨w.heap.size + 1, 0, none⟩ (.bool false) (seven_other (p := ⟨w.heap.size + 1, 0, none⟩) (by simp) t1 (.int .i64 0) (.int .i64 0) (.int .i64 0) (.int .i64 0) (.int .i64 0) (.int .i64 0) (.bool false))
  have e0 := cell_at hO2.mem 0 (by simp)
  have e1 := cell_at hO2.mem 1 (by simp)
  have e2 := cell_at hO2.mem 2 (by simp)
  have e3 := cell_at hO2.mem 3 (by simp)
  have e4 := cell_at hO2.mem 4 (by simp)
  have e5 := cell_at hO2.mem 5 (by simp)
  have e6 := cell_at hO2.mem 6 (by simp)
  simp only [Nat.zero_add, List.getElem_cons_zero, List.getElem_cons_succ] at e0 e1 e2 e3 e4 e5 e6
  refine leaves_cons (f := 20) (args := #[.pointer (some ⟨w.heap.size, 0, none⟩), .pointer (some ⟨w.heap.size + 1, 0, none⟩)]) (by simp) rfl ?_
  refine (catchE_panic w.heap.size (w.heap.size + 1) (by omega) _ _ _ _ _ _ _ _ u pv [] w1 hO t1 z1).mono ?_
  rintro e u' w' ⟨rfl, rfl, hw'⟩
  rw [← hw'] at e0 e1 e2 e3 e4 e5 e6 e8 hk2
  simp [Leaves, settle, results, Tryz.results9, go_sem, e0, e1, e2, e3, e4, e5, e6, e8, hk2]
theorem ebB_len {L : List UInt8} (h : L.length ≠ 22) : ebB L = false := by unfold ebB; rw [decide_eq_false h]; rfl
theorem ebV_no {L : List UInt8} (h : ebB L = false) : ebV L = evV 0 0 0 0 0 0 false := by unfold ebV; rw [h]; rfl
/-- The event in the bytes. -/
def ebE (L : List UInt8) : Ev := if ebB L = true then ⟨(numL (cut L 1 1) : Nat), (numL (cut L 2 3) : Nat), (numL (cut L 5 1) : Nat), (numL (cut L 6 1) : Nat), (numL (cut L 7 7) : Nat), (numL (cut L 14 7) : Nat), decide (numL (cut L 21 1) = 1)⟩ else ⟨0, 0, 0, 0, 0, 0, false⟩
theorem ebV_eq (L : List UInt8) : ebV L = evV (ebE L).k (ebE L).y (ebE L).c (ebE L).t (ebE L).m (ebE L).f (ebE L).b := by
  unfold ebV ebE
  split <;> rfl

/-- An event is read as it was written. -/
theorem body_back {k y c t m f : Int} {b : Bool} (h : evB k y c t m f b = true) : ebB (bodyR k y c t m f b) = true ∧ ebE (bodyR k y c t m f b) = ⟨k, y, c, t, m, f, b⟩ ∧ (bodyR k y c t m f b).length = 22 := by
  obtain ⟨⟨k0, k1⟩, ⟨y0, y1⟩, ⟨c0, c1⟩, ⟨t0, t1⟩, ⟨m0, m1⟩, f0, f1⟩ := evB_bounds h
  obtain ⟨k, rfl⟩ := Int.eq_ofNat_of_zero_le (show 0 ≤ k by omega)
  obtain ⟨y, rfl⟩ := Int.eq_ofNat_of_zero_le y0
  obtain ⟨c, rfl⟩ := Int.eq_ofNat_of_zero_le c0
  obtain ⟨t, rfl⟩ := Int.eq_ofNat_of_zero_le t0
  obtain ⟨m, rfl⟩ := Int.eq_ofNat_of_zero_le m0
  obtain ⟨f, rfl⟩ := Int.eq_ofNat_of_zero_le f0
  have hM : bodyR k y c t m f b = bodyL k y c t m f b := by unfold bodyR; rw [if_pos h]; rfl
  have hlen := bodyL_length k y c t m f b
  have hy1 : (yesL b).length = 1 := by cases b <;> rfl
  have d0 : cut (bodyL k y c t m f b) 0 1 = [69] := cut_at (A := []) (C := digs k 1 ++ digs y 3 ++ digs c 1 ++ digs t 1 ++ digs m 7 ++ digs f 7 ++ yesL b) (by simp [bodyL, List.append_assoc]) rfl rfl
  have d1 : cut (bodyL k y c t m f b) 1 1 = digs k 1 := cut_at (A := [69]) (C := digs y 3 ++ digs c 1 ++ digs t 1 ++ digs m 7 ++ digs f 7 ++ yesL b) (by simp [bodyL, List.append_assoc]) rfl (digs_length _ _)
  have d2 : cut (bodyL k y c t m f b) 2 3 = digs y 3 := cut_at (A := [69] ++ digs k 1) (C := digs c 1 ++ digs t 1 ++ digs m 7 ++ digs f 7 ++ yesL b) (by simp [bodyL, List.append_assoc]) (by simp [digs_length]) (digs_length _ _)
  have d5 : cut (bodyL k y c t m f b) 5 1 = digs c 1 := cut_at (A := [69] ++ digs k 1 ++ digs y 3) (C := digs t 1 ++ digs m 7 ++ digs f 7 ++ yesL b) (by simp [bodyL, List.append_assoc]) (by simp [digs_length]) (digs_length _ _)
  have d6 : cut (bodyL k y c t m f b) 6 1 = digs t 1 := cut_at (A := [69] ++ digs k 1 ++ digs y 3 ++ digs c 1) (C := digs m 7 ++ digs f 7 ++ yesL b) (by simp [bodyL, List.append_assoc]) (by simp [digs_length]) (digs_length _ _)
  have d7 : cut (bodyL k y c t m f b) 7 7 = digs m 7 := cut_at (A := [69] ++ digs k 1 ++ digs y 3 ++ digs c 1 ++ digs t 1) (C := digs f 7 ++ yesL b) (by simp [bodyL, List.append_assoc]) (by simp [digs_length]) (digs_length _ _)
  have d14 : cut (bodyL k y c t m f b) 14 7 = digs f 7 := cut_at (A := [69] ++ digs k 1 ++ digs y 3 ++ digs c 1 ++ digs t 1 ++ digs m 7) (C := yesL b) (by simp [bodyL, List.append_assoc]) (by simp [digs_length]) (digs_length _ _)
  have d21 : cut (bodyL k y c t m f b) 21 1 = yesL b := cut_at (A := [69] ++ digs k 1 ++ digs y 3 ++ digs c 1 ++ digs t 1 ++ digs m 7 ++ digs f 7) (C := []) (by simp [bodyL, List.append_assoc]) (by simp [digs_length]) hy1
  have n1 : numL (digs k 1) = k := numL_digs 1 k (by omega)
  have n2 : numL (digs y 3) = y := numL_digs 3 y (by omega)
  have n5 : numL (digs c 1) = c := numL_digs 1 c (by omega)
  have n6 : numL (digs t 1) = t := numL_digs 1 t (by omega)
  have n7 : numL (digs m 7) = m := numL_digs 7 m (by omega)
  have n14 : numL (digs f 7) = f := numL_digs 7 f (by omega)
  have n0 : numL [(69 : UInt8)] = 69 := by rw [numL_one]; rfl
  have nb : numL (yesL b) ≤ 1 ∧ decide (numL (yesL b) = 1) = b := by cases b <;> simp [yesL, numL_one]
  have hB : ebB (bodyL k y c t m f b) = true := by
    unfold ebB
    rw [d0, d1, d2, d5, d6, d7, d14, d21, n0, n1, n2, n5, n6, n7, n14, nb.2, hlen, decide_eq_true nb.1, h]
    rfl
  rw [hM]
  refine ⟨hB, ?_, hlen⟩
  unfold ebE
  rw [if_pos hB, d1, d2, d5, d6, d7, d14, d21, n1, n2, n5, n6, n7, n14, nb.2]

end Go.Proofs.YtpkkdkdecajekaaGreatDoor
