/- Texts of the verifier, joined: BEF, BEG, EBS, Str. -/
import Derived.Test.YtkdnddckogbgaaaGreatDoorFO14
import Derived.Tactics2
import Derived.Defers
import Derived.Recover
import Derived.Laws.Pointers
import Derived.Test.YtkdnddckogbgaaaGreatDoorFO10
import Derived.Test.YtkdnddckogbgaaaGreatDoorFO11
import Derived.Test.YtkdnddckogbgaaaGreatDoorFO1
import Derived.Laws.BytesString
import Derived.Laws.Cells
namespace Go.Proofs.YtkdnddckogbgaaaGreatDoor
open Go.RowKit Go.Deep
set_option linter.unusedVariables false
set_option linter.unusedSimpArgs false
set_option maxRecDepth 10000
set_option maxHeartbeats 2000000 in
theorem catchE_panic (R Q : Nat) (hRQ : R ≠ Q) (x0 x1 x2 x3 x4 x5 x6 y : Value) (u : TypeId) (pv : Value) (older : List PanicEntry) (w : World) (hR : Own w [(some ⟨R, 0, none⟩, [x0, x1, x2, x3, x4, x5, x6])]) (hc : w.cell? ⟨Q, 0, none⟩ = some y) (hz : w.frozen? ⟨Q, 0, none⟩ = false) :
    CallsD Tryz.prog 81 #[.pointer (some ⟨R, 0, none⟩), .pointer (some ⟨Q, 0, none⟩)] (.panicking ({ v := .iface u pv, recovered := false } :: older)) w fun e u' w' =>
      e = .returned (.tuple #[]) ∧ u' = .panicking ({ v := .iface u pv, recovered := true } :: older) ∧ w' = (((((((w.setCell ⟨R, 0, none⟩ (.int .i64 0)).setCell ⟨R, 1, none⟩ (.int .i64 0)).setCell ⟨R, 2, none⟩ (.int .i64 0)).setCell ⟨R, 3, none⟩ (.int .i64 0)).setCell ⟨R, 4, none⟩ (.int .i64 0)).setCell ⟨R, 5, none⟩ (.int .i64 0)).setCell ⟨R, 6, none⟩ (.bool false)).setCell ⟨Q, 0, none⟩ (.bool false) := by
  have c0 := cell_at hR.mem 0 (by simp)
  have c1 := cell_at hR.mem 1 (by simp)
  have c2 := cell_at hR.mem 2 (by simp)
  have c3 := cell_at hR.mem 3 (by simp)
  have c4 := cell_at hR.mem 4 (by simp)
  have c5 := cell_at hR.mem 5 (by simp)
  have c6 := cell_at hR.mem 6 (by simp)
  simp only [Nat.zero_add, List.getElem_cons_zero, List.getElem_cons_succ] at c0 c1 c2 c3 c4 c5 c6
  have fR : ∀ i, w.frozen? ⟨R, i, none⟩ = false := hR.free R (by rw [fp_one, fpS_some (by simp)]; simp)
  refine callsD_of_wpS Tryz.func81 rfl fun c₀ cs hu => ?_
  apply wpS_seq
  apply wpS_region
  simp [wpOpsS, go_sem, recoverD, hu, Tryz.ntmps81, Exit.thenS]
  refine wpS_cond (t := true) (by simp [Act.eval, Array.replicate]) ?_
  simp only [if_true]
  apply wpS_region
  simp [wpOpsS, go_sem, c0, c1, c2, c3, c4, c5, c6, fR, hc, hz, hRQ, Ne.symm hRQ, bodyPostS, results, Tryz.results81]
theorem catchE_idle (p q : Addr) (w : World) :
    CallsD Tryz.prog 81 #[.pointer (some p), .pointer (some q)] .returning w fun e u' w' => e = .returned (.tuple #[]) ∧ u' = .returning ∧ w' = w := by
  refine callsD_of_wpS Tryz.func81 rfl fun c₀ cs hu => ?_
  apply wpS_seq
  apply wpS_region
  simp [wpOpsS, go_sem, recoverD, hu, Tryz.ntmps81, Exit.thenS]
  refine wpS_cond (t := false) (by simp [Act.eval, Array.replicate]) ?_
  simp only [Bool.false_eq_true, if_false]
  refine wpS_of_wp (wp_skip ?_)
  cases c₀
  simp_all [bodyPostS, results, Tryz.results81]
end Go.Proofs.YtkdnddckogbgaaaGreatDoor
namespace Go.Proofs.YtkdnddckogbgaaaGreatDoor
open Go.RowKit Go.Deep
set_option linter.unusedVariables false
set_option linter.unusedSimpArgs false
set_option maxRecDepth 10000
theorem event_no (B b off : Nat) (L : List UInt8) (cap : Nat) (w : World) (u : TypeId) (pv : Value) (hv : w.cell? ⟨0, 0, none⟩ = some (.iface u pv)) (hgB : 0 ≠ B) (hr : Rd w B (some ⟨b, off, none⟩) L cap (0 : Nat)) (hb : L.length = 22 → b ≠ B ∧ b < w.heap.size) (hBl : B < w.heap.size) (hc : Cells w (some ⟨b, off, none⟩) (bys L)) (hl : L.length ≤ 16777216) (hcap : L.length ≤ cap) (hcm : cap ≤ 9223372036854775807) (hB : ebB L = false) :
    Calls Tryz.prog 82 #[.pointer (some ⟨B, 0, none⟩)] w fun e w' => e = .panicked [{ v := .iface u pv, recovered := false }] ∧ Turn [B] w w' := by
  by_cases h22 : L.length = 22
  · obtain ⟨h1, h2⟩ := hb h22
    by_cases hz : numL (cut L 0 1) = 69
    · by_cases hq : numL (cut L 21 1) ≤ 1
      · refine event_bad B b off L cap w u pv hv hgB hr h1 hBl h2 hc hcap hcm h22 (numL (cut L 0 1)) (numL (cut L 1 1)) (numL (cut L 2 3)) (numL (cut L 5 1)) (numL (cut L 6 1)) (numL (cut L 7 7)) (numL (cut L 14 7)) (numL (cut L 21 1)) rfl rfl rfl rfl rfl rfl rfl rfl hz hq ?_
        unfold ebB at hB
        rw [decide_eq_true h22, decide_eq_true hz, decide_eq_true hq] at hB
        simpa using hB
      · exact event_last B b off L cap w u pv hv hgB hr h1 hBl h2 hc hcap hcm h22 (numL (cut L 0 1)) (numL (cut L 1 1)) (numL (cut L 2 3)) (numL (cut L 5 1)) (numL (cut L 6 1)) (numL (cut L 7 7)) (numL (cut L 14 7)) (numL (cut L 21 1)) rfl rfl rfl rfl rfl rfl rfl rfl hz hq
    · exact event_first B b off L cap w u pv hv hgB hr h1 hBl h2 hc hcap hcm h22 (numL (cut L 0 1)) (numL (cut L 1 1)) (numL (cut L 2 3)) (numL (cut L 5 1)) (numL (cut L 6 1)) (numL (cut L 7 7)) (numL (cut L 14 7)) (numL (cut L 21 1)) rfl rfl rfl rfl rfl rfl rfl rfl hz
  · exact event_len B _ L.length cap w u pv hv hr.data hl h22
theorem event_ok (B b off : Nat) (L : List UInt8) (cap : Nat) (w : World) (u : TypeId) (pv : Value) (hv : w.cell? ⟨0, 0, none⟩ = some (.iface u pv)) (hgB : 0 ≠ B) (hr : Rd w B (some ⟨b, off, none⟩) L cap (0 : Nat)) (hb : L.length = 22 → b ≠ B ∧ b < w.heap.size) (hBl : B < w.heap.size) (hc : Cells w (some ⟨b, off, none⟩) (bys L)) (hl : L.length ≤ 16777216) (hcap : L.length ≤ cap) (hcm : cap ≤ 9223372036854775807) (hB : ebB L = true) :
    Calls Tryz.prog 82 #[.pointer (some ⟨B, 0, none⟩)] w fun e w' => e = .returned (evV (numL (cut L 1 1) : Nat) (numL (cut L 2 3) : Nat) (numL (cut L 5 1) : Nat) (numL (cut L 6 1) : Nat) (numL (cut L 7 7) : Nat) (numL (cut L 14 7) : Nat) (decide (numL (cut L 21 1) = 1))) ∧ Turn [B] w w' := by
  unfold ebB at hB
  simp only [Bool.and_eq_true, decide_eq_true_eq] at hB
  obtain ⟨⟨⟨h22, hz⟩, hq⟩, hev⟩ := hB
  obtain ⟨h1, h2⟩ := hb h22
  exact event_yes B b off L cap w u pv hv hgB hr h1 hBl h2 hc hcap hcm h22 (numL (cut L 0 1)) (numL (cut L 1 1)) (numL (cut L 2 3)) (numL (cut L 5 1)) (numL (cut L 6 1)) (numL (cut L 7 7)) (numL (cut L 14 7)) (numL (cut L 21 1)) rfl rfl rfl rfl rfl rfl rfl rfl hz hq hev
/-- The world where BodyEvent calls event. -/
abbrev threeE (w : World) (ad : Option Addr) (l cap : Nat) : World := ((w.alloc (Obj.cells #[.int .i64 0, .int .i64 0, .int .i64 0, .int .i64 0, .int .i64 0, .int .i64 0, .bool false] 30)).alloc (Obj.cells #[Value.bool false] 4)).alloc (Obj.cells #[.slice ad l cap, .int .i64 0] 119)
theorem threeE_keeps (w : World) (ad : Option Addr) (l cap : Nat) : Keeps w (threeE w ad l cap) := (((Keeps.refl w).alloc _).alloc _).alloc _
theorem threeE_rd (w : World) (ad : Option Addr) (L : List UInt8) (cap : Nat) : Rd (threeE w ad L.length cap) (w.heap.size + 1 + 1) ad L cap ((0 : Nat) : Int) :=
  ⟨by rw [World.cell?_alloc_at _ _ _ _ (by simp)]; rfl, by rw [World.cell?_alloc_at _ _ _ _ (by simp)]; rfl, by rw [World.frozen?_alloc_at _ _ _ _ (by simp)]⟩
theorem threeE_own (w : World) (ad : Option Addr) (l cap : Nat) : Own (threeE w ad l cap) [(some ⟨w.heap.size, 0, none⟩, [.int .i64 0, .int .i64 0, .int .i64 0, .int .i64 0, .int .i64 0, .int .i64 0, .bool false])] :=
  (((born_alloc w #[.int .i64 0, .int .i64 0, .int .i64 0, .int .i64 0, .int .i64 0, .int .i64 0, .bool false] 30).toOwn.kept (Keeps.alloc (Keeps.refl _) _)).kept (Keeps.alloc (Keeps.refl _) _))
theorem threeE_b (w : World) (ad : Option Addr) (l cap : Nat) : (threeE w ad l cap).cell? ⟨w.heap.size + 1, 0, none⟩ = some (.bool false) := by
  rw [World.cell?_alloc_past _ _ _ (by simp), World.cell?_alloc_at _ _ _ _ (by simp)]; rfl
theorem threeE_zb (w : World) (ad : Option Addr) (l cap : Nat) : (threeE w ad l cap).frozen? ⟨w.heap.size + 1, 0, none⟩ = false := by
  rw [World.frozen?_alloc_past _ _ _ (by simp), World.frozen?_alloc_at _ _ _ _ (by simp)]
theorem own_seven {w : World} {R : Nat} {x0 x1 x2 x3 x4 x5 x6 : Value} (h : Own w [(some ⟨R, 0, none⟩, [x0, x1, x2, x3, x4, x5, x6])]) (y0 y1 y2 y3 y4 y5 y6 : Value) :
    Own (((((((w.setCell ⟨R, 0, none⟩ (y0)).setCell ⟨R, 1, none⟩ (y1)).setCell ⟨R, 2, none⟩ (y2)).setCell ⟨R, 3, none⟩ (y3)).setCell ⟨R, 4, none⟩ (y4)).setCell ⟨R, 5, none⟩ (y5)).setCell ⟨R, 6, none⟩ (y6)) [(some ⟨R, 0, none⟩, [y0, y1, y2, y3, y4, y5, y6])] := by
  have h := own_set h 0 (by simp) y0
  have h := own_set h 1 (by simp) y1
  have h := own_set h 2 (by simp) y2
  have h := own_set h 3 (by simp) y3
  have h := own_set h 4 (by simp) y4
  have h := own_set h 5 (by simp) y5
  exact own_set h 6 (by simp) y6
theorem keeps_seven {W w : World} {R : Nat} (h : Keeps W w) (hR : W.heap.size ≤ R) (y0 y1 y2 y3 y4 y5 y6 : Value) : Keeps W (((((((w.setCell ⟨R, 0, none⟩ (y0)).setCell ⟨R, 1, none⟩ (y1)).setCell ⟨R, 2, none⟩ (y2)).setCell ⟨R, 3, none⟩ (y3)).setCell ⟨R, 4, none⟩ (y4)).setCell ⟨R, 5, none⟩ (y5)).setCell ⟨R, 6, none⟩ (y6)) :=
  (((((((h.setCell (p := ⟨R, 0, none⟩) hR y0).setCell (p := ⟨R, 1, none⟩) hR y1).setCell (p := ⟨R, 2, none⟩) hR y2).setCell (p := ⟨R, 3, none⟩) hR y3).setCell (p := ⟨R, 4, none⟩) hR y4).setCell (p := ⟨R, 5, none⟩) hR y5).setCell (p := ⟨R, 6, none⟩) hR y6)
theorem seven_other {w : World} {R : Nat} {p : Addr} (hp : p.block ≠ R) {v : Value} (h : w.cell? p = some v) (y0 y1 y2 y3 y4 y5 y6 : Value) : (((((((w.setCell ⟨R, 0, none⟩ (y0)).setCell ⟨R, 1, none⟩ (y1)).setCell ⟨R, 2, none⟩ (y2)).setCell ⟨R, 3, none⟩ (y3)).setCell ⟨R, 4, none⟩ (y4)).setCell ⟨R, 5, none⟩ (y5)).setCell ⟨R, 6, none⟩ (y6)).cell? p = some v := by
  iterate 7 rw [World.cell?_setCell_other _ _ _ _ (fun e => hp (by rw [← e]))]
  exact h
theorem own_set' {w : World} {R : Nat} {xs : List Value} (h : Own w [(some ⟨R, 0, none⟩, xs)]) {a : Addr} (ha : a.block ≠ R) (v : Value) : Own (w.setCell a v) [(some ⟨R, 0, none⟩, xs)] :=
  h.turn (Turn.set (fs := [a.block]) (by simp) v) (fun x hx hb => by
    have e1 : x = a.block := by simpa using hb
    rw [fp_one] at hx
    by_cases h0 : xs = []
    · simp [fpS, h0] at hx
    · rw [fpS_some h0] at hx
      exact ha (e1.symm.trans (by simpa using hx)))
set_option maxHeartbeats 4000000 in
theorem bodyevent_no (b off : Nat) (L : List UInt8) (cap : Nat) (w : World) (u : TypeId) (pv : Value) (hv : w.cell? ⟨0, 0, none⟩ = some (.iface u pv)) (hc : Cells w (some ⟨b, off, none⟩) (bys L)) (hl : L.length ≤ 16777216) (hcap : L.length ≤ cap) (hcm : cap ≤ 9223372036854775807) (hB : ebB L = false) :
    Calls Tryz.prog 44 #[.slice (some ⟨b, off, none⟩) L.length cap] w fun e w' => e = .returned (.tuple #[evV 0 0 0 0 0 0 false, .bool false]) ∧ Keeps w w' := by
  have hmf : ∀ (fn : Fn) (first cap : Array Value) (w : World), (Instr.makeFunc fn first cap).run Tryz.prog w = .ok (.func fn first cap) w := fun _ _ _ _ => rfl
  have hk3 := threeE_keeps w (some ⟨b, off, none⟩) L.length cap
  have hgl := lt_of_cell hv
  have hbb : L.length = 22 → b < w.heap.size := fun h22 => by
    rcases hc with h' | ⟨b', off', e, h'⟩
    · rw [bys_nil] at h'; subst h'; simp at h22
    · have e' := Option.some.inj e
      injection e' with e1 e2
      subst e1 e2
      exact lt_of_cell (h' 0 (by rw [bys_length]; omega))
  have HE := hide (event_no (w.heap.size + 1 + 1) b off L cap (threeE w (some ⟨b, off, none⟩) L.length cap) u pv (hk3.cell hv) (by omega) (threeE_rd w _ L cap) (fun h => by have := hbb h; exact ⟨by omega, by simp; omega⟩) (by simp) (hc.kept hk3) hl hcap hcm hB)
  have HO := hide (threeE_own w (some ⟨b, off, none⟩) L.length cap)
  have H1 := hide (threeE_b w (some ⟨b, off, none⟩) L.length cap)
  have H2 := hide (threeE_zb w (some ⟨b, off, none⟩) L.length cap)
  have HK := hide hk3
  clear hk3 hv hc hB hbb hgl
  go_enter_defers Tryz.func44, Tryz.ntmps44
  go_wp2_with fail
  go_at_call 82
  refine (unhide HE).mono ?_
  rintro e w1 ⟨rfl, ht⟩
  have hO := HO.out.turn ht (fun x hx hb => by
    rw [fp_one, fpS_some (by simp)] at hx
    simp at hx hb
    omega)
  have t1 := ht.cell (p := ⟨w.heap.size + 1, 0, none⟩) (by simp) H1.out
  have z1 : w1.frozen? ⟨w.heap.size + 1, 0, none⟩ = false := by rw [← H2.out]; exact World.frozen?_of_block (ht.block _ (by simp) (by simp))
  have hk1 : Keeps w w1 := ht.keeps HK.out (fun x hx => by simp at hx; omega)
  clear ht HE HO H1 H2 HK
  have hO2 := own_set' (own_seven hO (.int .i64 0) (.int .i64 0) (.int .i64 0) (.int .i64 0) (.int .i64 0) (.int .i64 0) (.bool false)) (a := ⟨w.heap.size + 1, 0, none⟩) (by simp) (.bool false)
  have hk2 := (keeps_seven hk1 (Nat.le_refl _) (.int .i64 0) (.int .i64 0) (.int .i64 0) (.int .i64 0) (.int .i64 0) (.int .i64 0) (.bool false)).setCell (p := ⟨w.heap.size + 1, 0, none⟩) (Nat.le_succ _) (.bool false)
  have e8 := World.cell?_setCell_same (((((((w1.setCell ⟨w.heap.size, 0, none⟩ (.int .i64 0)).setCell ⟨w.heap.size, 1, none⟩ (.int .i64 0)).setCell ⟨w.heap.size, 2, none⟩ (.int .i64 0)).setCell ⟨w.heap.size, 3, none⟩ (.int .i64 0)).setCell ⟨w.heap.size, 4, none⟩ (.int .i64 0)).setCell ⟨w.heap.size, 5, none⟩ (.int .i64 0)).setCell ⟨w.heap.size, 6, none⟩ (.bool false)) ⟨w.heap.size + 1, 0, none⟩ (.bool false) (seven_other (p := ⟨w.heap.size + 1, 0, none⟩) (by simp) t1 (.int .i64 0) (.int .i64 0) (.int .i64 0) (.int .i64 0) (.int .i64 0) (.int .i64 0) (.bool false))
  have e0 := cell_at hO2.mem 0 (by simp)
  have e1 := cell_at hO2.mem 1 (by simp)
  have e2 := cell_at hO2.mem 2 (by simp)
  have e3 := cell_at hO2.mem 3 (by simp)
  have e4 := cell_at hO2.mem 4 (by simp)
  have e5 := cell_at hO2.mem 5 (by simp)
  have e6 := cell_at hO2.mem 6 (by simp)
  simp only [Nat.zero_add, List.getElem_cons_zero, List.getElem_cons_succ] at e0 e1 e2 e3 e4 e5 e6
  refine leaves_cons (f := 81) (args := #[.pointer (some ⟨w.heap.size, 0, none⟩), .pointer (some ⟨w.heap.size + 1, 0, none⟩)]) (by simp) rfl ?_
  refine (catchE_panic w.heap.size (w.heap.size + 1) (by omega) _ _ _ _ _ _ _ _ u pv [] w1 hO t1 z1).mono ?_
  rintro e u' w' ⟨rfl, rfl, hw'⟩
  rw [← hw'] at e0 e1 e2 e3 e4 e5 e6 e8 hk2
  simp [Leaves, settle, results, Tryz.results44, go_sem, e0, e1, e2, e3, e4, e5, e6, e8, hk2]
set_option maxHeartbeats 4000000 in
theorem bodyevent_ok (b off : Nat) (L : List UInt8) (cap : Nat) (w : World) (u : TypeId) (pv : Value) (hv : w.cell? ⟨0, 0, none⟩ = some (.iface u pv)) (hc : Cells w (some ⟨b, off, none⟩) (bys L)) (hl : L.length ≤ 16777216) (hcap : L.length ≤ cap) (hcm : cap ≤ 9223372036854775807) (hB : ebB L = true) :
    Calls Tryz.prog 44 #[.slice (some ⟨b, off, none⟩) L.length cap] w fun e w' => e = .returned (.tuple #[evV (numL (cut L 1 1) : Nat) (numL (cut L 2 3) : Nat) (numL (cut L 5 1) : Nat) (numL (cut L 6 1) : Nat) (numL (cut L 7 7) : Nat) (numL (cut L 14 7) : Nat) (decide (numL (cut L 21 1) = 1)), .bool true]) ∧ Keeps w w' := by
  have hmf : ∀ (fn : Fn) (first cap : Array Value) (w : World), (Instr.makeFunc fn first cap).run Tryz.prog w = .ok (.func fn first cap) w := fun _ _ _ _ => rfl
  have hk3 := threeE_keeps w (some ⟨b, off, none⟩) L.length cap
  have hgl := lt_of_cell hv
  have hbb : L.length = 22 → b < w.heap.size := fun h22 => by
    rcases hc with h' | ⟨b', off', e, h'⟩
    · rw [bys_nil] at h'; subst h'; simp at h22
    · have e' := Option.some.inj e
      injection e' with e1 e2
      subst e1 e2
      exact lt_of_cell (h' 0 (by rw [bys_length]; omega))
  have HE := hide (event_ok (w.heap.size + 1 + 1) b off L cap (threeE w (some ⟨b, off, none⟩) L.length cap) u pv (hk3.cell hv) (by omega) (threeE_rd w _ L cap) (fun h => by have := hbb h; exact ⟨by omega, by simp; omega⟩) (by simp) (hc.kept hk3) hl hcap hcm hB)
  have HO := hide (threeE_own w (some ⟨b, off, none⟩) L.length cap)
  have H1 := hide (threeE_b w (some ⟨b, off, none⟩) L.length cap)
  have H2 := hide (threeE_zb w (some ⟨b, off, none⟩) L.length cap)
  have HK := hide hk3
  clear hk3 hv hc hB hbb hgl
  go_enter_defers Tryz.func44, Tryz.ntmps44
  go_wp2_with fail
  go_at_call 82
  refine (unhide HE).mono ?_
  rintro e w1 ⟨rfl, ht⟩
  have hO := HO.out.turn ht (fun x hx hb => by
    rw [fp_one, fpS_some (by simp)] at hx
    simp at hx hb
    omega)
  have t1 := ht.cell (p := ⟨w.heap.size + 1, 0, none⟩) (by simp) H1.out
  have z1 : w1.frozen? ⟨w.heap.size + 1, 0, none⟩ = false := by rw [← H2.out]; exact World.frozen?_of_block (ht.block _ (by simp) (by simp))
  have hk1 : Keeps w w1 := ht.keeps HK.out (fun x hx => by simp at hx; omega)
  clear ht HE HO H1 H2 HK
  generalize hke : ((numL (cut L 1 1) : Nat) : Int) = k at *
  generalize hye : ((numL (cut L 2 3) : Nat) : Int) = y at *
  generalize hce : ((numL (cut L 5 1) : Nat) : Int) = c at *
  generalize hte : ((numL (cut L 6 1) : Nat) : Int) = t at *
  generalize hme : ((numL (cut L 7 7) : Nat) : Int) = m at *
  generalize hfe : ((numL (cut L 14 7) : Nat) : Int) = f at *
  generalize hbe : decide (numL (cut L 21 1) = 1) = bb at *
  have HX : Hid (evV k y c t m f bb = evV (numL (cut L 1 1) : Nat) (numL (cut L 2 3) : Nat) (numL (cut L 5 1) : Nat) (numL (cut L 6 1) : Nat) (numL (cut L 7 7) : Nat) (numL (cut L 14 7) : Nat) (decide (numL (cut L 21 1) = 1))) := by show _ = _; rw [hke, hye, hce, hte, hme, hfe, hbe]
  clear hke hye hce hte hme hfe hbe
  have hO1 := own_seven hO (.int .i64 k) (.int .i64 y) (.int .i64 c) (.int .i64 t) (.int .i64 m) (.int .i64 f) (.bool bb)
  have hO2 := own_seven hO1 (.int .i64 k) (.int .i64 y) (.int .i64 c) (.int .i64 t) (.int .i64 m) (.int .i64 f) (.bool bb)
  have hO3 := own_set' hO2 (a := ⟨w.heap.size + 1, 0, none⟩) (by simp) (.bool true)
  have c0 := cell_at hO.mem 0 (by simp)
  have d0 := cell_at hO1.mem 0 (by simp)
  have c1 := cell_at hO.mem 1 (by simp)
  have d1 := cell_at hO1.mem 1 (by simp)
  have c2 := cell_at hO.mem 2 (by simp)
  have d2 := cell_at hO1.mem 2 (by simp)
  have c3 := cell_at hO.mem 3 (by simp)
  have d3 := cell_at hO1.mem 3 (by simp)
  have c4 := cell_at hO.mem 4 (by simp)
  have d4 := cell_at hO1.mem 4 (by simp)
  have c5 := cell_at hO.mem 5 (by simp)
  have d5 := cell_at hO1.mem 5 (by simp)
  have c6 := cell_at hO.mem 6 (by simp)
  have d6 := cell_at hO1.mem 6 (by simp)
  simp only [Nat.zero_add, List.getElem_cons_zero, List.getElem_cons_succ] at c0 d0 c1 d1 c2 d2 c3 d3 c4 d4 c5 d5 c6 d6
  have fR : ∀ i, w1.frozen? ⟨w.heap.size, i, none⟩ = false := hO.free w.heap.size (by rw [fp_one, fpS_some (by simp)]; simp)
  have HO3 := hide hO3
  clear hO hO1 hO2 hO3
  have hq2 := seven_other (R := w.heap.size) (p := ⟨w.heap.size + 1, 0, none⟩) (by simp) (seven_other (R := w.heap.size) (p := ⟨w.heap.size + 1, 0, none⟩) (by simp) t1 (.int .i64 k) (.int .i64 y) (.int .i64 c) (.int .i64 t) (.int .i64 m) (.int .i64 f) (.bool bb)) (.int .i64 k) (.int .i64 y) (.int .i64 c) (.int .i64 t) (.int .i64 m) (.int .i64 f) (.bool bb)
  have HQ := hide (World.cell?_setCell_same ((((((((((((((w1.setCell ⟨w.heap.size, 0, none⟩ (.int .i64 k)).setCell ⟨w.heap.size, 1, none⟩ (.int .i64 y)).setCell ⟨w.heap.size, 2, none⟩ (.int .i64 c)).setCell ⟨w.heap.size, 3, none⟩ (.int .i64 t)).setCell ⟨w.heap.size, 4, none⟩ (.int .i64 m)).setCell ⟨w.heap.size, 5, none⟩ (.int .i64 f)).setCell ⟨w.heap.size, 6, none⟩ (.bool bb)).setCell ⟨w.heap.size, 0, none⟩ (.int .i64 k)).setCell ⟨w.heap.size, 1, none⟩ (.int .i64 y)).setCell ⟨w.heap.size, 2, none⟩ (.int .i64 c)).setCell ⟨w.heap.size, 3, none⟩ (.int .i64 t)).setCell ⟨w.heap.size, 4, none⟩ (.int .i64 m)).setCell ⟨w.heap.size, 5, none⟩ (.int .i64 f)).setCell ⟨w.heap.size, 6, none⟩ (.bool bb)) ⟨w.heap.size + 1, 0, none⟩ (.bool true) hq2)
  have HK2 := hide ((keeps_seven (keeps_seven hk1 (Nat.le_refl _) (.int .i64 k) (.int .i64 y) (.int .i64 c) (.int .i64 t) (.int .i64 m) (.int .i64 f) (.bool bb)) (Nat.le_refl _) (.int .i64 k) (.int .i64 y) (.int .i64 c) (.int .i64 t) (.int .i64 m) (.int .i64 f) (.bool bb)).setCell (p := ⟨w.heap.size + 1, 0, none⟩) (Nat.le_succ _) (.bool true))
  go_wp2_with fail
  generalize ((((((((((((((w1.setCell ⟨w.heap.size, 0, none⟩ (.int .i64 k)).setCell ⟨w.heap.size, 1, none⟩ (.int .i64 y)).setCell ⟨w.heap.size, 2, none⟩ (.int .i64 c)).setCell ⟨w.heap.size, 3, none⟩ (.int .i64 t)).setCell ⟨w.heap.size, 4, none⟩ (.int .i64 m)).setCell ⟨w.heap.size, 5, none⟩ (.int .i64 f)).setCell ⟨w.heap.size, 6, none⟩ (.bool bb)).setCell ⟨w.heap.size, 0, none⟩ (.int .i64 k)).setCell ⟨w.heap.size, 1, none⟩ (.int .i64 y)).setCell ⟨w.heap.size, 2, none⟩ (.int .i64 c)).setCell ⟨w.heap.size, 3, none⟩ (.int .i64 t)).setCell ⟨w.heap.size, 4, none⟩ (.int .i64 m)).setCell ⟨w.heap.size, 5, none⟩ (.int .i64 f)).setCell ⟨w.heap.size, 6, none⟩ (.bool bb)).setCell ⟨w.heap.size + 1, 0, none⟩ (.bool true) = w2 at *
  have hO3 := HO3.out
  clear c0 d0 c1 d1 c2 d2 c3 d3 c4 d4 c5 d5 c6 d6
  have e0 := cell_at hO3.mem 0 (by simp)
  have e1 := cell_at hO3.mem 1 (by simp)
  have e2 := cell_at hO3.mem 2 (by simp)
  have e3 := cell_at hO3.mem 3 (by simp)
  have e4 := cell_at hO3.mem 4 (by simp)
  have e5 := cell_at hO3.mem 5 (by simp)
  have e6 := cell_at hO3.mem 6 (by simp)
  simp only [Nat.zero_add, List.getElem_cons_zero, List.getElem_cons_succ] at e0 e1 e2 e3 e4 e5 e6
  have e8 := HQ.out
  have hk2 := HK2.out
  refine leaves_cons (f := 81) (args := #[.pointer (some ⟨w.heap.size, 0, none⟩), .pointer (some ⟨w.heap.size + 1, 0, none⟩)]) (by simp) rfl ?_
  refine (catchE_idle _ _ _).mono ?_
  rintro e u' w' ⟨rfl, rfl, rfl⟩
  have hx := HX.out
  simp [Leaves, settle, results, Tryz.results44, go_sem, e0, e1, e2, e3, e4, e5, e6, e8, hk2]
  simpa using hx
theorem bodyevent_impl (b off : Nat) (L : List UInt8) (cap : Nat) (w : World) (u : TypeId) (pv : Value) (hv : w.cell? ⟨0, 0, none⟩ = some (.iface u pv)) (hc : Cells w (some ⟨b, off, none⟩) (bys L)) (hl : L.length ≤ 16777216) (hcap : L.length ≤ cap) (hcm : cap ≤ 9223372036854775807) :
    Calls Tryz.prog 44 #[.slice (some ⟨b, off, none⟩) L.length cap] w fun e w' => e = .returned (.tuple #[ebV L, .bool (ebB L)]) ∧ Keeps w w' := by
  cases hB : ebB L
  · unfold ebV
    rw [hB, if_neg (by simp)]
    exact bodyevent_no b off L cap w u pv hv hc hl hcap hcm hB
  · unfold ebV
    rw [hB, if_pos rfl]
    exact bodyevent_ok b off L cap w u pv hv hc hl hcap hcm hB
end Go.Proofs.YtkdnddckogbgaaaGreatDoor
namespace Go.Proofs.YtkdnddckogbgaaaGreatDoor
open Go.RowKit Go.Deep
set_option linter.unusedVariables false
set_option maxRecDepth 10000
set_option linter.unusedSimpArgs false
set_option maxHeartbeats 4000000 in
theorem body_spec (k y c t m f : Int) (b : Bool) (w : World) :
    Calls Tryz.prog 38 #[evV k y c t m f b] w (BodyPost w k y c t m f b) := by
  have HOK := hide (fun w1 => evok_spec k y c t m f b w1)
  have HKA := hide (Keeps.alloc (Keeps.refl w) (.cells (evCells k y c t m f b) 30))
  have HD : Hid (∀ w', Keeps (w.alloc (.cells (evCells k y c t m f b) 30)) w' → w'.cell? ⟨w.heap.size, 0, none⟩ = some (.int .i64 k) ∧ w'.cell? ⟨w.heap.size, 1, none⟩ = some (.int .i64 y) ∧ w'.cell? ⟨w.heap.size, 2, none⟩ = some (.int .i64 c) ∧ w'.cell? ⟨w.heap.size, 3, none⟩ = some (.int .i64 t) ∧ w'.cell? ⟨w.heap.size, 4, none⟩ = some (.int .i64 m) ∧ w'.cell? ⟨w.heap.size, 5, none⟩ = some (.int .i64 f) ∧ w'.cell? ⟨w.heap.size, 6, none⟩ = some (.bool b)) :=
    fun w' hk => ⟨hk.cell (by simp), hk.cell (by simp), hk.cell (by simp), hk.cell (by simp), hk.cell (by simp), hk.cell (by simp), hk.cell (by simp)⟩
  cases hb : evB k y c t m f b
  · rw [hb] at HOK
    have HB := hide hb
    clear hb
    go_enter Tryz.func38, Tryz.ntmps38
    go_wp2_with (go_at_call 37; refine (unhide HOK _).mono ?_; rintro x w1 ⟨rfl, hk1⟩)
    go_ret2
    exact BodyPost.no HB.out (HKA.out.trans hk1)
  · rw [hb] at HOK
    obtain ⟨⟨hk0, hk1⟩, ⟨hy0, hy1⟩, ⟨hc0, hc1⟩, ⟨ht0, ht1⟩, ⟨hm0, hm1⟩, ⟨hf0, hf1⟩⟩ := evB_bounds hb
    obtain ⟨k, rfl⟩ : ∃ n : Nat, k = n := ⟨k.toNat, by omega⟩
    obtain ⟨y, rfl⟩ : ∃ n : Nat, y = n := ⟨y.toNat, by omega⟩
    obtain ⟨c, rfl⟩ : ∃ n : Nat, c = n := ⟨c.toNat, by omega⟩
    obtain ⟨t, rfl⟩ : ∃ n : Nat, t = n := ⟨t.toNat, by omega⟩
    obtain ⟨m, rfl⟩ : ∃ n : Nat, m = n := ⟨m.toNat, by omega⟩
    obtain ⟨f, rfl⟩ : ∃ n : Nat, f = n := ⟨f.toNat, by omega⟩
    have HB := hide hb
    have HY : Hid (y < 256 ^ 3) := by show y < 16777216; omega
    have HM : Hid (m < 256 ^ 7) := by show m < 72057594037927936; omega
    have HF : Hid (f < 256 ^ 7) := by show f < 72057594037927936; omega
    have HK : Hid (k < 256) := by show _ < _; omega
    have wk : (((k : Nat) : Int) % 256) = (k : Int) := by omega
    have HC : Hid (c < 256) := by show _ < _; omega
    have wc : (((c : Nat) : Int) % 256) = (c : Int) := by omega
    have HT : Hid (t < 256) := by show _ < _; omega
    have wt : (((t : Nat) : Int) % 256) = (t : Int) := by omega
    have Bk : Hid (byV (UInt8.ofNat k) = .int .u8 (k : Int)) := nat_byte HK.out
    have Bc : Hid (byV (UInt8.ofNat c) = .int .u8 (c : Int)) := nat_byte HC.out
    have Bt : Hid (byV (UInt8.ofNat t) = .int .u8 (t : Int)) := nat_byte HT.out
    clear hb hk0 hk1 hy0 hy1 hc0 hc1 ht0 ht1 hm0 hm1 hf0 hf1
    go_enter Tryz.func38, Tryz.ntmps38
    go_wp2_with fail
    refine (unhide HOK _).mono ?_
    rintro x w1 ⟨rfl, hk1⟩
    have HK1 := hide hk1
    obtain ⟨d0, d1, d2, d3, d4, d5, d6⟩ := HD.out _ hk1
    clear hk1
    have HCJ : Hid (Cells (w1.alloc (.cells #[.int .u8 69, .int .u8 (k : Int)] 5)) (some ⟨w1.heap.size, 0, none⟩) (bys [69, UInt8.ofNat k])) := by
      have h := cells_two w1 69 (UInt8.ofNat k)
      rw [Bk.out] at h
      exact h
    have HK2 := hide (Keeps.alloc (Keeps.refl w1) (.cells #[.int .u8 69, .int .u8 (k : Int)] 5))
    have hz : w.heap.size < w1.heap.size := by have := HK1.out.size; simp at this; omega
    go_wp2_with fail
    generalize w1.alloc (.cells #[.int .u8 69, .int .u8 (k : Int)] 5) = w2 at *
    refine (put_good (some ⟨w1.heap.size, 0, none⟩) 2 ([69, UInt8.ofNat k]) y 3 w2 HCJ.out (fun e => nomatch e) (by simp) (by decide) (by decide) HY.out).mono ?_
    rintro x w3 ⟨v3, rfl, ho, hk⟩
    have HK3 := hide (HK2.out.trans hk)
    have HO3 : Hid (OwnsB w3 w1.heap.size v3 ([69, UInt8.ofNat k] ++ digs y 3)) := OwnsB.older ho HK2.out.size
    clear ho hk HK2
    clear d0 d1 d2 d3 d4 d5 d6
    obtain ⟨d0, d1, d2, d3, d4, d5, d6⟩ := HD.out _ (HK1.out.trans HK3.out)
    obtain ⟨a3, c3, rfl, _, _, hn3, ho3, _⟩ := Own.of_owns HO3.out
    have HH3 := hide hn3
    have HC3 : Hid (Cells w3 a3 (bys ([69, UInt8.ofNat k] ++ digs y 3))) := ho3.one
    clear hn3 ho3
    have HX : Hid ((([69, UInt8.ofNat k] ++ digs y 3) : List UInt8).length + 2 ≤ 4194304) := by show _ ≤ _; simp [digs_length]
    have HCJ2 : Hid (Cells (w3.alloc (.cells #[.int .u8 (c : Int), .int .u8 (t : Int)] 5)) (some ⟨w3.heap.size, 0, none⟩) (bys [UInt8.ofNat c, UInt8.ofNat t])) := by
      have h := cells_two w3 (UInt8.ofNat c) (UInt8.ofNat t)
      rw [Bc.out, Bt.out] at h
      exact h
    have HOJ := hide (HO3.out.allocE (.cells #[.int .u8 (c : Int), .int .u8 (t : Int)] 5))
    have HKJ := hide (Keeps.alloc HK3.out (.cells #[.int .u8 (c : Int), .int .u8 (t : Int)] 5))
    go_wp2_with (at_builtin; refine app_bys rfl (.tmp 19) (.tmp 26) rfl w1.heap.size _ ([69, UInt8.ofNat k] ++ digs y 3) [UInt8.ofNat c, UInt8.ofNat t] rfl (some ⟨w3.heap.size, 0, none⟩) 2 rfl HCJ2.out (fun e => nomatch e) HOJ.out HX.out (by simp; have := HK3.out.size; omega) ?_; intro v4 w4 ho hg; have HK4 := hide (Keeps.grown HKJ.out hg (fun k hk => (HOJ.out.lt k hk).1)); have HO4 : Hid (OwnsB w4 w1.heap.size v4 ([69, UInt8.ofNat k] ++ digs y 3 ++ [UInt8.ofNat c, UInt8.ofNat t])) := ho; clear ho hg; clear d0 d1 d2 d3 d4 d5 d6; obtain ⟨d0, d1, d2, d3, d4, d5, d6⟩ := HD.out _ (HK1.out.trans HK4.out); obtain ⟨a4, c4, rfl, _, _, hn4, ho4, _⟩ := Own.of_owns HO4.out)
    have HH4 := hide hn4
    have HC4 : Hid (Cells w4 a4 (bys ([69, UInt8.ofNat k] ++ digs y 3 ++ [UInt8.ofNat c, UInt8.ofNat t]))) := ho4.one
    clear hn4 ho4 HCJ2 HOJ HKJ HX
    refine (put_good a4 c4 ([69, UInt8.ofNat k] ++ digs y 3 ++ [UInt8.ofNat c, UInt8.ofNat t]) m 7 w4 HC4.out HH4.out (by simp [digs_length]) (by decide) (by decide) HM.out).mono ?_
    rintro x w5 ⟨v5, rfl, ho, hk⟩
    have HK5 := hide (HK4.out.trans hk)
    have HO5 : Hid (OwnsB w5 w1.heap.size v5 ([69, UInt8.ofNat k] ++ digs y 3 ++ [UInt8.ofNat c, UInt8.ofNat t] ++ digs m 7)) := OwnsB.older ho HK4.out.size
    clear ho hk HK4
    clear d0 d1 d2 d3 d4 d5 d6
    obtain ⟨d0, d1, d2, d3, d4, d5, d6⟩ := HD.out _ (HK1.out.trans HK5.out)
    obtain ⟨a5, c5, rfl, _, _, hn5, ho5, _⟩ := Own.of_owns HO5.out
    have HH5 := hide hn5
    have HC5 : Hid (Cells w5 a5 (bys ([69, UInt8.ofNat k] ++ digs y 3 ++ [UInt8.ofNat c, UInt8.ofNat t] ++ digs m 7))) := ho5.one
    clear hn5 ho5
    go_wp2_with fail
    refine (put_good a5 c5 ([69, UInt8.ofNat k] ++ digs y 3 ++ [UInt8.ofNat c, UInt8.ofNat t] ++ digs m 7) f 7 w5 HC5.out HH5.out (by simp [digs_length]) (by decide) (by decide) HF.out).mono ?_
    rintro x w6 ⟨v6, rfl, ho, hk⟩
    have HK6 := hide (HK5.out.trans hk)
    have HO6 : Hid (OwnsB w6 w1.heap.size v6 ([69, UInt8.ofNat k] ++ digs y 3 ++ [UInt8.ofNat c, UInt8.ofNat t] ++ digs m 7 ++ digs f 7)) := OwnsB.older ho HK5.out.size
    clear ho hk HK5
    clear d0 d1 d2 d3 d4 d5 d6
    obtain ⟨d0, d1, d2, d3, d4, d5, d6⟩ := HD.out _ (HK1.out.trans HK6.out)
    obtain ⟨a6, c6, rfl, _, _, hn6, ho6, _⟩ := Own.of_owns HO6.out
    have HH6 := hide hn6
    have HC6 : Hid (Cells w6 a6 (bys ([69, UInt8.ofNat k] ++ digs y 3 ++ [UInt8.ofNat c, UInt8.ofNat t] ++ digs m 7 ++ digs f 7))) := ho6.one
    clear hn6 ho6
    have HX : Hid ((([69, UInt8.ofNat k] ++ digs y 3 ++ [UInt8.ofNat c, UInt8.ofNat t] ++ digs m 7 ++ digs f 7) : List UInt8).length + 1 ≤ 4194304) := by show _ ≤ _; simp [digs_length]
    cases b
    · have HCJ : Hid (Cells (w6.alloc (.cells #[.int .u8 0] 5)) (some ⟨w6.heap.size, 0, none⟩) (bys [0])) := cells_one w6 0
      have HOJ := hide (HO6.out.allocE (.cells #[.int .u8 0] 5))
      have HKJ := hide (Keeps.alloc HK6.out (.cells #[.int .u8 0] 5))
      go_wp2_with (at_builtin; refine app_bys rfl (.tmp 47) (.tmp 48) rfl w1.heap.size _ ([69, UInt8.ofNat k] ++ digs y 3 ++ [UInt8.ofNat c, UInt8.ofNat t] ++ digs m 7 ++ digs f 7) [0] rfl (some ⟨w6.heap.size, 0, none⟩) 1 rfl HCJ.out (fun e => nomatch e) HOJ.out HX.out (by simp; have := HK6.out.size; omega) ?_; intro v7 w7 ho hg)
      go_ret2
      refine BodyPost.yes HB.out ?_ (HKA.out.trans (HK1.out.trans (Keeps.grown HKJ.out hg (fun k hk => (HOJ.out.lt k hk).1))))
      refine OwnsB.older (base := w1.heap.size) ?_ (HKA.out.trans HK1.out).size
      unfold bodyL yesL
      rw [digs_one, digs_one, digs_one]
      simpa using ho
    · have HCJ : Hid (Cells (w6.alloc (.cells #[.int .u8 1] 5)) (some ⟨w6.heap.size, 0, none⟩) (bys [1])) := cells_one w6 1
      have HOJ := hide (HO6.out.allocE (.cells #[.int .u8 1] 5))
      have HKJ := hide (Keeps.alloc HK6.out (.cells #[.int .u8 1] 5))
      go_wp2_with (at_builtin; refine app_bys rfl (.tmp 44) (.tmp 45) rfl w1.heap.size _ ([69, UInt8.ofNat k] ++ digs y 3 ++ [UInt8.ofNat c, UInt8.ofNat t] ++ digs m 7 ++ digs f 7) [1] rfl (some ⟨w6.heap.size, 0, none⟩) 1 rfl HCJ.out (fun e => nomatch e) HOJ.out HX.out (by simp; have := HK6.out.size; omega) ?_; intro v7 w7 ho hg)
      go_ret2
      refine BodyPost.yes HB.out ?_ (HKA.out.trans (HK1.out.trans (Keeps.grown HKJ.out hg (fun k hk => (HOJ.out.lt k hk).1))))
      refine OwnsB.older (base := w1.heap.size) ?_ (HKA.out.trans HK1.out).size
      unfold bodyL yesL
      rw [digs_one, digs_one, digs_one]
      simpa using ho
end Go.Proofs.YtkdnddckogbgaaaGreatDoor
namespace Go.Proofs.YtkdnddckogbgaaaGreatDoor
open Go.RowKit Go.Deep
set_option linter.unusedVariables false

/-- A list of bytes as a text. -/
def strL (L : List UInt8) : ByteArray := ⟨L.toArray⟩
theorem push_fold : ∀ (L : List UInt8) (r : ByteArray), (L.map (fun x => (x.toNat : Int))).foldl (fun (r : ByteArray) (n : Int) => r.push (UInt8.ofNat n.toNat)) r = ⟨r.data ++ L.toArray⟩
  | [], r => by simp
  | x :: t, r => by
    rw [List.map_cons, List.foldl_cons, push_fold t]
    have e : UInt8.ofNat (Int.toNat (x.toNat : Int)) = x := by simp
    rw [e]
    simp [ByteArray.push]
theorem str_of (a : Option Addr) (cap : Nat) (L : List UInt8) (w : World) (b off : Nat) (ha : a = some ⟨b, off, none⟩) (hc : Cells w a (bys L)) :
    (convert 22 9 (.slice a L.length cap)).run Tryz.prog w = .ok (.string (strL L)) w := by
  subst ha
  rw [run_convert_bytes_string w 22 9 5 _ _ _ underBytes Tryz.underlying5 Tryz.underlying9]
  have hl : (loadCells ⟨b, off, none⟩ L.length).run Tryz.prog w = .ok (bys L).toArray w := by
    have h := run_loadCells_list (P := Tryz.prog) (w := w) ⟨b, off, none⟩ (bys L) (fun j v hj => by
      obtain ⟨hj', e⟩ := List.getElem?_eq_some_iff.1 hj
      rw [add_at]
      rcases hc with h' | ⟨b', off', e', h'⟩
      · rw [h'] at hj'; simp at hj'
      · have e2 := Option.some.inj e'
        injection e2 with e3 e4
        subst e3 e4
        rw [h' j hj', e])
    rw [bys_length] at h
    exact h
  have e : bys L = (L.map (fun x => (x.toNat : Int))).map (Value.int .u8) := by simp [bys, byV]
  rw [e] at hl
  rw [run_bytesToString w _ _ cap _ hl, push_fold]
  simp [strL]
theorem strL_list (L : List UInt8) : (strL L).toList = L := by rw [ByteArray.toList_eq]; simp [strL]
theorem strL_beq (L M : List UInt8) : ((strL L).toList == (strL M).toList) = decide (L = M) := by
  rw [strL_list, strL_list, Bool.eq_iff_iff]; simp
end Go.Proofs.YtkdnddckogbgaaaGreatDoor
