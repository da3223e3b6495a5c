/- Texts of the verifier, joined: SRF, Lst, DG. -/
import Derived.Test.YtkdnddckogbgaaaDoorLE5
import Derived.Tactics2
import Derived.Defers
import Derived.Recover
import Derived.Laws.Pointers
import Derived.Test.YtkdnddckogbgaaaDoorLE2
import Derived.Test.YtkdnddckogbgaaaDoorLE3
namespace Go.Proofs.YtkdnddckogbgaaaDoor
open Go.RowKit Go.Deep
set_option linter.unusedVariables false
set_option linter.unusedSimpArgs false
set_option maxRecDepth 10000
theorem sector_len (B : Nat) (ad : Option Addr) (n cap : Nat) (w : World) (u : TypeId) (pv : Value) (hv : w.cell? ⟨0, 0, none⟩ = some (.iface u pv)) (hd : w.cell? ⟨B, 0, none⟩ = some (.slice ad n cap)) (hl : n ≤ 16777216) (h22 : n ≠ 128) :
    Calls Tryd.prog 65 #[.pointer (some ⟨B, 0, none⟩)] w fun e w' => e = .panicked [{ v := .iface u pv, recovered := false }] ∧ Turn [B] w w' := by
  have hn : ((n : Int) == 128) = false := beq_eq_false_iff_ne.2 (by omega)
  have hk := Keeps.alloc (Keeps.refl w) (.cells #[.int .i64 0, .int .i64 0, .slice none 0 0] 52)
  have d0 := hk.cell hd
  have HV := hide (hk.cell hv)
  have HK := hide hk
  clear h22 hk hd hv
  go_enter Tryd.func65, Tryd.ntmps65
  go_wp2_with fail
  go_at_call 69
  refine (insist_no _ u pv HV.out).mono ?_
  rintro e w' ⟨rfl, rfl⟩
  exact ⟨rfl, rfl, Turn.of_keeps HK.out _⟩
set_option maxHeartbeats 2000000 in
theorem catchS_panic (R Q : Nat) (hRQ : R ≠ Q) (x0 x1 x2 y : Value) (u : TypeId) (pv : Value) (older : List PanicEntry) (w : World) (hR : Own w [(some ⟨R, 0, none⟩, [x0, x1, x2])]) (hc : w.cell? ⟨Q, 0, none⟩ = some y) (hz : w.frozen? ⟨Q, 0, none⟩ = false) :
    CallsD Tryd.prog 64 #[.pointer (some ⟨R, 0, none⟩), .pointer (some ⟨Q, 0, none⟩)] (.panicking ({ v := .iface u pv, recovered := false } :: older)) w fun e u' w' =>
      e = .returned (.tuple #[]) ∧ u' = .panicking ({ v := .iface u pv, recovered := true } :: older) ∧ w' = (((w.setCell ⟨R, 0, none⟩ (.int .i64 0)).setCell ⟨R, 1, none⟩ (.int .i64 0)).setCell ⟨R, 2, none⟩ (.slice none 0 0)).setCell ⟨Q, 0, none⟩ (.bool false) := by
  have c0 := cell_at hR.mem 0 (by simp)
  have c1 := cell_at hR.mem 1 (by simp)
  have c2 := cell_at hR.mem 2 (by simp)
  simp only [Nat.zero_add, List.getElem_cons_zero, List.getElem_cons_succ] at c0 c1 c2
  have fR : ∀ i, w.frozen? ⟨R, i, none⟩ = false := hR.free R (by rw [fp_one, fpS_some (by simp)]; simp)
  refine callsD_of_wpS Tryd.func64 rfl fun c₀ cs hu => ?_
  apply wpS_seq
  apply wpS_region
  simp [wpOpsS, go_sem, recoverD, hu, Tryd.ntmps64, Exit.thenS]
  refine wpS_cond (t := true) (by simp [Act.eval, Array.replicate]) ?_
  simp only [if_true]
  apply wpS_region
  simp [wpOpsS, go_sem, c0, c1, c2, fR, hc, hz, hRQ, Ne.symm hRQ, bodyPostS, results, Tryd.results64]
theorem catchS_idle (p q : Addr) (w : World) :
    CallsD Tryd.prog 64 #[.pointer (some p), .pointer (some q)] .returning w fun e u' w' => e = .returned (.tuple #[]) ∧ u' = .returning ∧ w' = w := by
  refine callsD_of_wpS Tryd.func64 rfl fun c₀ cs hu => ?_
  apply wpS_seq
  apply wpS_region
  simp [wpOpsS, go_sem, recoverD, hu, Tryd.ntmps64, Exit.thenS]
  refine wpS_cond (t := false) (by simp [Act.eval, Array.replicate]) ?_
  simp only [Bool.false_eq_true, if_false]
  refine wpS_of_wp (wp_skip ?_)
  cases c₀
  simp_all [bodyPostS, results, Tryd.results64]
theorem sector_no (B b off : Nat) (L : List UInt8) (cap : Nat) (w : World) (u : TypeId) (pv : Value) (hv : w.cell? ⟨0, 0, none⟩ = some (.iface u pv)) (hgB : 0 ≠ B) (hr : Rd w B (some ⟨b, off, none⟩) L cap (0 : Nat)) (hb : L.length = 128 → b ≠ B ∧ b < w.heap.size) (hBl : B < w.heap.size) (hc : Cells w (some ⟨b, off, none⟩) (bys L)) (hl : L.length ≤ 16777216) (hcap : L.length ≤ cap) (hcm : cap ≤ 9223372036854775807) (hB : srB L = false) :
    Calls Tryd.prog 65 #[.pointer (some ⟨B, 0, none⟩)] w fun e w' => e = .panicked [{ v := .iface u pv, recovered := false }] ∧ Turn [B] w w' := by
  by_cases h128 : L.length = 128
  · obtain ⟨h1, h2⟩ := hb h128
    by_cases hz : numL (cut L 0 1) = 74
    · by_cases hn : numL (cut L 7 1) ≤ 100
      · by_cases hzr : cut L (8 + numL (cut L 7 1)) (114 - numL (cut L 7 1)) = List.replicate (114 - numL (cut L 7 1)) 0
        · by_cases hq : numL (cut L 122 3) = numL (cut L 1 3)
          · by_cases he : numL (cut L 125 3) = numL (cut L 4 3)
            · refine sector_ok B b off L cap w u pv hv hgB hr h1 hBl h2 hc hcap hcm h128 (numL (cut L 0 1)) (numL (cut L 1 3)) (numL (cut L 4 3)) (numL (cut L 7 1)) (numL (cut L 122 3)) (numL (cut L 125 3)) rfl rfl rfl rfl rfl rfl hz hn hzr hq he ?_
              unfold srB at hB
              rw [decide_eq_true h128, decide_eq_true hz, decide_eq_true hn, decide_eq_true hzr, decide_eq_true hq, decide_eq_true he] at hB
              simpa using hB
            · exact sector_epoch B b off L cap w u pv hv hgB hr h1 hBl h2 hc hcap hcm h128 (numL (cut L 0 1)) (numL (cut L 1 3)) (numL (cut L 4 3)) (numL (cut L 7 1)) (numL (cut L 122 3)) (numL (cut L 125 3)) rfl rfl rfl rfl rfl rfl hz hn hzr hq he
          · exact sector_seq B b off L cap w u pv hv hgB hr h1 hBl h2 hc hcap hcm h128 (numL (cut L 0 1)) (numL (cut L 1 3)) (numL (cut L 4 3)) (numL (cut L 7 1)) (numL (cut L 122 3)) (numL (cut L 125 3)) rfl rfl rfl rfl rfl rfl hz hn hzr hq
        · exact sector_zeros B b off L cap w u pv hv hgB hr h1 hBl h2 hc hcap hcm h128 (numL (cut L 0 1)) (numL (cut L 1 3)) (numL (cut L 4 3)) (numL (cut L 7 1)) (numL (cut L 122 3)) (numL (cut L 125 3)) rfl rfl rfl rfl rfl rfl hz hn hzr
      · exact sector_size B b off L cap w u pv hv hgB hr h1 hBl h2 hc hcap hcm h128 (numL (cut L 0 1)) (numL (cut L 1 3)) (numL (cut L 4 3)) (numL (cut L 7 1)) (numL (cut L 122 3)) (numL (cut L 125 3)) rfl rfl rfl rfl rfl rfl hz hn
    · exact sector_first B b off L cap w u pv hv hgB hr h1 hBl h2 hc hcap hcm h128 (numL (cut L 0 1)) (numL (cut L 1 3)) (numL (cut L 4 3)) (numL (cut L 7 1)) (numL (cut L 122 3)) (numL (cut L 125 3)) rfl rfl rfl rfl rfl rfl hz
  · exact sector_len B _ L.length cap w u pv hv hr.data hl h128
theorem sector_good (B b off : Nat) (L : List UInt8) (cap : Nat) (w : World) (u : TypeId) (pv : Value) (hv : w.cell? ⟨0, 0, none⟩ = some (.iface u pv)) (hgB : 0 ≠ B) (hr : Rd w B (some ⟨b, off, none⟩) L cap (0 : Nat)) (hb : L.length = 128 → b ≠ B ∧ b < w.heap.size) (hBl : B < w.heap.size) (hc : Cells w (some ⟨b, off, none⟩) (bys L)) (hl : L.length ≤ 16777216) (hcap : L.length ≤ cap) (hcm : cap ≤ 9223372036854775807) (hB : srB L = true) :
    Calls Tryd.prog 65 #[.pointer (some ⟨B, 0, none⟩)] w fun x w' => ∃ (ab : Option Addr) (cb : Nat), x = .returned (secV (numL (cut L 1 3) : Nat) (numL (cut L 4 3) : Nat) ab (cut L 8 (numL (cut L 7 1))).length cb) ∧ CapB ab cb (cut L 8 (numL (cut L 7 1))).length ∧ Born w w' [(ab, bys (cut L 8 (numL (cut L 7 1))))] ∧ Turn [B] w w' := by
  unfold srB at hB
  simp only [Bool.and_eq_true, decide_eq_true_eq] at hB
  obtain ⟨⟨⟨⟨⟨⟨h128, hz⟩, hn⟩, hzr⟩, hq⟩, he⟩, hok⟩ := hB
  obtain ⟨h1, h2⟩ := hb h128
  exact sector_yes B b off L cap w u pv hv hgB hr h1 hBl h2 hc hcap hcm h128 (numL (cut L 0 1)) (numL (cut L 1 3)) (numL (cut L 4 3)) (numL (cut L 7 1)) (numL (cut L 122 3)) (numL (cut L 125 3)) rfl rfl rfl rfl rfl rfl hz hn hzr hq he hok
/-- The world where SectorRead calls sector. -/
abbrev threeS (w : World) (ad : Option Addr) (l cap : Nat) : World := ((w.alloc (Obj.cells #[.int .i64 0, .int .i64 0, .slice none 0 0] 52)).alloc (Obj.cells #[Value.bool false] 4)).alloc (Obj.cells #[.slice ad l cap, .int .i64 0] 96)
theorem threeS_keeps (w : World) (ad : Option Addr) (l cap : Nat) : Keeps w (threeS w ad l cap) := (((Keeps.refl w).alloc _).alloc _).alloc _
theorem threeS_rd (w : World) (ad : Option Addr) (L : List UInt8) (cap : Nat) : Rd (threeS w ad L.length cap) (w.heap.size + 1 + 1) ad L cap ((0 : Nat) : Int) :=
  ⟨by rw [World.cell?_alloc_at _ _ _ _ (by simp)]; rfl, by rw [World.cell?_alloc_at _ _ _ _ (by simp)]; rfl, by rw [World.frozen?_alloc_at _ _ _ _ (by simp)]⟩
theorem threeS_own (w : World) (ad : Option Addr) (l cap : Nat) : Own (threeS w ad l cap) [(some ⟨w.heap.size, 0, none⟩, [.int .i64 0, .int .i64 0, .slice none 0 0])] :=
  (((born_alloc w #[.int .i64 0, .int .i64 0, .slice none 0 0] 52).toOwn.kept (Keeps.alloc (Keeps.refl _) _)).kept (Keeps.alloc (Keeps.refl _) _))
theorem threeS_b (w : World) (ad : Option Addr) (l cap : Nat) : (threeS w ad l cap).cell? ⟨w.heap.size + 1, 0, none⟩ = some (.bool false) := by
  rw [World.cell?_alloc_past _ _ _ (by simp), World.cell?_alloc_at _ _ _ _ (by simp)]; rfl
theorem threeS_zb (w : World) (ad : Option Addr) (l cap : Nat) : (threeS w ad l cap).frozen? ⟨w.heap.size + 1, 0, none⟩ = false := by
  rw [World.frozen?_alloc_past _ _ _ (by simp), World.frozen?_alloc_at _ _ _ _ (by simp)]
theorem keeps_threeB {W w : World} {R : Nat} (h : Keeps W w) (hR : W.heap.size ≤ R) (y0 y1 y2 : Value) : Keeps W (((w.setCell ⟨R, 0, none⟩ (y0)).setCell ⟨R, 1, none⟩ (y1)).setCell ⟨R, 2, none⟩ (y2)) :=
  (((h.setCell (p := ⟨R, 0, none⟩) hR y0).setCell (p := ⟨R, 1, none⟩) hR y1).setCell (p := ⟨R, 2, none⟩) hR y2)
theorem three_other {w : World} {R : Nat} {p : Addr} (hp : p.block ≠ R) {v : Value} (h : w.cell? p = some v) (y0 y1 y2 : Value) : (((w.setCell ⟨R, 0, none⟩ (y0)).setCell ⟨R, 1, none⟩ (y1)).setCell ⟨R, 2, none⟩ (y2)).cell? p = some v := by
  iterate 3 rw [World.cell?_setCell_other _ _ _ _ (fun e => hp (by rw [← e]))]
  exact h
theorem own_threeO {w : World} {R : Nat} {S : List Seg} (h : Own w S) (hn : ∀ x ∈ fp S, x ≠ R) (y0 y1 y2 : Value) : Own (((w.setCell ⟨R, 0, none⟩ (y0)).setCell ⟨R, 1, none⟩ (y1)).setCell ⟨R, 2, none⟩ (y2)) S :=
  own_setB (a := ⟨R, 2, none⟩) (own_setB (a := ⟨R, 1, none⟩) (own_setB (a := ⟨R, 0, none⟩) h y0 hn) y1 hn) y2 hn
theorem fp_ne {R R' : Nat} {xs : List Value} (h : R ≠ R') : ∀ x ∈ fp [((some ⟨R, 0, none⟩ : Option Addr), xs)], x ≠ R' := fun x hx e => by
  rw [fp_one] at hx
  by_cases h0 : xs = []
  · simp [fpS, h0] at hx
  · rw [fpS_some h0] at hx
    exact h ((show x = R by simpa using hx).symm.trans e)
set_option maxHeartbeats 4000000 in
theorem secread_no (b off : Nat) (L : List UInt8) (cap : Nat) (w : World) (u : TypeId) (pv : Value) (hv : w.cell? ⟨0, 0, none⟩ = some (.iface u pv)) (hc : Cells w (some ⟨b, off, none⟩) (bys L)) (hl : L.length ≤ 16777216) (hcap : L.length ≤ cap) (hcm : cap ≤ 9223372036854775807) (hB : srB L = false) :
    Calls Tryd.prog 54 #[.slice (some ⟨b, off, none⟩) L.length cap] w (SrPost w L) := by
  have hmf : ∀ (fn : Fn) (first cap : Array Value) (w : World), (Instr.makeFunc fn first cap).run Tryd.prog w = .ok (.func fn first cap) w := fun _ _ _ _ => rfl
  have hk3 := threeS_keeps w (some ⟨b, off, none⟩) L.length cap
  have hgl := lt_of_cell hv
  have hbb : L.length = 128 → b < w.heap.size := fun h22 => by
    rcases hc with h' | ⟨b', off', e, h'⟩
    · rw [bys_nil] at h'; subst h'; simp at h22
    · have e' := Option.some.inj e
      injection e' with e1 e2
      subst e1 e2
      exact lt_of_cell (h' 0 (by rw [bys_length]; omega))
  have HE := hide (sector_no (w.heap.size + 1 + 1) b off L cap (threeS w (some ⟨b, off, none⟩) L.length cap) u pv (hk3.cell hv) (by omega) (threeS_rd w _ L cap) (fun h => by have := hbb h; exact ⟨by omega, by simp; omega⟩) (by simp) (hc.kept hk3) hl hcap hcm hB)
  have HO := hide (threeS_own w (some ⟨b, off, none⟩) L.length cap)
  have H1 := hide (threeS_b w (some ⟨b, off, none⟩) L.length cap)
  have H2 := hide (threeS_zb w (some ⟨b, off, none⟩) L.length cap)
  have HK := hide hk3
  have HSZ : Hid ((threeS w (some ⟨b, off, none⟩) L.length cap).heap.size = w.heap.size + 3) := by show _ = _; simp
  have HB := hide hB
  clear hk3 hv hc hB hbb hgl
  go_enter_defers Tryd.func54, Tryd.ntmps54
  go_wp2_with fail
  go_at_call 65
  refine (unhide HE).mono ?_
  rintro e w1 ⟨rfl, ht⟩
  have hO := HO.out.turn ht (fun x hx hb => by
    rw [fp_one, fpS_some (by simp)] at hx
    simp at hx hb
    omega)
  have t1 := ht.cell (p := ⟨w.heap.size + 1, 0, none⟩) (by simp) H1.out
  have z1 : w1.frozen? ⟨w.heap.size + 1, 0, none⟩ = false := by rw [← H2.out]; exact World.frozen?_of_block (ht.block _ (by simp) (by simp))
  have hk1 : Keeps w w1 := ht.keeps HK.out (fun x hx => by simp at hx; omega)
  clear ht HE HO H1 H2 HK HSZ
  have hO2 := own_setB (a := ⟨w.heap.size + 1, 0, none⟩) (own_threeB hO (.int .i64 0) (.int .i64 0) (.slice none 0 0)) (.bool false) (fp_ne (by simp))
  have hk2 := (keeps_threeB hk1 (Nat.le_refl _) (.int .i64 0) (.int .i64 0) (.slice none 0 0)).setCell (p := ⟨w.heap.size + 1, 0, none⟩) (Nat.le_succ _) (.bool false)
  have e8 := World.cell?_setCell_same (((w1.setCell ⟨w.heap.size, 0, none⟩ (.int .i64 0)).setCell ⟨w.heap.size, 1, none⟩ (.int .i64 0)).setCell ⟨w.heap.size, 2, none⟩ (.slice none 0 0)) ⟨w.heap.size + 1, 0, none⟩ (.bool false) (three_other (R := w.heap.size) (p := ⟨w.heap.size + 1, 0, none⟩) (by simp) t1 (.int .i64 0) (.int .i64 0) (.slice none 0 0))
  have e0 := cell_at hO2.mem 0 (by simp)
  have e1 := cell_at hO2.mem 1 (by simp)
  have e2 := cell_at hO2.mem 2 (by simp)
  simp only [Nat.zero_add, List.getElem_cons_zero, List.getElem_cons_succ] at e0 e1 e2
  have hP := SrPost.no HB.out hk2
  refine leaves_cons (f := 64) (args := #[.pointer (some ⟨w.heap.size, 0, none⟩), .pointer (some ⟨w.heap.size + 1, 0, none⟩)]) (by simp) rfl ?_
  refine (catchS_panic w.heap.size (w.heap.size + 1) (by omega) _ _ _ _ u pv [] w1 hO t1 z1).mono ?_
  rintro e u' w' ⟨rfl, rfl, hw'⟩
  rw [← hw'] at e0 e1 e2 e8 hP
  simp [Leaves, settle, results, Tryd.results54, go_sem, e0, e1, e2, e8]
  exact hP
set_option maxHeartbeats 4000000 in
theorem secread_ok (b off : Nat) (L : List UInt8) (cap : Nat) (w : World) (u : TypeId) (pv : Value) (hv : w.cell? ⟨0, 0, none⟩ = some (.iface u pv)) (hc : Cells w (some ⟨b, off, none⟩) (bys L)) (hl : L.length ≤ 16777216) (hcap : L.length ≤ cap) (hcm : cap ≤ 9223372036854775807) (hB : srB L = true) :
    Calls Tryd.prog 54 #[.slice (some ⟨b, off, none⟩) L.length cap] w (SrPost w L) := by
  have hmf : ∀ (fn : Fn) (first cap : Array Value) (w : World), (Instr.makeFunc fn first cap).run Tryd.prog w = .ok (.func fn first cap) w := fun _ _ _ _ => rfl
  have hk3 := threeS_keeps w (some ⟨b, off, none⟩) L.length cap
  have hgl := lt_of_cell hv
  have hbb : L.length = 128 → b < w.heap.size := fun h22 => by
    rcases hc with h' | ⟨b', off', e, h'⟩
    · rw [bys_nil] at h'; subst h'; simp at h22
    · have e' := Option.some.inj e
      injection e' with e1 e2
      subst e1 e2
      exact lt_of_cell (h' 0 (by rw [bys_length]; omega))
  have HE := hide (sector_good (w.heap.size + 1 + 1) b off L cap (threeS w (some ⟨b, off, none⟩) L.length cap) u pv (hk3.cell hv) (by omega) (threeS_rd w _ L cap) (fun h => by have := hbb h; exact ⟨by omega, by simp; omega⟩) (by simp) (hc.kept hk3) hl hcap hcm hB)
  have HO := hide (threeS_own w (some ⟨b, off, none⟩) L.length cap)
  have H1 := hide (threeS_b w (some ⟨b, off, none⟩) L.length cap)
  have H2 := hide (threeS_zb w (some ⟨b, off, none⟩) L.length cap)
  have HK := hide hk3
  have HSZ : Hid ((threeS w (some ⟨b, off, none⟩) L.length cap).heap.size = w.heap.size + 3) := by show _ = _; simp
  have HB := hide hB
  clear hk3 hv hc hB hbb hgl
  go_enter_defers Tryd.func54, Tryd.ntmps54
  go_wp2_with fail
  go_at_call 65
  refine (unhide HE).mono ?_
  rintro e w1 ⟨ab, cb, rfl, hnc, hbo, ht⟩
  have hO := HO.out.turn ht (fun x hx hb => by
    rw [fp_one, fpS_some (by simp)] at hx
    simp at hx hb
    omega)
  have t1 := ht.cell (p := ⟨w.heap.size + 1, 0, none⟩) (by simp) H1.out
  have z1 : w1.frozen? ⟨w.heap.size + 1, 0, none⟩ = false := by rw [← H2.out]; exact World.frozen?_of_block (ht.block _ (by simp) (by simp))
  have hk1 : Keeps w w1 := ht.keeps HK.out (fun x hx => by simp at hx; omega)
  have hbn : ∀ x ∈ fp [(ab, bys (cut L 8 (numL (cut L 7 1))))], x ≠ w.heap.size ∧ x ≠ w.heap.size + 1 ∧ w.heap.size ≤ x := fun x hx => by
    have h1 := hbo.new x hx
    rw [HSZ.out] at h1
    omega
  clear ht HE HO H1 H2 HK HSZ
  generalize hqe : numL (cut L 1 3) = q at *
  generalize hee : numL (cut L 4 3) = e at *
  generalize hne : numL (cut L 7 1) = n at *
  have HQ := hide hqe
  have HEe := hide hee
  have HNn := hide hne
  clear hqe hee hne
  have hO1 := own_threeB hO (.int .i64 (q : Int)) (.int .i64 (e : Int)) (.slice ab (cut L 8 n).length cb)
  have hO2 := own_threeB hO1 (.int .i64 (q : Int)) (.int .i64 (e : Int)) (.slice ab (cut L 8 n).length cb)
  have HO3 := hide (own_setB (a := ⟨w.heap.size + 1, 0, none⟩) hO2 (.bool true) (fp_ne (by simp)))
  have HY := hide (own_setB (a := ⟨w.heap.size + 1, 0, none⟩) (own_threeO (own_threeO hbo.toOwn (fun x hx => (hbn x hx).1) (.int .i64 (q : Int)) (.int .i64 (e : Int)) (.slice ab (cut L 8 n).length cb)) (fun x hx => (hbn x hx).1) (.int .i64 (q : Int)) (.int .i64 (e : Int)) (.slice ab (cut L 8 n).length cb)) (.bool true) (fun x hx => (hbn x hx).2.1))
  have HYN := hide (fun x hx => (hbn x hx).2.2)
  have HNC := hide hnc
  have c0 := cell_at hO.mem 0 (by simp)
  have d0 := cell_at hO1.mem 0 (by simp)
  have c1 := cell_at hO.mem 1 (by simp)
  have d1 := cell_at hO1.mem 1 (by simp)
  have c2 := cell_at hO.mem 2 (by simp)
  have d2 := cell_at hO1.mem 2 (by simp)
  simp only [Nat.zero_add, List.getElem_cons_zero, List.getElem_cons_succ] at c0 d0 c1 d1 c2 d2
  have fR : ∀ i, w1.frozen? ⟨w.heap.size, i, none⟩ = false := hO.free w.heap.size (by rw [fp_one, fpS_some (by simp)]; simp)
  clear hO hO1 hO2 hbo hbn hnc
  have hq2 := three_other (R := w.heap.size) (p := ⟨w.heap.size + 1, 0, none⟩) (by simp) (three_other (R := w.heap.size) (p := ⟨w.heap.size + 1, 0, none⟩) (by simp) t1 (.int .i64 (q : Int)) (.int .i64 (e : Int)) (.slice ab (cut L 8 n).length cb)) (.int .i64 (q : Int)) (.int .i64 (e : Int)) (.slice ab (cut L 8 n).length cb)
  have HQ1 := hide (World.cell?_setCell_same ((((((w1.setCell ⟨w.heap.size, 0, none⟩ (.int .i64 (q : Int))).setCell ⟨w.heap.size, 1, none⟩ (.int .i64 (e : Int))).setCell ⟨w.heap.size, 2, none⟩ (.slice ab (cut L 8 n).length cb)).setCell ⟨w.heap.size, 0, none⟩ (.int .i64 (q : Int))).setCell ⟨w.heap.size, 1, none⟩ (.int .i64 (e : Int))).setCell ⟨w.heap.size, 2, none⟩ (.slice ab (cut L 8 n).length cb)) ⟨w.heap.size + 1, 0, none⟩ (.bool true) hq2)
  have HK2 := hide ((keeps_threeB (keeps_threeB hk1 (Nat.le_refl _) (.int .i64 (q : Int)) (.int .i64 (e : Int)) (.slice ab (cut L 8 n).length cb)) (Nat.le_refl _) (.int .i64 (q : Int)) (.int .i64 (e : Int)) (.slice ab (cut L 8 n).length cb)).setCell (p := ⟨w.heap.size + 1, 0, none⟩) (Nat.le_succ _) (.bool true))
  go_wp2_with fail
  generalize ((((((w1.setCell ⟨w.heap.size, 0, none⟩ (.int .i64 (q : Int))).setCell ⟨w.heap.size, 1, none⟩ (.int .i64 (e : Int))).setCell ⟨w.heap.size, 2, none⟩ (.slice ab (cut L 8 n).length cb)).setCell ⟨w.heap.size, 0, none⟩ (.int .i64 (q : Int))).setCell ⟨w.heap.size, 1, none⟩ (.int .i64 (e : Int))).setCell ⟨w.heap.size, 2, none⟩ (.slice ab (cut L 8 n).length cb)).setCell ⟨w.heap.size + 1, 0, none⟩ (.bool true) = w2 at *
  have hO3 := HO3.out
  clear c0 d0 c1 d1 c2 d2
  have e0 := cell_at hO3.mem 0 (by simp)
  have e1 := cell_at hO3.mem 1 (by simp)
  have e2 := cell_at hO3.mem 2 (by simp)
  simp only [Nat.zero_add, List.getElem_cons_zero, List.getElem_cons_succ] at e0 e1 e2
  have e8 := HQ1.out
  have hP := SrPost.yes HB.out HQ.out HEe.out HNn.out HNC.out ⟨HY.out, HYN.out⟩ HK2.out
  refine leaves_cons (f := 64) (args := #[.pointer (some ⟨w.heap.size, 0, none⟩), .pointer (some ⟨w.heap.size + 1, 0, none⟩)]) (by simp) rfl ?_
  refine (catchS_idle _ _ _).mono ?_
  rintro x u' w' ⟨rfl, rfl, rfl⟩
  simp [Leaves, settle, results, Tryd.results54, go_sem, e0, e1, e2, e8]
  exact hP
theorem secread_impl (b off : Nat) (L : List UInt8) (cap : Nat) (w : World) (u : TypeId) (pv : Value) (hv : w.cell? ⟨0, 0, none⟩ = some (.iface u pv)) (hc : Cells w (some ⟨b, off, none⟩) (bys L)) (hl : L.length ≤ 16777216) (hcap : L.length ≤ cap) (hcm : cap ≤ 9223372036854775807) :
    Calls Tryd.prog 54 #[.slice (some ⟨b, off, none⟩) L.length cap] w (SrPost w L) := by
  cases hB : srB L
  · exact secread_no b off L cap w u pv hv hc hl hcap hcm hB
  · exact secread_ok b off L cap w u pv hv hc hl hcap hcm hB
end Go.Proofs.YtkdnddckogbgaaaDoor
namespace Go.Proofs.YtkdnddckogbgaaaDoor
open Go.RowKit Go.Deep
set_option linter.unusedVariables false

theorem cell1 {w : World} {a : Option Addr} {cs : List Bs} (h : Cells w a (ccells cs)) (i : Nat) (hi : i < cs.length) : ∃ b off, a = some ⟨b, off, none⟩ ∧ w.cell? ⟨b, off + i, none⟩ = some cs[i].v := by
  obtain ⟨b, off, e, h⟩ := elem_at (f := Bs.cells) (sz := 1) (fun _ => rfl) h i hi (by decide)
  exact ⟨b, off, e, by have g := h 0 (by simp [Bs.cells]); simp only [Nat.mul_one, Nat.add_zero] at g; exact g⟩
theorem cell2 {w : World} {a : Option Addr} {ds : List Wr} (h : Cells w a (wcells ds)) (i : Nat) (hi : i < ds.length) :
    ∃ b off, a = some ⟨b, off, none⟩ ∧ w.cell? ⟨b, off + i * 2, none⟩ = some (.int .i64 ds[i].i) ∧ w.cell? ⟨b, off + i * 2 + 1, none⟩ = some ds[i].b.v := by
  obtain ⟨b, off, e, h⟩ := elem_at (f := Wr.cells) (sz := 2) (fun _ => rfl) h i hi (by decide)
  exact ⟨b, off, e, h 0 (by simp [Wr.cells]), h 1 (by simp [Wr.cells])⟩
theorem ccells_len (cs : List Bs) : (ccells cs).length = cs.length := by
  have := flatMap_len (f := Bs.cells) (sz := 1) (fun _ => rfl) cs
  simpa [ccells] using this
theorem wcells_len (ds : List Wr) : (wcells ds).length = ds.length * 2 := flatMap_len (f := Wr.cells) (sz := 2) (fun _ => rfl) ds
theorem ccells_snoc (cs : List Bs) (b : Bs) : ccells (cs ++ [b]) = ccells cs ++ [b.v] := by simp [ccells, Bs.cells]
theorem wcells_snoc (ds : List Wr) (x : Wr) : wcells (ds ++ [x]) = wcells ds ++ [.int .i64 x.i, x.b.v] := by simp [wcells, Wr.cells]

end Go.Proofs.YtkdnddckogbgaaaDoor
namespace Go.Proofs.YtkdnddckogbgaaaDoor
open Go.RowKit Go.Deep
set_option linter.unusedVariables false
set_option maxRecDepth 10000

set_option maxHeartbeats 1000000 in
theorem toCell_k (a : Option Addr) (cap : Nat) (L : List UInt8) (w : World) (hc : Cells w a (bys L)) (hl : L.length ≤ 1048576) :
    Calls Tryd.prog 46 #[.agg #[.slice a L.length cap]] w fun x w' => ∃ b1, x = .returned (.agg #[.slice (some ⟨b1, 0, none⟩) L.length L.length]) ∧ Born w w' [(some ⟨b1, 0, none⟩, bys L)] ∧ Keeps w w' := by
  have HC := hide hc
  clear hc
  go_enter Tryd.func46, Tryd.ntmps46
  go_wp2_with fail
  have HKA := hide (Keeps.alloc (Keeps.alloc (Keeps.alloc (Keeps.refl w) (.cells #[.slice a L.length cap] 76)) (.cells #[.slice none 0 0] 80)) (.cells #[.slice none 0 0] 80))
  have HR1 := hide ((row_new (w.alloc (.cells #[.slice a L.length cap] 76)) #[.slice none 0 0] 80).alloc (.cells #[.slice none 0 0] 80))
  refine (toByteS_k a cap L _ (HC.out.kept HKA.out) hl).mono ?_
  rintro x w1 ⟨b1, rfl, hb, hk⟩
  have HB := hide hb
  have HK := hide hk
  replace HR1 := hide (hk.row HR1.out)
  have ho := hk.old
  have hf := hk.oldF
  have hz := hk.size
  clear hk hb
  go_wp2_with fail
  have r2 := HR1.out
  simp only [World.size_alloc] at r2
  have r3 := (r2.setOther (a := ⟨w.heap.size + 1 + 1, 0, none⟩) (by simp) (.slice (some ⟨b1, 0, none⟩) L.length L.length)).set 0 (.slice (some ⟨b1, 0, none⟩) L.length L.length)
  have c0 := r3.cell (i := 0) (by decide)
  simp at c0
  have HS : Hid (Turn [w.heap.size + 1, w.heap.size + 1 + 1] w1 ((w1.setCell ⟨w.heap.size + 1 + 1, 0, none⟩ (.slice (some ⟨b1, 0, none⟩) L.length L.length)).setCell ⟨w.heap.size + 1, 0, none⟩ (.slice (some ⟨b1, 0, none⟩) L.length L.length))) :=
    ((Turn.set (by simp) _).trans' (Turn.set (by simp) _))
  clear r2 r3 HR1 hz ho hf
  revert c0 HS
  generalize World.setCell _ _ _ = W
  intro c0 HS
  refine bodyPost_ret (v := .agg #[.slice (some ⟨b1, 0, none⟩) L.length L.length]) ?_ rfl ⟨b1, rfl, ?_, ?_⟩
  · simp [results, Tryd.results46, go_sem, c0]
  · refine (HB.out.turn HS.out ?_).old HKA.out
    intro b hb hx
    have := HB.out.new b hb
    simp at this hx
    omega
  · refine HS.out.keeps (HKA.out.trans HK.out) ?_
    intro b hb
    simp at hb
    omega
set_option maxHeartbeats 1000000 in
theorem toWrite_k (i : Int) (a : Option Addr) (cap : Nat) (L : List UInt8) (w : World) (hc : Cells w a (bys L)) (hl : L.length ≤ 1048576) :
    Calls Tryd.prog 47 #[.agg #[.int .i64 i, .slice a L.length cap]] w fun x w' => ∃ b1, x = .returned (.agg #[.int .i64 i, .slice (some ⟨b1, 0, none⟩) L.length L.length]) ∧ Born w w' [(some ⟨b1, 0, none⟩, bys L)] ∧ Keeps w w' := by
  have HC := hide hc
  clear hc
  go_enter Tryd.func47, Tryd.ntmps47
  go_wp2_with fail
  have HKA := hide (Keeps.alloc (Keeps.alloc (Keeps.alloc (Keeps.refl w) (.cells #[.int .i64 i, .slice a L.length cap] 79)) (.cells #[.int .i64 0, .slice none 0 0] 81)) (.cells #[.int .i64 i, .slice none 0 0] 81))
  have HR1 := hide ((row_new (w.alloc (.cells #[.int .i64 i, .slice a L.length cap] 79)) #[.int .i64 0, .slice none 0 0] 81).alloc (.cells #[.int .i64 i, .slice none 0 0] 81))
  refine (toByteS_k a cap L _ (HC.out.kept HKA.out) hl).mono ?_
  rintro x w1 ⟨b1, rfl, hb, hk⟩
  have HB := hide hb
  have HK := hide hk
  replace HR1 := hide (hk.row HR1.out)
  have ho := hk.old
  have hf := hk.oldF
  have hz := hk.size
  clear hk hb
  go_wp2_with fail
  have r2 := HR1.out
  simp only [World.size_alloc] at r2
  have r3 := ((r2.setOther (a := ⟨w.heap.size + 1 + 1, 1, none⟩) (by simp) (.slice (some ⟨b1, 0, none⟩) L.length L.length)).set 0 (.int .i64 i)).set 1 (.slice (some ⟨b1, 0, none⟩) L.length L.length)
  have c0 := r3.cell (i := 0) (by decide)
  have c1 := r3.cell (i := 1) (by decide)
  simp at c0 c1
  have HS : Hid (Turn [w.heap.size + 1, w.heap.size + 1 + 1] w1 (((w1.setCell ⟨w.heap.size + 1 + 1, 1, none⟩ (.slice (some ⟨b1, 0, none⟩) L.length L.length)).setCell ⟨w.heap.size + 1, 0, none⟩ (.int .i64 i)).setCell ⟨w.heap.size + 1, 1, none⟩ (.slice (some ⟨b1, 0, none⟩) L.length L.length))) :=
    (((Turn.set (by simp) _).trans' (Turn.set (by simp) _)).trans' (Turn.set (by simp) _))
  clear r2 r3 HR1 hz ho hf
  revert c0 c1 HS
  generalize World.setCell _ _ _ = W
  intro c0 c1 HS
  refine bodyPost_ret (v := .agg #[.int .i64 i, .slice (some ⟨b1, 0, none⟩) L.length L.length]) ?_ rfl ⟨b1, rfl, ?_, ?_⟩
  · simp [results, Tryd.results47, go_sem, c0, c1]
  · refine (HB.out.turn HS.out ?_).old HKA.out
    intro b hb hx
    have := HB.out.new b hb
    simp at this hx
    omega
  · refine HS.out.keeps (HKA.out.trans HK.out) ?_
    intro b hb
    simp at hb
    omega
theorem eqCell_k (a a' : Option Addr) (cap cap' : Nat) (L : List UInt8) (w : World) (hc : Cells w a (bys L)) (hc' : Cells w a' (bys L)) (hl : L.length ≤ 16777216) :
    Calls Tryd.prog 50 #[.agg #[.slice a L.length cap], .agg #[.slice a' L.length cap']] w fun x w' => x = .returned (.bool true) ∧ Keeps w w' := by
  have HKA := hide (Keeps.alloc (Keeps.alloc (Keeps.refl w) (.cells #[.slice a L.length cap] 80)) (.cells #[.slice a' L.length cap'] 80))
  have HQ := hide (eqBytes_k a a' cap cap' L _ (hc.kept HKA.out) (hc'.kept HKA.out) hl)
  clear hc hc' hl
  go_enter Tryd.func50, Tryd.ntmps50
  go_wp2_with fail
  refine (unhide HQ).mono ?_
  rintro x w1 ⟨rfl, hk⟩
  replace HKA := hide (HKA.out.trans hk)
  clear hk
  go_wp2_with fail
  go_ret
  exact ⟨rfl, HKA.out⟩
theorem eqWrite_k (i : Int) (a a' : Option Addr) (cap cap' : Nat) (L : List UInt8) (w : World) (hc : Cells w a (bys L)) (hc' : Cells w a' (bys L)) (hl : L.length ≤ 16777216) :
    Calls Tryd.prog 51 #[.agg #[.int .i64 i, .slice a L.length cap], .agg #[.int .i64 i, .slice a' L.length cap']] w fun x w' => x = .returned (.bool true) ∧ Keeps w w' := by
  have HKA := hide (Keeps.alloc (Keeps.alloc (Keeps.refl w) (.cells #[.int .i64 i, .slice a L.length cap] 81)) (.cells #[.int .i64 i, .slice a' L.length cap'] 81))
  have HQ := hide (eqBytes_k a a' cap cap' L _ (hc.kept HKA.out) (hc'.kept HKA.out) hl)
  clear hc hc' hl
  go_enter Tryd.func51, Tryd.ntmps51
  go_wp2_with fail
  refine (unhide HQ).mono ?_
  rintro x w1 ⟨rfl, hk⟩
  replace HKA := hide (HKA.out.trans hk)
  clear hk
  go_wp2_with fail
  go_ret
  exact ⟨rfl, HKA.out⟩
theorem szCell_k (a : Option Addr) (len cap : Nat) (left : Int) (w : World) (h0 : 0 ≤ left) (h1 : left ≤ 1048576) (hl : len ≤ 9223372036854775807) :
    Calls Tryd.prog 41 #[.agg #[.slice a len cap], .int .i64 left] w fun x w' => x = .returned (.int .i64 (if (len : Int) ≤ left then left - len else -1)) ∧ Keeps w w' := by
  have HS := hide (fun w1 => szByteS_k a len cap left w1 h0 h1 hl)
  by_cases h : (len : Int) ≤ left
  · rw [if_pos h] at HS
    have H : Hid ((if (len : Int) ≤ left then left - len else -1) = left - len) := if_pos h
    go_enter Tryd.func41, Tryd.ntmps41
    go_wp2_with fail
    refine (unhide HS _).mono ?_
    rintro e w1 ⟨rfl, hw⟩
    subst hw
    go_wp2_with fail
    go_ret
    exact ⟨rfl, Keeps.alloc (Keeps.refl _) _⟩
  · rw [if_neg h] at HS
    have H : Hid ((if (len : Int) ≤ left then left - len else -1) = -1) := if_neg h
    go_enter Tryd.func41, Tryd.ntmps41
    go_wp2_with fail
    refine (unhide HS _).mono ?_
    rintro e w1 ⟨rfl, hw⟩
    subst hw
    go_wp2_with fail
    go_ret
    exact ⟨rfl, Keeps.alloc (Keeps.refl _) _⟩
theorem szWrite_k (i : Int) (a : Option Addr) (len cap : Nat) (left : Int) (w : World) (h0 : 0 ≤ left) (h1 : left ≤ 1048576) (hl : len ≤ 9223372036854775807) :
    Calls Tryd.prog 42 #[.agg #[.int .i64 i, .slice a len cap], .int .i64 left] w fun x w' => x = .returned (.int .i64 (if (len : Int) ≤ left then left - len else -1)) ∧ Keeps w w' := by
  have HS := hide (fun w1 => szByteS_k a len cap left w1 h0 h1 hl)
  by_cases h : (len : Int) ≤ left
  · rw [if_pos h] at HS
    have H : Hid ((if (len : Int) ≤ left then left - len else -1) = left - len) := if_pos h
    go_enter Tryd.func42, Tryd.ntmps42
    go_wp2_with fail
    refine (unhide HS _).mono ?_
    rintro e w1 ⟨rfl, hw⟩
    subst hw
    go_wp2_with fail
    go_ret
    exact ⟨rfl, Keeps.alloc (Keeps.refl _) _⟩
  · rw [if_neg h] at HS
    have H : Hid ((if (len : Int) ≤ left then left - len else -1) = -1) := if_neg h
    go_enter Tryd.func42, Tryd.ntmps42
    go_wp2_with fail
    refine (unhide HS _).mono ?_
    rintro e w1 ⟨rfl, hw⟩
    subst hw
    go_wp2_with fail
    go_ret
    exact ⟨rfl, Keeps.alloc (Keeps.refl _) _⟩
end Go.Proofs.YtkdnddckogbgaaaDoor
