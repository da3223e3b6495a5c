/- Texts of the verifier, joined: SRF, DRR. -/
import Derived.Test.YtkdnddckogbgaaaGreatDoorFO18
import Derived.Tactics2
import Derived.Defers
import Derived.Recover
import Derived.Laws.Pointers
import Derived.Test.YtkdnddckogbgaaaGreatDoorFO3
namespace Go.Proofs.YtkdnddckogbgaaaGreatDoor
open Go.RowKit Go.Deep
set_option linter.unusedVariables false
set_option linter.unusedSimpArgs false
set_option maxRecDepth 10000
theorem sector_len (B : Nat) (ad : Option Addr) (n cap : Nat) (w : World) (u : TypeId) (pv : Value) (hv : w.cell? ⟨0, 0, none⟩ = some (.iface u pv)) (hd : w.cell? ⟨B, 0, none⟩ = some (.slice ad n cap)) (hl : n ≤ 16777216) (h22 : n ≠ 128) :
    Calls Tryz.prog 112 #[.pointer (some ⟨B, 0, none⟩)] w fun e w' => e = .panicked [{ v := .iface u pv, recovered := false }] ∧ Turn [B] w w' := by
  have hn : ((n : Int) == 128) = false := beq_eq_false_iff_ne.2 (by omega)
  have hk := Keeps.alloc (Keeps.refl w) (.cells #[.int .i64 0, .int .i64 0, .slice none 0 0] 72)
  have d0 := hk.cell hd
  have HV := hide (hk.cell hv)
  have HK := hide hk
  clear h22 hk hd hv
  go_enter Tryz.func112, Tryz.ntmps112
  go_wp2_with fail
  go_at_call 108
  refine (insist_no _ u pv HV.out).mono ?_
  rintro e w' ⟨rfl, rfl⟩
  exact ⟨rfl, rfl, Turn.of_keeps HK.out _⟩
set_option maxHeartbeats 2000000 in
theorem catchS_panic (R Q : Nat) (hRQ : R ≠ Q) (x0 x1 x2 y : Value) (u : TypeId) (pv : Value) (older : List PanicEntry) (w : World) (hR : Own w [(some ⟨R, 0, none⟩, [x0, x1, x2])]) (hc : w.cell? ⟨Q, 0, none⟩ = some y) (hz : w.frozen? ⟨Q, 0, none⟩ = false) :
    CallsD Tryz.prog 111 #[.pointer (some ⟨R, 0, none⟩), .pointer (some ⟨Q, 0, none⟩)] (.panicking ({ v := .iface u pv, recovered := false } :: older)) w fun e u' w' =>
      e = .returned (.tuple #[]) ∧ u' = .panicking ({ v := .iface u pv, recovered := true } :: older) ∧ w' = (((w.setCell ⟨R, 0, none⟩ (.int .i64 0)).setCell ⟨R, 1, none⟩ (.int .i64 0)).setCell ⟨R, 2, none⟩ (.slice none 0 0)).setCell ⟨Q, 0, none⟩ (.bool false) := by
  have c0 := cell_at hR.mem 0 (by simp)
  have c1 := cell_at hR.mem 1 (by simp)
  have c2 := cell_at hR.mem 2 (by simp)
  simp only [Nat.zero_add, List.getElem_cons_zero, List.getElem_cons_succ] at c0 c1 c2
  have fR : ∀ i, w.frozen? ⟨R, i, none⟩ = false := hR.free R (by rw [fp_one, fpS_some (by simp)]; simp)
  refine callsD_of_wpS Tryz.func111 rfl fun c₀ cs hu => ?_
  apply wpS_seq
  apply wpS_region
  simp [wpOpsS, go_sem, recoverD, hu, Tryz.ntmps111, Exit.thenS]
  refine wpS_cond (t := true) (by simp [Act.eval, Array.replicate]) ?_
  simp only [if_true]
  apply wpS_region
  simp [wpOpsS, go_sem, c0, c1, c2, fR, hc, hz, hRQ, Ne.symm hRQ, bodyPostS, results, Tryz.results111]
theorem catchS_idle (p q : Addr) (w : World) :
    CallsD Tryz.prog 111 #[.pointer (some p), .pointer (some q)] .returning w fun e u' w' => e = .returned (.tuple #[]) ∧ u' = .returning ∧ w' = w := by
  refine callsD_of_wpS Tryz.func111 rfl fun c₀ cs hu => ?_
  apply wpS_seq
  apply wpS_region
  simp [wpOpsS, go_sem, recoverD, hu, Tryz.ntmps111, Exit.thenS]
  refine wpS_cond (t := false) (by simp [Act.eval, Array.replicate]) ?_
  simp only [Bool.false_eq_true, if_false]
  refine wpS_of_wp (wp_skip ?_)
  cases c₀
  simp_all [bodyPostS, results, Tryz.results111]
theorem sector_no (B b off : Nat) (L : List UInt8) (cap : Nat) (w : World) (u : TypeId) (pv : Value) (hv : w.cell? ⟨0, 0, none⟩ = some (.iface u pv)) (hgB : 0 ≠ B) (hr : Rd w B (some ⟨b, off, none⟩) L cap (0 : Nat)) (hb : L.length = 128 → b ≠ B ∧ b < w.heap.size) (hBl : B < w.heap.size) (hc : Cells w (some ⟨b, off, none⟩) (bys L)) (hl : L.length ≤ 16777216) (hcap : L.length ≤ cap) (hcm : cap ≤ 9223372036854775807) (hB : srB L = false) :
    Calls Tryz.prog 112 #[.pointer (some ⟨B, 0, none⟩)] w fun e w' => e = .panicked [{ v := .iface u pv, recovered := false }] ∧ Turn [B] w w' := by
  by_cases h128 : L.length = 128
  · obtain ⟨h1, h2⟩ := hb h128
    by_cases hz : numL (cut L 0 1) = 74
    · by_cases hn : numL (cut L 7 1) ≤ 100
      · by_cases hzr : cut L (8 + numL (cut L 7 1)) (114 - numL (cut L 7 1)) = List.replicate (114 - numL (cut L 7 1)) 0
        · by_cases hq : numL (cut L 122 3) = numL (cut L 1 3)
          · by_cases he : numL (cut L 125 3) = numL (cut L 4 3)
            · refine sector_ok B b off L cap w u pv hv hgB hr h1 hBl h2 hc hcap hcm h128 (numL (cut L 0 1)) (numL (cut L 1 3)) (numL (cut L 4 3)) (numL (cut L 7 1)) (numL (cut L 122 3)) (numL (cut L 125 3)) rfl rfl rfl rfl rfl rfl hz hn hzr hq he ?_
              unfold srB at hB
              rw [decide_eq_true h128, decide_eq_true hz, decide_eq_true hn, decide_eq_true hzr, decide_eq_true hq, decide_eq_true he] at hB
              simpa using hB
            · exact sector_epoch B b off L cap w u pv hv hgB hr h1 hBl h2 hc hcap hcm h128 (numL (cut L 0 1)) (numL (cut L 1 3)) (numL (cut L 4 3)) (numL (cut L 7 1)) (numL (cut L 122 3)) (numL (cut L 125 3)) rfl rfl rfl rfl rfl rfl hz hn hzr hq he
          · exact sector_seq B b off L cap w u pv hv hgB hr h1 hBl h2 hc hcap hcm h128 (numL (cut L 0 1)) (numL (cut L 1 3)) (numL (cut L 4 3)) (numL (cut L 7 1)) (numL (cut L 122 3)) (numL (cut L 125 3)) rfl rfl rfl rfl rfl rfl hz hn hzr hq
        · exact sector_zeros B b off L cap w u pv hv hgB hr h1 hBl h2 hc hcap hcm h128 (numL (cut L 0 1)) (numL (cut L 1 3)) (numL (cut L 4 3)) (numL (cut L 7 1)) (numL (cut L 122 3)) (numL (cut L 125 3)) rfl rfl rfl rfl rfl rfl hz hn hzr
      · exact sector_size B b off L cap w u pv hv hgB hr h1 hBl h2 hc hcap hcm h128 (numL (cut L 0 1)) (numL (cut L 1 3)) (numL (cut L 4 3)) (numL (cut L 7 1)) (numL (cut L 122 3)) (numL (cut L 125 3)) rfl rfl rfl rfl rfl rfl hz hn
    · exact sector_first B b off L cap w u pv hv hgB hr h1 hBl h2 hc hcap hcm h128 (numL (cut L 0 1)) (numL (cut L 1 3)) (numL (cut L 4 3)) (numL (cut L 7 1)) (numL (cut L 122 3)) (numL (cut L 125 3)) rfl rfl rfl rfl rfl rfl hz
  · exact sector_len B _ L.length cap w u pv hv hr.data hl h128
theorem sector_good (B b off : Nat) (L : List UInt8) (cap : Nat) (w : World) (u : TypeId) (pv : Value) (hv : w.cell? ⟨0, 0, none⟩ = some (.iface u pv)) (hgB : 0 ≠ B) (hr : Rd w B (some ⟨b, off, none⟩) L cap (0 : Nat)) (hb : L.length = 128 → b ≠ B ∧ b < w.heap.size) (hBl : B < w.heap.size) (hc : Cells w (some ⟨b, off, none⟩) (bys L)) (hl : L.length ≤ 16777216) (hcap : L.length ≤ cap) (hcm : cap ≤ 9223372036854775807) (hB : srB L = true) :
    Calls Tryz.prog 112 #[.pointer (some ⟨B, 0, none⟩)] w fun x w' => ∃ (ab : Option Addr) (cb : Nat), x = .returned (secV (numL (cut L 1 3) : Nat) (numL (cut L 4 3) : Nat) ab (cut L 8 (numL (cut L 7 1))).length cb) ∧ CapB ab cb (cut L 8 (numL (cut L 7 1))).length ∧ Born w w' [(ab, bys (cut L 8 (numL (cut L 7 1))))] ∧ Turn [B] w w' := by
  unfold srB at hB
  simp only [Bool.and_eq_true, decide_eq_true_eq] at hB
  obtain ⟨⟨⟨⟨⟨⟨h128, hz⟩, hn⟩, hzr⟩, hq⟩, he⟩, hok⟩ := hB
  obtain ⟨h1, h2⟩ := hb h128
  exact sector_yes B b off L cap w u pv hv hgB hr h1 hBl h2 hc hcap hcm h128 (numL (cut L 0 1)) (numL (cut L 1 3)) (numL (cut L 4 3)) (numL (cut L 7 1)) (numL (cut L 122 3)) (numL (cut L 125 3)) rfl rfl rfl rfl rfl rfl hz hn hzr hq he hok
/-- The world where SectorRead calls sector. -/
abbrev threeS (w : World) (ad : Option Addr) (l cap : Nat) : World := ((w.alloc (Obj.cells #[.int .i64 0, .int .i64 0, .slice none 0 0] 72)).alloc (Obj.cells #[Value.bool false] 4)).alloc (Obj.cells #[.slice ad l cap, .int .i64 0] 119)
theorem threeS_keeps (w : World) (ad : Option Addr) (l cap : Nat) : Keeps w (threeS w ad l cap) := (((Keeps.refl w).alloc _).alloc _).alloc _
theorem threeS_rd (w : World) (ad : Option Addr) (L : List UInt8) (cap : Nat) : Rd (threeS w ad L.length cap) (w.heap.size + 1 + 1) ad L cap ((0 : Nat) : Int) :=
  ⟨by rw [World.cell?_alloc_at _ _ _ _ (by simp)]; rfl, by rw [World.cell?_alloc_at _ _ _ _ (by simp)]; rfl, by rw [World.frozen?_alloc_at _ _ _ _ (by simp)]⟩
theorem threeS_own (w : World) (ad : Option Addr) (l cap : Nat) : Own (threeS w ad l cap) [(some ⟨w.heap.size, 0, none⟩, [.int .i64 0, .int .i64 0, .slice none 0 0])] :=
  (((born_alloc w #[.int .i64 0, .int .i64 0, .slice none 0 0] 72).toOwn.kept (Keeps.alloc (Keeps.refl _) _)).kept (Keeps.alloc (Keeps.refl _) _))
theorem threeS_b (w : World) (ad : Option Addr) (l cap : Nat) : (threeS w ad l cap).cell? ⟨w.heap.size + 1, 0, none⟩ = some (.bool false) := by
  rw [World.cell?_alloc_past _ _ _ (by simp), World.cell?_alloc_at _ _ _ _ (by simp)]; rfl
theorem threeS_zb (w : World) (ad : Option Addr) (l cap : Nat) : (threeS w ad l cap).frozen? ⟨w.heap.size + 1, 0, none⟩ = false := by
  rw [World.frozen?_alloc_past _ _ _ (by simp), World.frozen?_alloc_at _ _ _ _ (by simp)]
theorem keeps_threeB {W w : World} {R : Nat} (h : Keeps W w) (hR : W.heap.size ≤ R) (y0 y1 y2 : Value) : Keeps W (((w.setCell ⟨R, 0, none⟩ (y0)).setCell ⟨R, 1, none⟩ (y1)).setCell ⟨R, 2, none⟩ (y2)) :=
  (((h.setCell (p := ⟨R, 0, none⟩) hR y0).setCell (p := ⟨R, 1, none⟩) hR y1).setCell (p := ⟨R, 2, none⟩) hR y2)
theorem three_other {w : World} {R : Nat} {p : Addr} (hp : p.block ≠ R) {v : Value} (h : w.cell? p = some v) (y0 y1 y2 : Value) : (((w.setCell ⟨R, 0, none⟩ (y0)).setCell ⟨R, 1, none⟩ (y1)).setCell ⟨R, 2, none⟩ (y2)).cell? p = some v := by
  iterate 3 rw [World.cell?_setCell_other _ _ _ _ (fun e => hp (by rw [← e]))]
  exact h
theorem own_threeO {w : World} {R : Nat} {S : List Seg} (h : Own w S) (hn : ∀ x ∈ fp S, x ≠ R) (y0 y1 y2 : Value) : Own (((w.setCell ⟨R, 0, none⟩ (y0)).setCell ⟨R, 1, none⟩ (y1)).setCell ⟨R, 2, none⟩ (y2)) S :=
  own_setB (a := ⟨R, 2, none⟩) (own_setB (a := ⟨R, 1, none⟩) (own_setB (a := ⟨R, 0, none⟩) h y0 hn) y1 hn) y2 hn
theorem fp_ne {R R' : Nat} {xs : List Value} (h : R ≠ R') : ∀ x ∈ fp [((some ⟨R, 0, none⟩ : Option Addr), xs)], x ≠ R' := fun x hx e => by
  rw [fp_one] at hx
  by_cases h0 : xs = []
  · simp [fpS, h0] at hx
  · rw [fpS_some h0] at hx
    exact h ((show x = R by simpa using hx).symm.trans e)
set_option maxHeartbeats 4000000 in
theorem secread_no (b off : Nat) (L : List UInt8) (cap : Nat) (w : World) (u : TypeId) (pv : Value) (hv : w.cell? ⟨0, 0, none⟩ = some (.iface u pv)) (hc : Cells w (some ⟨b, off, none⟩) (bys L)) (hl : L.length ≤ 16777216) (hcap : L.length ≤ cap) (hcm : cap ≤ 9223372036854775807) (hB : srB L = false) :
    Calls Tryz.prog 91 #[.slice (some ⟨b, off, none⟩) L.length cap] w (SrPost w L) := by
  have hmf : ∀ (fn : Fn) (first cap : Array Value) (w : World), (Instr.makeFunc fn first cap).run Tryz.prog w = .ok (.func fn first cap) w := fun _ _ _ _ => rfl
  have hk3 := threeS_keeps w (some ⟨b, off, none⟩) L.length cap
  have hgl := lt_of_cell hv
  have hbb : L.length = 128 → b < w.heap.size := fun h22 => by
    rcases hc with h' | ⟨b', off', e, h'⟩
    · rw [bys_nil] at h'; subst h'; simp at h22
    · have e' := Option.some.inj e
      injection e' with e1 e2
      subst e1 e2
      exact lt_of_cell (h' 0 (by rw [bys_length]; omega))
  have HE := hide (sector_no (w.heap.size + 1 + 1) b off L cap (threeS w (some ⟨b, off, none⟩) L.length cap) u pv (hk3.cell hv) (by omega) (threeS_rd w _ L cap) (fun h => by have := hbb h; exact ⟨by omega, by simp; omega⟩) (by simp) (hc.kept hk3) hl hcap hcm hB)
  have HO := hide (threeS_own w (some ⟨b, off, none⟩) L.length cap)
  have H1 := hide (threeS_b w (some ⟨b, off, none⟩) L.length cap)
  have H2 := hide (threeS_zb w (some ⟨b, off, none⟩) L.length cap)
  have HK := hide hk3
  have HSZ : Hid ((threeS w (some ⟨b, off, none⟩) L.length cap).heap.size = w.heap.size + 3) := by show _ = _; simp
  have HB := hide hB
  clear hk3 hv hc hB hbb hgl
  go_enter_defers Tryz.func91, Tryz.ntmps91
  go_wp2_with fail
  go_at_call 112
  refine (unhide HE).mono ?_
  rintro e w1 ⟨rfl, ht⟩
  have hO := HO.out.turn ht (fun x hx hb => by
    rw [fp_one, fpS_some (by simp)] at hx
    simp at hx hb
    omega)
  have t1 := ht.cell (p := ⟨w.heap.size + 1, 0, none⟩) (by simp) H1.out
  have z1 : w1.frozen? ⟨w.heap.size + 1, 0, none⟩ = false := by rw [← H2.out]; exact World.frozen?_of_block (ht.block _ (by simp) (by simp))
  have hk1 : Keeps w w1 := ht.keeps HK.out (fun x hx => by simp at hx; omega)
  clear ht HE HO H1 H2 HK HSZ
  have hO2 := own_setB (a := ⟨w.heap.size + 1, 0, none⟩) (own_threeB hO (.int .i64 0) (.int .i64 0) (.slice none 0 0)) (.bool false) (fp_ne (by simp))
  have hk2 := (keeps_threeB hk1 (Nat.le_refl _) (.int .i64 0) (.int .i64 0) (.slice none 0 0)).setCell (p := ⟨w.heap.size + 1, 0, none⟩) (Nat.le_succ _) (.bool false)
  have e8 := World.cell?_setCell_same (((w1.setCell ⟨w.heap.size, 0, none⟩ (.int .i64 0)).setCell ⟨w.heap.size, 1, none⟩ (.int .i64 0)).setCell ⟨w.heap.size, 2, none⟩ (.slice none 0 0)) ⟨w.heap.size + 1, 0, none⟩ (.bool false) (three_other (R := w.heap.size) (p := ⟨w.heap.size + 1, 0, none⟩) (by simp) t1 (.int .i64 0) (.int .i64 0) (.slice none 0 0))
  have e0 := cell_at hO2.mem 0 (by simp)
  have e1 := cell_at hO2.mem 1 (by simp)
  have e2 := cell_at hO2.mem 2 (by simp)
  simp only [Nat.zero_add, List.getElem_cons_zero, List.getElem_cons_succ] at e0 e1 e2
  have hP := SrPost.no HB.out hk2
  refine leaves_cons (f := 111) (args := #[.pointer (some ⟨w.heap.size, 0, none⟩), .pointer (some ⟨w.heap.size + 1, 0, none⟩)]) (by simp) rfl ?_
  refine (catchS_panic w.heap.size (w.heap.size + 1) (by omega) _ _ _ _ u pv [] w1 hO t1 z1).mono ?_
  rintro e u' w' ⟨rfl, rfl, hw'⟩
  rw [← hw'] at e0 e1 e2 e8 hP
  simp [Leaves, settle, results, Tryz.results91, go_sem, e0, e1, e2, e8]
  exact hP
set_option maxHeartbeats 4000000 in
theorem secread_ok (b off : Nat) (L : List UInt8) (cap : Nat) (w : World) (u : TypeId) (pv : Value) (hv : w.cell? ⟨0, 0, none⟩ = some (.iface u pv)) (hc : Cells w (some ⟨b, off, none⟩) (bys L)) (hl : L.length ≤ 16777216) (hcap : L.length ≤ cap) (hcm : cap ≤ 9223372036854775807) (hB : srB L = true) :
    Calls Tryz.prog 91 #[.slice (some ⟨b, off, none⟩) L.length cap] w (SrPost w L) := by
  have hmf : ∀ (fn : Fn) (first cap : Array Value) (w : World), (Instr.makeFunc fn first cap).run Tryz.prog w = .ok (.func fn first cap) w := fun _ _ _ _ => rfl
  have hk3 := threeS_keeps w (some ⟨b, off, none⟩) L.length cap
  have hgl := lt_of_cell hv
  have hbb : L.length = 128 → b < w.heap.size := fun h22 => by
    rcases hc with h' | ⟨b', off', e, h'⟩
    · rw [bys_nil] at h'; subst h'; simp at h22
    · have e' := Option.some.inj e
      injection e' with e1 e2
      subst e1 e2
      exact lt_of_cell (h' 0 (by rw [bys_length]; omega))
  have HE := hide (sector_good (w.heap.size + 1 + 1) b off L cap (threeS w (some ⟨b, off, none⟩) L.length cap) u pv (hk3.cell hv) (by omega) (threeS_rd w _ L cap) (fun h => by have := hbb h; exact ⟨by omega, by simp; omega⟩) (by simp) (hc.kept hk3) hl hcap hcm hB)
  have HO := hide (threeS_own w (some ⟨b, off, none⟩) L.length cap)
  have H1 := hide (threeS_b w (some ⟨b, off, none⟩) L.length cap)
  have H2 := hide (threeS_zb w (some ⟨b, off, none⟩) L.length cap)
  have HK := hide hk3
  have HSZ : Hid ((threeS w (some ⟨b, off, none⟩) L.length cap).heap.size = w.heap.size + 3) := by show _ = _; simp
  have HB := hide hB
  clear hk3 hv hc hB hbb hgl
  go_enter_defers Tryz.func91, Tryz.ntmps91
  go_wp2_with fail
  go_at_call 112
  refine (unhide HE).mono ?_
  rintro e w1 ⟨ab, cb, rfl, hnc, hbo, ht⟩
  have hO := HO.out.turn ht (fun x hx hb => by
    rw [fp_one, fpS_some (by simp)] at hx
    simp at hx hb
    omega)
  have t1 := ht.cell (p := ⟨w.heap.size + 1, 0, none⟩) (by simp) H1.out
  have z1 : w1.frozen? ⟨w.heap.size + 1, 0, none⟩ = false := by rw [← H2.out]; exact World.frozen?_of_block (ht.block _ (by simp) (by simp))
  have hk1 : Keeps w w1 := ht.keeps HK.out (fun x hx => by simp at hx; omega)
  have hbn : ∀ x ∈ fp [(ab, bys (cut L 8 (numL (cut L 7 1))))], x ≠ w.heap.size ∧ x ≠ w.heap.size + 1 ∧ w.heap.size ≤ x := fun x hx => by
    have h1 := hbo.new x hx
    rw [HSZ.out] at h1
    omega
  clear ht HE HO H1 H2 HK HSZ
  generalize hqe : numL (cut L 1 3) = q at *
  generalize hee : numL (cut L 4 3) = e at *
  generalize hne : numL (cut L 7 1) = n at *
  have HQ := hide hqe
  have HEe := hide hee
  have HNn := hide hne
  clear hqe hee hne
  have hO1 := own_threeB hO (.int .i64 (q : Int)) (.int .i64 (e : Int)) (.slice ab (cut L 8 n).length cb)
  have hO2 := own_threeB hO1 (.int .i64 (q : Int)) (.int .i64 (e : Int)) (.slice ab (cut L 8 n).length cb)
  have HO3 := hide (own_setB (a := ⟨w.heap.size + 1, 0, none⟩) hO2 (.bool true) (fp_ne (by simp)))
  have HY := hide (own_setB (a := ⟨w.heap.size + 1, 0, none⟩) (own_threeO (own_threeO hbo.toOwn (fun x hx => (hbn x hx).1) (.int .i64 (q : Int)) (.int .i64 (e : Int)) (.slice ab (cut L 8 n).length cb)) (fun x hx => (hbn x hx).1) (.int .i64 (q : Int)) (.int .i64 (e : Int)) (.slice ab (cut L 8 n).length cb)) (.bool true) (fun x hx => (hbn x hx).2.1))
  have HYN := hide (fun x hx => (hbn x hx).2.2)
  have HNC := hide hnc
  have c0 := cell_at hO.mem 0 (by simp)
  have d0 := cell_at hO1.mem 0 (by simp)
  have c1 := cell_at hO.mem 1 (by simp)
  have d1 := cell_at hO1.mem 1 (by simp)
  have c2 := cell_at hO.mem 2 (by simp)
  have d2 := cell_at hO1.mem 2 (by simp)
  simp only [Nat.zero_add, List.getElem_cons_zero, List.getElem_cons_succ] at c0 d0 c1 d1 c2 d2
  have fR : ∀ i, w1.frozen? ⟨w.heap.size, i, none⟩ = false := hO.free w.heap.size (by rw [fp_one, fpS_some (by simp)]; simp)
  clear hO hO1 hO2 hbo hbn hnc
  have hq2 := three_other (R := w.heap.size) (p := ⟨w.heap.size + 1, 0, none⟩) (by simp) (three_other (R := w.heap.size) (p := ⟨w.heap.size + 1, 0, none⟩) (by simp) t1 (.int .i64 (q : Int)) (.int .i64 (e : Int)) (.slice ab (cut L 8 n).length cb)) (.int .i64 (q : Int)) (.int .i64 (e : Int)) (.slice ab (cut L 8 n).length cb)
  have HQ1 := hide (World.cell?_setCell_same ((((((w1.setCell ⟨w.heap.size, 0, none⟩ (.int .i64 (q : Int))).setCell ⟨w.heap.size, 1, none⟩ (.int .i64 (e : Int))).setCell ⟨w.heap.size, 2, none⟩ (.slice ab (cut L 8 n).length cb)).setCell ⟨w.heap.size, 0, none⟩ (.int .i64 (q : Int))).setCell ⟨w.heap.size, 1, none⟩ (.int .i64 (e : Int))).setCell ⟨w.heap.size, 2, none⟩ (.slice ab (cut L 8 n).length cb)) ⟨w.heap.size + 1, 0, none⟩ (.bool true) hq2)
  have HK2 := hide ((keeps_threeB (keeps_threeB hk1 (Nat.le_refl _) (.int .i64 (q : Int)) (.int .i64 (e : Int)) (.slice ab (cut L 8 n).length cb)) (Nat.le_refl _) (.int .i64 (q : Int)) (.int .i64 (e : Int)) (.slice ab (cut L 8 n).length cb)).setCell (p := ⟨w.heap.size + 1, 0, none⟩) (Nat.le_succ _) (.bool true))
  go_wp2_with fail
  generalize ((((((w1.setCell ⟨w.heap.size, 0, none⟩ (.int .i64 (q : Int))).setCell ⟨w.heap.size, 1, none⟩ (.int .i64 (e : Int))).setCell ⟨w.heap.size, 2, none⟩ (.slice ab (cut L 8 n).length cb)).setCell ⟨w.heap.size, 0, none⟩ (.int .i64 (q : Int))).setCell ⟨w.heap.size, 1, none⟩ (.int .i64 (e : Int))).setCell ⟨w.heap.size, 2, none⟩ (.slice ab (cut L 8 n).length cb)).setCell ⟨w.heap.size + 1, 0, none⟩ (.bool true) = w2 at *
  have hO3 := HO3.out
  clear c0 d0 c1 d1 c2 d2
  have e0 := cell_at hO3.mem 0 (by simp)
  have e1 := cell_at hO3.mem 1 (by simp)
  have e2 := cell_at hO3.mem 2 (by simp)
  simp only [Nat.zero_add, List.getElem_cons_zero, List.getElem_cons_succ] at e0 e1 e2
  have e8 := HQ1.out
  have hP := SrPost.yes HB.out HQ.out HEe.out HNn.out HNC.out ⟨HY.out, HYN.out⟩ HK2.out
  refine leaves_cons (f := 111) (args := #[.pointer (some ⟨w.heap.size, 0, none⟩), .pointer (some ⟨w.heap.size + 1, 0, none⟩)]) (by simp) rfl ?_
  refine (catchS_idle _ _ _).mono ?_
  rintro x u' w' ⟨rfl, rfl, rfl⟩
  simp [Leaves, settle, results, Tryz.results91, go_sem, e0, e1, e2, e8]
  exact hP
theorem secread_impl (b off : Nat) (L : List UInt8) (cap : Nat) (w : World) (u : TypeId) (pv : Value) (hv : w.cell? ⟨0, 0, none⟩ = some (.iface u pv)) (hc : Cells w (some ⟨b, off, none⟩) (bys L)) (hl : L.length ≤ 16777216) (hcap : L.length ≤ cap) (hcm : cap ≤ 9223372036854775807) :
    Calls Tryz.prog 91 #[.slice (some ⟨b, off, none⟩) L.length cap] w (SrPost w L) := by
  cases hB : srB L
  · exact secread_no b off L cap w u pv hv hc hl hcap hcm hB
  · exact secread_ok b off L cap w u pv hv hc hl hcap hcm hB
end Go.Proofs.YtkdnddckogbgaaaGreatDoor
namespace Go.Proofs.YtkdnddckogbgaaaGreatDoor
open Go.RowKit Go.Deep
set_option linter.unusedVariables false
set_option maxRecDepth 10000

theorem readB_dok {m : DkM} {i : Int} (h : dokM m = false) : readB m i = false := by unfold readB; rw [h, Bool.false_and]
theorem readB_out {m : DkM} {i : Int} (h : i < 0 ∨ (m.cells.length : Int) ≤ i) : readB m i = false := by
  unfold readB
  rcases h with h | h
  · rw [decide_eq_false (show ¬ 0 ≤ i by omega)]; simp
  · rw [decide_eq_false (show ¬ i < (m.cells.length : Int) by omega)]; simp
theorem readB_in {m : DkM} {i : Int} (h : dokM m = true) (h0 : 0 ≤ i) (h1 : i < (m.cells.length : Int)) : readB m i = true := by
  unfold readB; rw [h, decide_eq_true h0, decide_eq_true h1]; rfl
theorem read_hit {cs : List Bs} {ds : List Wr} {i : Int} {k : Nat} (hk : k < ds.length) (he : ds[k].i = i) (hn : lastD ((ds.map Wr.key).drop (k + 1)) i = none) (F : List UInt8) : (lastD (dat cs ds).dirty i).getD F = ds[k].b.L := by
  have e : (dat cs ds).dirty = (ds.map Wr.key).take k ++ (ds[k].key :: (ds.map Wr.key).drop (k + 1)) := by
    show ds.map Wr.key = _
    have hk' : k < (ds.map Wr.key).length := by simpa using hk
    have : ds[k].key = (ds.map Wr.key)[k] := by simp
    rw [this, ← List.drop_eq_getElem_cons hk', List.take_append_drop]
  rw [e, lastD_append]
  simp [lastD, hn, Wr.key, he]
theorem read_next {ds : List Wr} {i : Int} {k : Nat} (hk : k < ds.length) (he : ds[k].i ≠ i) (hn : lastD ((ds.map Wr.key).drop (k + 1)) i = none) : lastD ((ds.map Wr.key).drop k) i = none := by
  have hk' : k < (ds.map Wr.key).length := by simpa using hk
  rw [List.drop_eq_getElem_cons hk']
  simp [lastD, hn, Wr.key, he]
theorem read_miss {cs : List Bs} {ds : List Wr} {i : Nat} (hi : i < cs.length) (hn : lastD ((ds.map Wr.key).drop 0) i = none) : (lastD (dat cs ds).dirty i).getD (fullL ((dat cs ds).cells.getD (i : Int).toNat [])) = fullL cs[i].L := by
  rw [List.drop_zero] at hn
  show (lastD (ds.map Wr.key) i).getD _ = _
  rw [hn, Option.getD_none, Int.toNat_natCast]
  simp [dat, hi]
/-- What newest answers. -/
def NewPost (w : World) (m : DkM) (i : Int) (x : Ending) (w' : World) : Prop := ∃ v, x = .returned v ∧ OwnsB w' w.heap.size v (readL m i) ∧ Keeps w w'
theorem NewPost.yes {w w' : World} {m : DkM} {i : Int} {v : Value} {L : List UInt8} (h : readB m i = true) (hl : (lastD m.dirty i).getD (fullL (m.cells.getD i.toNat [])) = L) (ho : OwnsB w' w.heap.size v L) (hk : Keeps w w') : NewPost w m i (.returned v) w' := by
  refine ⟨v, rfl, ?_, hk⟩
  unfold readL
  rw [if_pos h, hl]
  exact ho
set_option maxHeartbeats 4000000 in
theorem newest_impl (ca : Option Addr) (cc : Nat) (cs : List Bs) (da : Option Addr) (dc : Nat) (ds : List Wr) (p : Nat) (w : World) (hm : Mem w (dsk ca cs da ds)) (h : DOk cs ds) (hok : dokM (dat cs ds) = true) (hp : p < cs.length) :
    Calls Tryz.prog 92 #[dskV ca cs.length cc da ds.length dc, .int .i64 (p : Int)] w (NewPost w (dat cs ds) p) := by
  have HKA := hide (Keeps.alloc (Keeps.refl w) (.cells #[.slice ca cs.length cc, .slice da ds.length dc] 26))
  have HM := hide (hm.kept HKA.out)
  have HD : Hid (∀ w', Keeps (w.alloc (.cells #[.slice ca cs.length cc, .slice da ds.length dc] 26)) w' → w'.cell? ⟨w.heap.size, 0, none⟩ = some (.slice ca cs.length cc) ∧ w'.cell? ⟨w.heap.size, 1, none⟩ = some (.slice da ds.length dc)) :=
    fun w' hk => ⟨hk.cell (by simp), hk.cell (by simp)⟩
  have HZ : Hid ((w.alloc (.cells #[.slice ca cs.length cc, .slice da ds.length dc] 26)).heap.size = w.heap.size + 1) := by show _ = _; rw [World.size_alloc]
  have hcl := h.c
  have hdl := h.d
  have HOk := hide hok
  have HB := hide (readB_in (m := dat cs ds) (i := p) hok (by omega) (by show (p : Int) < ((cs.map Bs.L).length : Int); simpa using hp))
  have HDO := hide h
  clear hm h hok
  go_enter Tryz.func92, Tryz.ntmps92
  go_wp2_with fail
  generalize w.alloc (.cells #[.slice ca cs.length cc, .slice da ds.length dc] 26) = W0 at *
  go_loopw [5] (fun y wr => ∃ k : Nat, k ≤ ds.length ∧ y = .int .i64 ((k : Int) - 1) ∧ Hid (lastD ((ds.map Wr.key).drop k) p = none) ∧ Hid (Keeps W0 wr)) (fun y _ => (intOf y + 1).toNat)
  case atStart => exact ⟨ds.length, Nat.le_refl _, rfl, by show _ = _; rw [List.drop_of_length_le (by simp)]; rfl, Keeps.refl _⟩
  case round =>
    obtain ⟨k, hk, rfl, HN, HKr⟩ := hrel
    obtain ⟨d0, d1⟩ := HD.out _ HKr.out
    by_cases hlt : 0 < k
    · obtain ⟨j, rfl⟩ : ∃ j, k = j + 1 := ⟨k - 1, by omega⟩
      have hj : j < ds.length := by omega
      rw [show (((j + 1 : Nat) : Int) - 1) = (j : Int) by omega]
      obtain ⟨b, off, ea, c0, c1⟩ := cell2 ((dsk_mem HM.out).2.2.1.kept HKr.out) j hj
      subst ea
      have HCx : Hid (Cells wr ds[j].b.a (bys ds[j].b.L)) := (mem_segW (dsk_mem HM.out).2.2.2 j hj).kept HKr.out
      have HNx := hide (HDO.out.nd _ (List.getElem_mem hj)).1
      have HLx : Hid (ds[j].b.L.length ≤ 4194304) := Nat.le_trans (totW_le (List.getElem_mem hj)) (Nat.le_trans HDO.out.td (by decide))
      have HHt := hide (fun he F => read_hit (cs := cs) (i := (p : Int)) hj he HN.out F)
      have HNt := hide (fun he => read_next (i := (p : Int)) hj he HN.out)
      generalize ds[j] = x at *
      obtain ⟨xi, xa, xc, xL⟩ := x
      dsimp only [Bs.v] at c0 c1 HCx HNx HLx HHt HNt
      by_cases he : xi = (p : Int)
      · subst he
        have HHit := hide (HHt.out rfl (fullL ((dat cs ds).cells.getD (p : Int).toNat [])))
        · skip
          have HCl := hide (clone_k xa xc xL wr HCx.out HNx.out HLx.out)
          go_wp2_with (go_at_call 84; refine (unhide HCl).mono ?_; rintro x w3 ⟨v3, rfl, ho3, hk3⟩)
          go_ret
          exact NewPost.yes HB.out HHit.out (OwnsB.older ho3 (HKA.out.trans HKr.out).size) (HKA.out.trans (HKr.out.trans hk3))
      · have hne : (xi == (p : Int)) = false := beq_eq_false_iff_ne.2 he
        have HNx2 := hide (HNt.out he)
        clear he
        go_wp2_with fail
        go_roundw
        case rel => exact ⟨j, by omega, rfl, HNx2, HKr⟩
        case measure => simp [intOf]
    · obtain rfl : k = 0 := by omega
      obtain ⟨b, off, ea, c0⟩ := cell1 ((dsk_mem HM.out).1.kept HKr.out) p hp
      subst ea
      have HCx : Hid (Cells wr cs[p].a (bys cs[p].L)) := (mem_seg (dsk_mem HM.out).2.1 p hp).kept HKr.out
      have HNx := hide (HDO.out.nc _ (List.getElem_mem hp)).1
      have HLx : Hid (cs[p].L.length ≤ 2097152) := Nat.le_trans (tot_le (List.getElem_mem hp)) (Nat.le_trans HDO.out.tc (by decide))
      have HMiss := hide (read_miss hp HN.out)
      have HLen : Hid (cs[p].L.length = 0 ∨ cs[p].L.length = 128) := dokM_cell HOk.out (List.mem_map.2 ⟨_, List.getElem_mem hp, rfl⟩)
      generalize cs[p] = x at *
      obtain ⟨xa, xc, xL⟩ := x
      dsimp only [Bs.v] at c0 HCx HNx HLx HMiss HLen
      · skip
        have HFu := hide (filled_k xa xc xL wr HCx.out (Nat.le_trans HLx.out (by decide)))
        go_wp2_with (go_at_call 85; refine (unhide HFu).mono ?_; rintro x w3 ⟨v3, rfl, ho3, hk3⟩)
        go_ret
        rw [fill_full HLen.out] at ho3
        exact NewPost.yes HB.out HMiss.out (OwnsB.older ho3 (HKA.out.trans HKr.out).size) (HKA.out.trans (HKr.out.trans hk3))
set_option maxHeartbeats 4000000 in
theorem diskread_spec (ca : Option Addr) (cc : Nat) (cs : List Bs) (da : Option Addr) (dc : Nat) (ds : List Wr) (i : Int) (w : World) (hm : Mem w (dsk ca cs da ds)) (h : DOk cs ds) :
    Calls Tryz.prog 41 #[dskV ca cs.length cc da ds.length dc, .int .i64 i] w (ReadPost w (dat cs ds) i) := by
  have HKA := hide (Keeps.alloc (Keeps.refl w) (.cells #[.slice ca cs.length cc, .slice da ds.length dc] 26))
  have HM := hide (hm.kept HKA.out)
  have HD : Hid (∀ w', Keeps (w.alloc (.cells #[.slice ca cs.length cc, .slice da ds.length dc] 26)) w' → w'.cell? ⟨w.heap.size, 0, none⟩ = some (.slice ca cs.length cc) ∧ w'.cell? ⟨w.heap.size, 1, none⟩ = some (.slice da ds.length dc)) :=
    fun w' hk => ⟨hk.cell (by simp), hk.cell (by simp)⟩
  have HZ : Hid ((w.alloc (.cells #[.slice ca cs.length cc, .slice da ds.length dc] 26)).heap.size = w.heap.size + 1) := by show _ = _; rw [World.size_alloc]
  have HQ := hide (diskok_spec' ca cc cs da dc ds _ HM.out h)
  have hcl := h.c
  have hdl := h.d
  clear hm
  cases hok : dokM (dat cs ds)
  · rw [hok] at HQ
    have HB := hide (readB_dok (i := i) hok)
    clear hok h
    go_enter Tryz.func41, Tryz.ntmps41
    go_wp2_with (go_at_call 36; refine (unhide HQ).mono ?_; rintro x w1 ⟨rfl, hk1⟩; have HK1 := hide hk1; obtain ⟨d0, d1⟩ := HD.out _ hk1; clear hk1)
    go_ret2
    exact ReadPost.no HB.out (HKA.out.trans HK1.out)
  rw [hok] at HQ
  have HOk := hide hok
  clear hok
  by_cases h0 : i < 0
  · clear hdl
    have HB := hide (readB_out (m := dat cs ds) (i := i) (Or.inl h0))
    go_enter Tryz.func41, Tryz.ntmps41
    go_wp2_with (go_at_call 36; refine (unhide HQ).mono ?_; rintro x w1 ⟨rfl, hk1⟩; have HK1 := hide hk1; obtain ⟨d0, d1⟩ := HD.out _ hk1; clear hk1)
    go_ret2
    exact ReadPost.no HB.out (HKA.out.trans HK1.out)
  by_cases h1 : (cs.length : Int) ≤ i
  · clear hdl
    have HB := hide (readB_out (m := dat cs ds) (i := i) (Or.inr (by show ((cs.map Bs.L).length : Int) ≤ i; simpa using h1)))
    go_enter Tryz.func41, Tryz.ntmps41
    go_wp2_with (go_at_call 36; refine (unhide HQ).mono ?_; rintro x w1 ⟨rfl, hk1⟩; have HK1 := hide hk1; obtain ⟨d0, d1⟩ := HD.out _ hk1; clear hk1)
    go_ret2
    exact ReadPost.no HB.out (HKA.out.trans HK1.out)
  obtain ⟨p, rfl⟩ : ∃ p : Nat, i = p := ⟨i.toNat, by omega⟩
  have hp : p < cs.length := by omega
  have HB := hide (readB_in (m := dat cs ds) (i := p) HOk.out (by omega) (by show (p : Int) < ((cs.map Bs.L).length : Int); simpa using hp))
  have HDO := hide h
  clear h h0 h1
  go_enter Tryz.func41, Tryz.ntmps41
  go_wp2_with (go_at_call 36; refine (unhide HQ).mono ?_; rintro x w1 ⟨rfl, hk1⟩; have HK1 := hide hk1; obtain ⟨d0, d1⟩ := HD.out _ hk1; clear hk1)
  generalize w.alloc (.cells #[.slice ca cs.length cc, .slice da ds.length dc] 26) = W0 at *
  clear d0 d1
  go_loopw [6] (fun y wr => ∃ k : Nat, k ≤ ds.length ∧ y = .int .i64 ((k : Int) - 1) ∧ Hid (lastD ((ds.map Wr.key).drop k) p = none) ∧ Hid (Keeps W0 wr)) (fun y _ => (intOf y + 1).toNat)
  case atStart => exact ⟨ds.length, Nat.le_refl _, rfl, by show _ = _; rw [List.drop_of_length_le (by simp)]; rfl, HK1⟩
  case round =>
    obtain ⟨k, hk, rfl, HN, HKr⟩ := hrel
    obtain ⟨d0, d1⟩ := HD.out _ HKr.out
    by_cases hlt : 0 < k
    · obtain ⟨j, rfl⟩ : ∃ j, k = j + 1 := ⟨k - 1, by omega⟩
      have hj : j < ds.length := by omega
      rw [show (((j + 1 : Nat) : Int) - 1) = (j : Int) by omega]
      obtain ⟨b, off, ea, c0, c1⟩ := cell2 ((dsk_mem HM.out).2.2.1.kept HKr.out) j hj
      subst ea
      have HCx : Hid (Cells wr ds[j].b.a (bys ds[j].b.L)) := (mem_segW (dsk_mem HM.out).2.2.2 j hj).kept HKr.out
      have HNx := hide (HDO.out.nd _ (List.getElem_mem hj)).1
      have HLx : Hid (ds[j].b.L.length ≤ 4194304) := Nat.le_trans (totW_le (List.getElem_mem hj)) (Nat.le_trans HDO.out.td (by decide))
      have HHt := hide (fun he F => read_hit (cs := cs) (i := (p : Int)) hj he HN.out F)
      have HNt := hide (fun he => read_next (i := (p : Int)) hj he HN.out)
      generalize ds[j] = x at *
      obtain ⟨xi, xa, xc, xL⟩ := x
      dsimp only [Bs.v] at c0 c1 HCx HNx HLx HHt HNt
      by_cases he : xi = (p : Int)
      · subst he
        have HHit := hide (HHt.out rfl (fullL ((dat cs ds).cells.getD (p : Int).toNat [])))
        · skip
          have HC2 := hide (HCx.out.kept (Keeps.alloc (Keeps.refl wr) (.cells #[] 5)))
          have HO2 := hide (World.ownsRow_made (base := wr.heap.size) (e := 5) (size := 1) wr #[] 0 (Nat.le_refl _) (by decide) rfl)
          have HL2 : Hid (([] : List UInt8).length + xL.length ≤ 4194304) := by show _ ≤ _; have := HLx.out; simp; omega
          have hz : w.heap.size < wr.heap.size := by have := HKr.out.size; have := HZ.out; omega
          have hzb : b < wr.heap.size := lt_of_cell c1
          go_wp2_with (at_builtin; refine app_bys rfl (.tmp 37) (.tmp 43) rfl wr.heap.size _ [] xL rfl xa xc rfl HC2.out HNx.out HO2.out HL2.out (by simp) ?_; intro v3 w3 ho3 hg3)
          go_ret2
          have hk3 := Keeps.grown (Keeps.alloc (Keeps.refl wr) (.cells #[] 5)) hg3 (fun k hk => (HO2.out.lt k hk).1)
          exact ReadPost.yes HB.out HHit.out (OwnsB.older (by simpa using ho3) (HKA.out.trans HKr.out).size) (HKA.out.trans (HKr.out.trans hk3))
      · have hne : (xi == (p : Int)) = false := beq_eq_false_iff_ne.2 he
        have HNx2 := hide (HNt.out he)
        clear he
        go_wp2_with fail
        go_roundw
        case rel => exact ⟨j, by omega, rfl, HNx2, HKr⟩
        case measure => simp [intOf]
    · obtain rfl : k = 0 := by omega
      obtain ⟨b, off, ea, c0⟩ := cell1 ((dsk_mem HM.out).1.kept HKr.out) p hp
      subst ea
      have HCx : Hid (Cells wr cs[p].a (bys cs[p].L)) := (mem_seg (dsk_mem HM.out).2.1 p hp).kept HKr.out
      have HNx := hide (HDO.out.nc _ (List.getElem_mem hp)).1
      have HLx : Hid (cs[p].L.length ≤ 2097152) := Nat.le_trans (tot_le (List.getElem_mem hp)) (Nat.le_trans HDO.out.tc (by decide))
      have HMiss := hide (read_miss hp HN.out)
      have HLen : Hid (cs[p].L.length = 0 ∨ cs[p].L.length = 128) := dokM_cell HOk.out (List.mem_map.2 ⟨_, List.getElem_mem hp, rfl⟩)
      generalize cs[p] = x at *
      obtain ⟨xa, xc, xL⟩ := x
      dsimp only [Bs.v] at c0 HCx HNx HLx HMiss HLen
      · skip
        have HFu := hide (full_k xa xc xL wr HCx.out HNx.out HLx.out)
        go_wp2_with (go_at_call 78; refine (unhide HFu).mono ?_; rintro x w3 ⟨v3, rfl, ho3, hk3⟩)
        go_ret2
        exact ReadPost.yes HB.out HMiss.out (OwnsB.older ho3 (HKA.out.trans HKr.out).size) (HKA.out.trans (HKr.out.trans hk3))
end Go.Proofs.YtkdnddckogbgaaaGreatDoor
