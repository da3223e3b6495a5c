/- SectorRead of the program, the face. -/
import Derived.Test.YtmkhlhjggbencaaDoorCLogRead4
import Derived.Tactics2
import Derived.Defers
import Derived.Recover
import Derived.Laws.Pointers
import Derived.Test.YtmkhlhjggbencaaDoorCLogRead1
import Derived.Test.YtmkhlhjggbencaaDoorCLogRead3
import Derived.Test.YtmkhlhjggbencaaDoorCLogRead2
namespace Go.Proofs.YtmkhlhjggbencaaDoor
open Go.RowKit Go.Deep
set_option linter.unusedVariables false
set_option linter.unusedSimpArgs false
set_option maxRecDepth 10000
theorem sector_len (B : Nat) (ad : Option Addr) (n cap : Nat) (w : World) (u : TypeId) (pv : Value) (hv : w.cell? ⟨0, 0, none⟩ = some (.iface u pv)) (hd : w.cell? ⟨B, 0, none⟩ = some (.slice ad n cap)) (hl : n ≤ 16777216) (h22 : n ≠ 128) :
    Calls Tryd.prog 67 #[.pointer (some ⟨B, 0, none⟩)] w fun e w' => e = .panicked [{ v := .iface u pv, recovered := false }] ∧ Turn [B] w w' := by
  have hn : ((n : Int) == 128) = false := beq_eq_false_iff_ne.2 (by omega)
  have hk := Keeps.alloc (Keeps.refl w) (.cells #[.int .i64 0, .int .i64 0, .slice none 0 0] 52)
  have d0 := hk.cell hd
  have HV := hide (hk.cell hv)
  have HK := hide hk
  clear h22 hk hd hv
  go_enter Tryd.func67, Tryd.ntmps67
  go_wp2_with fail
  go_at_call 69
  refine (insist_no _ u pv HV.out).mono ?_
  rintro e w' ⟨rfl, rfl⟩
  exact ⟨rfl, rfl, Turn.of_keeps HK.out _⟩
set_option maxHeartbeats 2000000 in
theorem catchS_panic (R Q : Nat) (hRQ : R ≠ Q) (x0 x1 x2 y : Value) (u : TypeId) (pv : Value) (older : List PanicEntry) (w : World) (hR : Own w [(some ⟨R, 0, none⟩, [x0, x1, x2])]) (hc : w.cell? ⟨Q, 0, none⟩ = some y) (hz : w.frozen? ⟨Q, 0, none⟩ = false) :
    CallsD Tryd.prog 66 #[.pointer (some ⟨R, 0, none⟩), .pointer (some ⟨Q, 0, none⟩)] (.panicking ({ v := .iface u pv, recovered := false } :: older)) w fun e u' w' =>
      e = .returned (.tuple #[]) ∧ u' = .panicking ({ v := .iface u pv, recovered := true } :: older) ∧ w' = (((w.setCell ⟨R, 0, none⟩ (.int .i64 0)).setCell ⟨R, 1, none⟩ (.int .i64 0)).setCell ⟨R, 2, none⟩ (.slice none 0 0)).setCell ⟨Q, 0, none⟩ (.bool false) := by
  have c0 := cell_at hR.mem 0 (by simp)
  have c1 := cell_at hR.mem 1 (by simp)
  have c2 := cell_at hR.mem 2 (by simp)
  simp only [Nat.zero_add, List.getElem_cons_zero, List.getElem_cons_succ] at c0 c1 c2
  have fR : ∀ i, w.frozen? ⟨R, i, none⟩ = false := hR.free R (by rw [fp_one, fpS_some (by simp)]; simp)
  refine callsD_of_wpS Tryd.func66 rfl fun c₀ cs hu => ?_
  apply wpS_seq
  apply wpS_region
  simp [wpOpsS, go_sem, recoverD, hu, Tryd.ntmps66, Exit.thenS]
  refine wpS_cond (t := true) (by simp [Act.eval, Array.replicate]) ?_
  simp only [if_true]
  apply wpS_region
  simp [wpOpsS, go_sem, c0, c1, c2, fR, hc, hz, hRQ, Ne.symm hRQ, bodyPostS, results, Tryd.results66]
theorem catchS_idle (p q : Addr) (w : World) :
    CallsD Tryd.prog 66 #[.pointer (some p), .pointer (some q)] .returning w fun e u' w' => e = .returned (.tuple #[]) ∧ u' = .returning ∧ w' = w := by
  refine callsD_of_wpS Tryd.func66 rfl fun c₀ cs hu => ?_
  apply wpS_seq
  apply wpS_region
  simp [wpOpsS, go_sem, recoverD, hu, Tryd.ntmps66, Exit.thenS]
  refine wpS_cond (t := false) (by simp [Act.eval, Array.replicate]) ?_
  simp only [Bool.false_eq_true, if_false]
  refine wpS_of_wp (wp_skip ?_)
  cases c₀
  simp_all [bodyPostS, results, Tryd.results66]
theorem sector_no (B b off : Nat) (L : List UInt8) (cap : Nat) (w : World) (u : TypeId) (pv : Value) (hv : w.cell? ⟨0, 0, none⟩ = some (.iface u pv)) (hgB : 0 ≠ B) (hr : Rd w B (some ⟨b, off, none⟩) L cap (0 : Nat)) (hb : L.length = 128 → b ≠ B ∧ b < w.heap.size) (hBl : B < w.heap.size) (hc : Cells w (some ⟨b, off, none⟩) (bys L)) (hl : L.length ≤ 16777216) (hcap : L.length ≤ cap) (hcm : cap ≤ 9223372036854775807) (hB : srB L = false) :
    Calls Tryd.prog 67 #[.pointer (some ⟨B, 0, none⟩)] w fun e w' => e = .panicked [{ v := .iface u pv, recovered := false }] ∧ Turn [B] w w' := by
  by_cases h128 : L.length = 128
  · obtain ⟨h1, h2⟩ := hb h128
    by_cases hz : numL (cut L 0 1) = 74
    · by_cases hn : numL (cut L 7 1) ≤ 100
      · by_cases hzr : cut L (8 + numL (cut L 7 1)) (114 - numL (cut L 7 1)) = List.replicate (114 - numL (cut L 7 1)) 0
        · by_cases hq : numL (cut L 122 3) = numL (cut L 1 3)
          · by_cases he : numL (cut L 125 3) = numL (cut L 4 3)
            · refine sector_ok B b off L cap w u pv hv hgB hr h1 hBl h2 hc hcap hcm h128 (numL (cut L 0 1)) (numL (cut L 1 3)) (numL (cut L 4 3)) (numL (cut L 7 1)) (numL (cut L 122 3)) (numL (cut L 125 3)) rfl rfl rfl rfl rfl rfl hz hn hzr hq he ?_
              unfold srB at hB
              rw [decide_eq_true h128, decide_eq_true hz, decide_eq_true hn, decide_eq_true hzr, decide_eq_true hq, decide_eq_true he] at hB
              simpa using hB
            · exact sector_epoch B b off L cap w u pv hv hgB hr h1 hBl h2 hc hcap hcm h128 (numL (cut L 0 1)) (numL (cut L 1 3)) (numL (cut L 4 3)) (numL (cut L 7 1)) (numL (cut L 122 3)) (numL (cut L 125 3)) rfl rfl rfl rfl rfl rfl hz hn hzr hq he
          · exact sector_seq B b off L cap w u pv hv hgB hr h1 hBl h2 hc hcap hcm h128 (numL (cut L 0 1)) (numL (cut L 1 3)) (numL (cut L 4 3)) (numL (cut L 7 1)) (numL (cut L 122 3)) (numL (cut L 125 3)) rfl rfl rfl rfl rfl rfl hz hn hzr hq
        · exact sector_zeros B b off L cap w u pv hv hgB hr h1 hBl h2 hc hcap hcm h128 (numL (cut L 0 1)) (numL (cut L 1 3)) (numL (cut L 4 3)) (numL (cut L 7 1)) (numL (cut L 122 3)) (numL (cut L 125 3)) rfl rfl rfl rfl rfl rfl hz hn hzr
      · exact sector_size B b off L cap w u pv hv hgB hr h1 hBl h2 hc hcap hcm h128 (numL (cut L 0 1)) (numL (cut L 1 3)) (numL (cut L 4 3)) (numL (cut L 7 1)) (numL (cut L 122 3)) (numL (cut L 125 3)) rfl rfl rfl rfl rfl rfl hz hn
    · exact sector_first B b off L cap w u pv hv hgB hr h1 hBl h2 hc hcap hcm h128 (numL (cut L 0 1)) (numL (cut L 1 3)) (numL (cut L 4 3)) (numL (cut L 7 1)) (numL (cut L 122 3)) (numL (cut L 125 3)) rfl rfl rfl rfl rfl rfl hz
  · exact sector_len B _ L.length cap w u pv hv hr.data hl h128
theorem sector_good (B b off : Nat) (L : List UInt8) (cap : Nat) (w : World) (u : TypeId) (pv : Value) (hv : w.cell? ⟨0, 0, none⟩ = some (.iface u pv)) (hgB : 0 ≠ B) (hr : Rd w B (some ⟨b, off, none⟩) L cap (0 : Nat)) (hb : L.length = 128 → b ≠ B ∧ b < w.heap.size) (hBl : B < w.heap.size) (hc : Cells w (some ⟨b, off, none⟩) (bys L)) (hl : L.length ≤ 16777216) (hcap : L.length ≤ cap) (hcm : cap ≤ 9223372036854775807) (hB : srB L = true) :
    Calls Tryd.prog 67 #[.pointer (some ⟨B, 0, none⟩)] w fun x w' => ∃ (ab : Option Addr) (cb : Nat), x = .returned (secV (numL (cut L 1 3) : Nat) (numL (cut L 4 3) : Nat) ab (cut L 8 (numL (cut L 7 1))).length cb) ∧ (ab = none → cb = 0) ∧ Born w w' [(ab, bys (cut L 8 (numL (cut L 7 1))))] ∧ Turn [B] w w' := by
  unfold srB at hB
  simp only [Bool.and_eq_true, decide_eq_true_eq] at hB
  obtain ⟨⟨⟨⟨⟨⟨h128, hz⟩, hn⟩, hzr⟩, hq⟩, he⟩, hok⟩ := hB
  obtain ⟨h1, h2⟩ := hb h128
  exact sector_yes B b off L cap w u pv hv hgB hr h1 hBl h2 hc hcap hcm h128 (numL (cut L 0 1)) (numL (cut L 1 3)) (numL (cut L 4 3)) (numL (cut L 7 1)) (numL (cut L 122 3)) (numL (cut L 125 3)) rfl rfl rfl rfl rfl rfl hz hn hzr hq he hok
/-- The world where SectorRead calls sector. -/
abbrev threeS (w : World) (ad : Option Addr) (l cap : Nat) : World := ((w.alloc (Obj.cells #[.int .i64 0, .int .i64 0, .slice none 0 0] 52)).alloc (Obj.cells #[Value.bool false] 4)).alloc (Obj.cells #[.slice ad l cap, .int .i64 0] 95)
theorem threeS_keeps (w : World) (ad : Option Addr) (l cap : Nat) : Keeps w (threeS w ad l cap) := (((Keeps.refl w).alloc _).alloc _).alloc _
theorem threeS_rd (w : World) (ad : Option Addr) (L : List UInt8) (cap : Nat) : Rd (threeS w ad L.length cap) (w.heap.size + 1 + 1) ad L cap ((0 : Nat) : Int) :=
  ⟨by rw [World.cell?_alloc_at _ _ _ _ (by simp)]; rfl, by rw [World.cell?_alloc_at _ _ _ _ (by simp)]; rfl, by rw [World.frozen?_alloc_at _ _ _ _ (by simp)]⟩
theorem threeS_own (w : World) (ad : Option Addr) (l cap : Nat) : Own (threeS w ad l cap) [(some ⟨w.heap.size, 0, none⟩, [.int .i64 0, .int .i64 0, .slice none 0 0])] :=
  (((born_alloc w #[.int .i64 0, .int .i64 0, .slice none 0 0] 52).toOwn.kept (Keeps.alloc (Keeps.refl _) _)).kept (Keeps.alloc (Keeps.refl _) _))
theorem threeS_b (w : World) (ad : Option Addr) (l cap : Nat) : (threeS w ad l cap).cell? ⟨w.heap.size + 1, 0, none⟩ = some (.bool false) := by
  rw [World.cell?_alloc_past _ _ _ (by simp), World.cell?_alloc_at _ _ _ _ (by simp)]; rfl
theorem threeS_zb (w : World) (ad : Option Addr) (l cap : Nat) : (threeS w ad l cap).frozen? ⟨w.heap.size + 1, 0, none⟩ = false := by
  rw [World.frozen?_alloc_past _ _ _ (by simp), World.frozen?_alloc_at _ _ _ _ (by simp)]
theorem keeps_threeB {W w : World} {R : Nat} (h : Keeps W w) (hR : W.heap.size ≤ R) (y0 y1 y2 : Value) : Keeps W (((w.setCell ⟨R, 0, none⟩ (y0)).setCell ⟨R, 1, none⟩ (y1)).setCell ⟨R, 2, none⟩ (y2)) :=
  (((h.setCell (p := ⟨R, 0, none⟩) hR y0).setCell (p := ⟨R, 1, none⟩) hR y1).setCell (p := ⟨R, 2, none⟩) hR y2)
theorem three_other {w : World} {R : Nat} {p : Addr} (hp : p.block ≠ R) {v : Value} (h : w.cell? p = some v) (y0 y1 y2 : Value) : (((w.setCell ⟨R, 0, none⟩ (y0)).setCell ⟨R, 1, none⟩ (y1)).setCell ⟨R, 2, none⟩ (y2)).cell? p = some v := by
  iterate 3 rw [World.cell?_setCell_other _ _ _ _ (fun e => hp (by rw [← e]))]
  exact h
theorem own_threeO {w : World} {R : Nat} {S : List Seg} (h : Own w S) (hn : ∀ x ∈ fp S, x ≠ R) (y0 y1 y2 : Value) : Own (((w.setCell ⟨R, 0, none⟩ (y0)).setCell ⟨R, 1, none⟩ (y1)).setCell ⟨R, 2, none⟩ (y2)) S :=
  own_setB (a := ⟨R, 2, none⟩) (own_setB (a := ⟨R, 1, none⟩) (own_setB (a := ⟨R, 0, none⟩) h y0 hn) y1 hn) y2 hn
theorem fp_ne {R R' : Nat} {xs : List Value} (h : R ≠ R') : ∀ x ∈ fp [((some ⟨R, 0, none⟩ : Option Addr), xs)], x ≠ R' := fun x hx e => by
  rw [fp_one] at hx
  by_cases h0 : xs = []
  · simp [fpS, h0] at hx
  · rw [fpS_some h0] at hx
    exact h ((show x = R by simpa using hx).symm.trans e)
set_option maxHeartbeats 4000000 in
theorem secread_no (b off : Nat) (L : List UInt8) (cap : Nat) (w : World) (u : TypeId) (pv : Value) (hv : w.cell? ⟨0, 0, none⟩ = some (.iface u pv)) (hc : Cells w (some ⟨b, off, none⟩) (bys L)) (hl : L.length ≤ 16777216) (hcap : L.length ≤ cap) (hcm : cap ≤ 9223372036854775807) (hB : srB L = false) :
    Calls Tryd.prog 54 #[.slice (some ⟨b, off, none⟩) L.length cap] w (SrPost w L) := by
  have hmf : ∀ (fn : Fn) (first cap : Array Value) (w : World), (Instr.makeFunc fn first cap).run Tryd.prog w = .ok (.func fn first cap) w := fun _ _ _ _ => rfl
  have hk3 := threeS_keeps w (some ⟨b, off, none⟩) L.length cap
  have hgl := lt_of_cell hv
  have hbb : L.length = 128 → b < w.heap.size := fun h22 => by
    rcases hc with h' | ⟨b', off', e, h'⟩
    · rw [bys_nil] at h'; subst h'; simp at h22
    · have e' := Option.some.inj e
      injection e' with e1 e2
      subst e1 e2
      exact lt_of_cell (h' 0 (by rw [bys_length]; omega))
  have HE := hide (sector_no (w.heap.size + 1 + 1) b off L cap (threeS w (some ⟨b, off, none⟩) L.length cap) u pv (hk3.cell hv) (by omega) (threeS_rd w _ L cap) (fun h => by have := hbb h; exact ⟨by omega, by simp; omega⟩) (by simp) (hc.kept hk3) hl hcap hcm hB)
  have HO := hide (threeS_own w (some ⟨b, off, none⟩) L.length cap)
  have H1 := hide (threeS_b w (some ⟨b, off, none⟩) L.length cap)
  have H2 := hide (threeS_zb w (some ⟨b, off, none⟩) L.length cap)
  have HK := hide hk3
  have HSZ : Hid ((threeS w (some ⟨b, off, none⟩) L.length cap).heap.size = w.heap.size + 3) := by show _ = _; simp
  have HB := hide hB
  clear hk3 hv hc hB hbb hgl
  go_enter_defers Tryd.func54, Tryd.ntmps54
  go_wp2_with fail
  go_at_call 67
  refine (unhide HE).mono ?_
  rintro e w1 ⟨rfl, ht⟩
  have hO := HO.out.turn ht (fun x hx hb => by
    rw [fp_one, fpS_some (by simp)] at hx
    simp at hx hb
    omega)
  have t1 := ht.cell (p := ⟨w.heap.size + 1, 0, none⟩) (by simp) H1.out
  have z1 : w1.frozen? ⟨w.heap.size + 1, 0, none⟩ = false := by rw [← H2.out]; exact World.frozen?_of_block (ht.block _ (by simp) (by simp))
  have hk1 : Keeps w w1 := ht.keeps HK.out (fun x hx => by simp at hx; omega)
  clear ht HE HO H1 H2 HK HSZ
  have hO2 := own_setB (a := ⟨w.heap.size + 1, 0, none⟩) (own_threeB hO (.int .i64 0) (.int .i64 0) (.slice none 0 0)) (.bool false) (fp_ne (by simp))
  have hk2 := (keeps_threeB hk1 (Nat.le_refl _) (.int .i64 0) (.int .i64 0) (.slice none 0 0)).setCell (p := ⟨w.heap.size + 1, 0, none⟩) (Nat.le_succ _) (.bool false)
  have e8 := World.cell?_setCell_same (((w1.setCell ⟨w.heap.size, 0, none⟩ (.int .i64 0)).setCell ⟨w.heap.size, 1, none⟩ (.int .i64 0)).setCell ⟨w.heap.size, 2, none⟩ (.slice none 0 0)) ⟨w.heap.size + 1, 0, none⟩ (.bool false) (three_other (R := w.heap.size) (p := ⟨w.heap.size + 1, 0, none⟩) (by simp) t1 (.int .i64 0) (.int .i64 0) (.slice none 0 0))
  have e0 := cell_at hO2.mem 0 (by simp)
  have e1 := cell_at hO2.mem 1 (by simp)
  have e2 := cell_at hO2.mem 2 (by simp)
  simp only [Nat.zero_add, List.getElem_cons_zero, List.getElem_cons_succ] at e0 e1 e2
  have hP := SrPost.no HB.out hk2
  refine leaves_cons (f := 66) (args := #[.pointer (some ⟨w.heap.size, 0, none⟩), .pointer (some ⟨w.heap.size + 1, 0, none⟩)]) (by simp) rfl ?_
  refine (catchS_panic w.heap.size (w.heap.size + 1) (by omega) _ _ _ _ u pv [] w1 hO t1 z1).mono ?_
  rintro e u' w' ⟨rfl, rfl, hw'⟩
  rw [← hw'] at e0 e1 e2 e8 hP
  simp [Leaves, settle, results, Tryd.results54, go_sem, e0, e1, e2, e8]
  exact hP
set_option maxHeartbeats 4000000 in
theorem secread_ok (b off : Nat) (L : List UInt8) (cap : Nat) (w : World) (u : TypeId) (pv : Value) (hv : w.cell? ⟨0, 0, none⟩ = some (.iface u pv)) (hc : Cells w (some ⟨b, off, none⟩) (bys L)) (hl : L.length ≤ 16777216) (hcap : L.length ≤ cap) (hcm : cap ≤ 9223372036854775807) (hB : srB L = true) :
    Calls Tryd.prog 54 #[.slice (some ⟨b, off, none⟩) L.length cap] w (SrPost w L) := by
  have hmf : ∀ (fn : Fn) (first cap : Array Value) (w : World), (Instr.makeFunc fn first cap).run Tryd.prog w = .ok (.func fn first cap) w := fun _ _ _ _ => rfl
  have hk3 := threeS_keeps w (some ⟨b, off, none⟩) L.length cap
  have hgl := lt_of_cell hv
  have hbb : L.length = 128 → b < w.heap.size := fun h22 => by
    rcases hc with h' | ⟨b', off', e, h'⟩
    · rw [bys_nil] at h'; subst h'; simp at h22
    · have e' := Option.some.inj e
      injection e' with e1 e2
      subst e1 e2
      exact lt_of_cell (h' 0 (by rw [bys_length]; omega))
  have HE := hide (sector_good (w.heap.size + 1 + 1) b off L cap (threeS w (some ⟨b, off, none⟩) L.length cap) u pv (hk3.cell hv) (by omega) (threeS_rd w _ L cap) (fun h => by have := hbb h; exact ⟨by omega, by simp; omega⟩) (by simp) (hc.kept hk3) hl hcap hcm hB)
  have HO := hide (threeS_own w (some ⟨b, off, none⟩) L.length cap)
  have H1 := hide (threeS_b w (some ⟨b, off, none⟩) L.length cap)
  have H2 := hide (threeS_zb w (some ⟨b, off, none⟩) L.length cap)
  have HK := hide hk3
  have HSZ : Hid ((threeS w (some ⟨b, off, none⟩) L.length cap).heap.size = w.heap.size + 3) := by show _ = _; simp
  have HB := hide hB
  clear hk3 hv hc hB hbb hgl
  go_enter_defers Tryd.func54, Tryd.ntmps54
  go_wp2_with fail
  go_at_call 67
  refine (unhide HE).mono ?_
  rintro e w1 ⟨ab, cb, rfl, hnc, hbo, ht⟩
  have hO := HO.out.turn ht (fun x hx hb => by
    rw [fp_one, fpS_some (by simp)] at hx
    simp at hx hb
    omega)
  have t1 := ht.cell (p := ⟨w.heap.size + 1, 0, none⟩) (by simp) H1.out
  have z1 : w1.frozen? ⟨w.heap.size + 1, 0, none⟩ = false := by rw [← H2.out]; exact World.frozen?_of_block (ht.block _ (by simp) (by simp))
  have hk1 : Keeps w w1 := ht.keeps HK.out (fun x hx => by simp at hx; omega)
  have hbn : ∀ x ∈ fp [(ab, bys (cut L 8 (numL (cut L 7 1))))], x ≠ w.heap.size ∧ x ≠ w.heap.size + 1 ∧ w.heap.size ≤ x := fun x hx => by
    have h1 := hbo.new x hx
    rw [HSZ.out] at h1
    omega
  clear ht HE HO H1 H2 HK HSZ
  generalize hqe : numL (cut L 1 3) = q at *
  generalize hee : numL (cut L 4 3) = e at *
  generalize hne : numL (cut L 7 1) = n at *
  have HQ := hide hqe
  have HEe := hide hee
  have HNn := hide hne
  clear hqe hee hne
  have hO1 := own_threeB hO (.int .i64 (q : Int)) (.int .i64 (e : Int)) (.slice ab (cut L 8 n).length cb)
  have hO2 := own_threeB hO1 (.int .i64 (q : Int)) (.int .i64 (e : Int)) (.slice ab (cut L 8 n).length cb)
  have HO3 := hide (own_setB (a := ⟨w.heap.size + 1, 0, none⟩) hO2 (.bool true) (fp_ne (by simp)))
  have HY := hide (own_setB (a := ⟨w.heap.size + 1, 0, none⟩) (own_threeO (own_threeO hbo.toOwn (fun x hx => (hbn x hx).1) (.int .i64 (q : Int)) (.int .i64 (e : Int)) (.slice ab (cut L 8 n).length cb)) (fun x hx => (hbn x hx).1) (.int .i64 (q : Int)) (.int .i64 (e : Int)) (.slice ab (cut L 8 n).length cb)) (.bool true) (fun x hx => (hbn x hx).2.1))
  have HYN := hide (fun x hx => (hbn x hx).2.2)
  have HNC := hide hnc
  have c0 := cell_at hO.mem 0 (by simp)
  have d0 := cell_at hO1.mem 0 (by simp)
  have c1 := cell_at hO.mem 1 (by simp)
  have d1 := cell_at hO1.mem 1 (by simp)
  have c2 := cell_at hO.mem 2 (by simp)
  have d2 := cell_at hO1.mem 2 (by simp)
  simp only [Nat.zero_add, List.getElem_cons_zero, List.getElem_cons_succ] at c0 d0 c1 d1 c2 d2
  have fR : ∀ i, w1.frozen? ⟨w.heap.size, i, none⟩ = false := hO.free w.heap.size (by rw [fp_one, fpS_some (by simp)]; simp)
  clear hO hO1 hO2 hbo hbn hnc
  have hq2 := three_other (R := w.heap.size) (p := ⟨w.heap.size + 1, 0, none⟩) (by simp) (three_other (R := w.heap.size) (p := ⟨w.heap.size + 1, 0, none⟩) (by simp) t1 (.int .i64 (q : Int)) (.int .i64 (e : Int)) (.slice ab (cut L 8 n).length cb)) (.int .i64 (q : Int)) (.int .i64 (e : Int)) (.slice ab (cut L 8 n).length cb)
  have HQ1 := hide (World.cell?_setCell_same ((((((w1.setCell ⟨w.heap.size, 0, none⟩ (.int .i64 (q : Int))).setCell ⟨w.heap.size, 1, none⟩ (.int .i64 (e : Int))).setCell ⟨w.heap.size, 2, none⟩ (.slice ab (cut L 8 n).length cb)).setCell ⟨w.heap.size, 0, none⟩ (.int .i64 (q : Int))).setCell ⟨w.heap.size, 1, none⟩ (.int .i64 (e : Int))).setCell ⟨w.heap.size, 2, none⟩ (.slice ab (cut L 8 n).length cb)) ⟨w.heap.size + 1, 0, none⟩ (.bool true) hq2)
  have HK2 := hide ((keeps_threeB (keeps_threeB hk1 (Nat.le_refl _) (.int .i64 (q : Int)) (.int .i64 (e : Int)) (.slice ab (cut L 8 n).length cb)) (Nat.le_refl _) (.int .i64 (q : Int)) (.int .i64 (e : Int)) (.slice ab (cut L 8 n).length cb)).setCell (p := ⟨w.heap.size + 1, 0, none⟩) (Nat.le_succ _) (.bool true))
  go_wp2_with fail
  generalize ((((((w1.setCell ⟨w.heap.size, 0, none⟩ (.int .i64 (q : Int))).setCell ⟨w.heap.size, 1, none⟩ (.int .i64 (e : Int))).setCell ⟨w.heap.size, 2, none⟩ (.slice ab (cut L 8 n).length cb)).setCell ⟨w.heap.size, 0, none⟩ (.int .i64 (q : Int))).setCell ⟨w.heap.size, 1, none⟩ (.int .i64 (e : Int))).setCell ⟨w.heap.size, 2, none⟩ (.slice ab (cut L 8 n).length cb)).setCell ⟨w.heap.size + 1, 0, none⟩ (.bool true) = w2 at *
  have hO3 := HO3.out
  clear c0 d0 c1 d1 c2 d2
  have e0 := cell_at hO3.mem 0 (by simp)
  have e1 := cell_at hO3.mem 1 (by simp)
  have e2 := cell_at hO3.mem 2 (by simp)
  simp only [Nat.zero_add, List.getElem_cons_zero, List.getElem_cons_succ] at e0 e1 e2
  have e8 := HQ1.out
  have hP := SrPost.yes HB.out HQ.out HEe.out HNn.out HNC.out ⟨HY.out, HYN.out⟩ HK2.out
  refine leaves_cons (f := 66) (args := #[.pointer (some ⟨w.heap.size, 0, none⟩), .pointer (some ⟨w.heap.size + 1, 0, none⟩)]) (by simp) rfl ?_
  refine (catchS_idle _ _ _).mono ?_
  rintro x u' w' ⟨rfl, rfl, rfl⟩
  simp [Leaves, settle, results, Tryd.results54, go_sem, e0, e1, e2, e8]
  exact hP
theorem secread_impl (b off : Nat) (L : List UInt8) (cap : Nat) (w : World) (u : TypeId) (pv : Value) (hv : w.cell? ⟨0, 0, none⟩ = some (.iface u pv)) (hc : Cells w (some ⟨b, off, none⟩) (bys L)) (hl : L.length ≤ 16777216) (hcap : L.length ≤ cap) (hcm : cap ≤ 9223372036854775807) :
    Calls Tryd.prog 54 #[.slice (some ⟨b, off, none⟩) L.length cap] w (SrPost w L) := by
  cases hB : srB L
  · exact secread_no b off L cap w u pv hv hc hl hcap hcm hB
  · exact secread_ok b off L cap w u pv hv hc hl hcap hcm hB
end Go.Proofs.YtmkhlhjggbencaaDoor

/- Lists of structs in memory: their cells, and lists that are changed one at a time. -/
namespace Go.Proofs.YtmkhlhjggbencaaDoor
open Go.RowKit Go.Deep
set_option linter.unusedVariables false

section
variable {α : Type} {f : α → List Value} {sz : Nat}
theorem flatMap_len (hf : ∀ x, (f x).length = sz) (xs : List α) : (xs.flatMap f).length = xs.length * sz := by
  induction xs with
  | nil => simp
  | cons x t ih => simp [ih, hf, Nat.add_mul]; omega
theorem flatMap_at (hf : ∀ x, (f x).length = sz) : ∀ (xs : List α) (i : Nat) (hi : i < xs.length) (r : Nat), r < sz → (xs.flatMap f)[i * sz + r]? = (f xs[i])[r]?
  | [], i, h, _, _ => absurd h (Nat.not_lt_zero i)
  | x :: t, 0, h, r, hr => by
    simp only [List.flatMap_cons, Nat.zero_mul, Nat.zero_add, List.getElem_cons_zero]
    exact List.getElem?_append_left (by rw [hf]; exact hr)
  | x :: t, i + 1, h, r, hr => by
    have := flatMap_at hf t i (by simpa using h) r hr
    simp only [List.flatMap_cons, List.getElem_cons_succ]
    rw [List.getElem?_append_right (by rw [hf, Nat.add_mul]; omega), hf, show (i + 1) * sz + r - sz = i * sz + r by rw [Nat.add_mul]; omega]
    exact this
/-- Cell r of element i of a list in memory. -/
theorem elem_at {w : World} {a : Option Addr} {xs : List α} (hf : ∀ x, (f x).length = sz) (h : Cells w a (xs.flatMap f)) (i : Nat) (hi : i < xs.length) (hs : 0 < sz) :
    ∃ b off, a = some ⟨b, off, none⟩ ∧ ∀ r (hr : r < (f xs[i]).length), w.cell? ⟨b, off + i * sz + r, none⟩ = some ((f xs[i])[r]) := by
  have hl := flatMap_len hf xs
  have hle : i * sz + sz ≤ xs.length * sz := by
    have := Nat.mul_le_mul_right sz (show i + 1 ≤ xs.length from hi)
    rw [Nat.add_mul] at this; omega
  rcases h with h | ⟨b, off, e, h⟩
  · rw [h] at hl
    simp at hl
    omega
  · refine ⟨b, off, e, fun r hr => ?_⟩
    have hr' : r < sz := by rw [hf] at hr; exact hr
    have g := flatMap_at hf xs i hi r hr'
    rw [List.getElem?_eq_getElem hr, List.getElem?_eq_getElem (by omega)] at g
    rw [Nat.add_assoc, h (i * sz + r) (by omega)]
    exact g
end
theorem cell1 {w : World} {a : Option Addr} {cs : List Bs} (h : Cells w a (ccells cs)) (i : Nat) (hi : i < cs.length) : ∃ b off, a = some ⟨b, off, none⟩ ∧ w.cell? ⟨b, off + i, none⟩ = some cs[i].v := by
  obtain ⟨b, off, e, h⟩ := elem_at (f := Bs.cells) (sz := 1) (fun _ => rfl) h i hi (by decide)
  exact ⟨b, off, e, by have g := h 0 (by simp [Bs.cells]); simp only [Nat.mul_one, Nat.add_zero] at g; exact g⟩
theorem cell2 {w : World} {a : Option Addr} {ds : List Wr} (h : Cells w a (wcells ds)) (i : Nat) (hi : i < ds.length) :
    ∃ b off, a = some ⟨b, off, none⟩ ∧ w.cell? ⟨b, off + i * 2, none⟩ = some (.int .i64 ds[i].i) ∧ w.cell? ⟨b, off + i * 2 + 1, none⟩ = some ds[i].b.v := by
  obtain ⟨b, off, e, h⟩ := elem_at (f := Wr.cells) (sz := 2) (fun _ => rfl) h i hi (by decide)
  exact ⟨b, off, e, h 0 (by simp [Wr.cells]), h 1 (by simp [Wr.cells])⟩
theorem ccells_len (cs : List Bs) : (ccells cs).length = cs.length := by
  have := flatMap_len (f := Bs.cells) (sz := 1) (fun _ => rfl) cs
  simpa [ccells] using this
theorem wcells_len (ds : List Wr) : (wcells ds).length = ds.length * 2 := flatMap_len (f := Wr.cells) (sz := 2) (fun _ => rfl) ds
theorem ccells_snoc (cs : List Bs) (b : Bs) : ccells (cs ++ [b]) = ccells cs ++ [b.v] := by simp [ccells, Bs.cells]
theorem wcells_snoc (ds : List Wr) (x : Wr) : wcells (ds ++ [x]) = wcells ds ++ [.int .i64 x.i, x.b.v] := by simp [wcells, Wr.cells]

/-- One list of many has turned. -/
theorem Own.upd {w w' : World} {A B : List Seg} {s s' : Seg} (h : Own w (A ++ s :: B)) (hs : Own w' [s']) (hf : fpS s' = fpS s) (ht : Turn (fp [s]) w w') : Own w' (A ++ s' :: B) := by
  have hA := h.left
  have hB : Own w (s :: B) := h.right
  have hsB : Own w ([s] ++ B) := hB
  have e1 : fp [s] = fpS s := by simp [fp]
  have dA : ∀ b ∈ fp A, b ∉ fp [s] := fun b hb hb' => h.apart b hb (by rw [show s :: B = [s] ++ B from rfl, fp_append]; exact List.mem_append_left _ hb')
  have dB : ∀ b ∈ fp B, b ∉ fp [s] := fun b hb hb' => hsB.apart b hb' hb
  have hA' := hA.turn ht dA
  have hB' := hsB.right.turn ht dB
  have e2 : fp [s'] = fp [s] := by simp [fp, hf]
  have hsB' : Own w' ([s'] ++ B) := hs.append hB' (fun b hb => by rw [e2] at hb; exact hsB.apart b hb)
  refine hA'.append hsB' (fun b hb hb' => ?_)
  refine h.apart b hb ?_
  rw [fp_cons] at hb' ⊢
  rw [← hf]; exact hb'
theorem fp_upd (A B : List Seg) {s s' : Seg} (hf : fpS s' = fpS s) : fp (A ++ s' :: B) = fp (A ++ s :: B) := by
  rw [fp_append, fp_append, fp_cons, fp_cons, hf]
theorem Own.perm {w : World} {S T : List Seg} (h : Own w (S ++ T)) : Own w (T ++ S) := h.right.append h.left (fun b hb hb' => h.apart b hb' hb)
/-- A block of one's own, cell by cell. -/
structure Room (w : World) (b n : Nat) : Prop where
  cell : ∀ j, j < n → ∃ u, w.cell? ⟨b, j, none⟩ = some u
  free : ∀ o, w.frozen? ⟨b, o, none⟩ = false
theorem Room.of_row {w : World} {b : Nat} {t : TypeId} {n : Nat} {f : Nat → Value} (h : w.rowIs b t n f) : Room w b n := ⟨fun j hj => ⟨_, h.cell hj⟩, h.frozen⟩
theorem Room.kept {w w' : World} {b n : Nat} (h : Room w b n) (hk : Keeps w w') (hb : b < w.heap.size) : Room w' b n :=
  ⟨fun j hj => by obtain ⟨u, hu⟩ := h.cell j hj; exact ⟨u, hk.cell hu⟩, fun o => by rw [hk.oldF b o hb]; exact h.free o⟩
theorem Room.set {w : World} {b n : Nat} (h : Room w b n) (j : Nat) (v : Value) : Room (w.setCell ⟨b, j, none⟩ v) b n := by
  refine ⟨fun i hi => ?_, fun o => by rw [frozen_set]; exact h.free o⟩
  by_cases e : i = j
  · subst e
    obtain ⟨u, hu⟩ := h.cell i hi
    exact ⟨v, World.cell?_setCell_same _ _ _ hu⟩
  · obtain ⟨u, hu⟩ := h.cell i hi
    exact ⟨u, by rw [World.cell?_setCell_other _ _ _ _ (by simp)]; exact hu⟩
theorem Room.own {w : World} {b n : Nat} (h : Room w b n) {xs : List Value} (hc : ∀ j (hj : j < xs.length), w.cell? ⟨b, j, none⟩ = some xs[j]) : Own w [(some ⟨b, 0, none⟩, xs)] := by
  refine ⟨?_, ?_, ?_⟩
  · intro s hs
    rw [List.mem_singleton.1 hs]
    exact Or.inr ⟨b, 0, rfl, fun j hj => by rw [Nat.zero_add]; exact hc j hj⟩
  · by_cases h0 : xs = [] <;> simp [fp, fpS, h0]
  · intro g hg
    by_cases h0 : xs = []
    · simp [fp, fpS, h0] at hg
    · simp [fp, fpS, h0] at hg
      subst hg
      exact h.free
end Go.Proofs.YtmkhlhjggbencaaDoor

/- What the laws do with cells and writes, one at a time. -/
namespace Go.Proofs.YtmkhlhjggbencaaDoor
open Go.RowKit Go.Deep
set_option linter.unusedVariables false
set_option maxRecDepth 10000

set_option maxHeartbeats 1000000 in
theorem toCell_k (a : Option Addr) (cap : Nat) (L : List UInt8) (w : World) (hc : Cells w a (bys L)) (hl : L.length ≤ 1048576) :
    Calls Tryd.prog 46 #[.agg #[.slice a L.length cap]] w fun x w' => ∃ b1, x = .returned (.agg #[.slice (some ⟨b1, 0, none⟩) L.length L.length]) ∧ Born w w' [(some ⟨b1, 0, none⟩, bys L)] ∧ Keeps w w' := by
  have HC := hide hc
  clear hc
  go_enter Tryd.func46, Tryd.ntmps46
  go_wp2_with fail
  have HKA := hide (Keeps.alloc (Keeps.alloc (Keeps.alloc (Keeps.refl w) (.cells #[.slice a L.length cap] 76)) (.cells #[.slice none 0 0] 80)) (.cells #[.slice none 0 0] 80))
  have HR1 := hide ((row_new (w.alloc (.cells #[.slice a L.length cap] 76)) #[.slice none 0 0] 80).alloc (.cells #[.slice none 0 0] 80))
  refine (toByteS_k a cap L _ (HC.out.kept HKA.out) hl).mono ?_
  rintro x w1 ⟨b1, rfl, hb, hk⟩
  have HB := hide hb
  have HK := hide hk
  replace HR1 := hide (hk.row HR1.out)
  have ho := hk.old
  have hf := hk.oldF
  have hz := hk.size
  clear hk hb
  go_wp2_with fail
  have r2 := HR1.out
  simp only [World.size_alloc] at r2
  have r3 := (r2.setOther (a := ⟨w.heap.size + 1 + 1, 0, none⟩) (by simp) (.slice (some ⟨b1, 0, none⟩) L.length L.length)).set 0 (.slice (some ⟨b1, 0, none⟩) L.length L.length)
  have c0 := r3.cell (i := 0) (by decide)
  simp at c0
  have HS : Hid (Turn [w.heap.size + 1, w.heap.size + 1 + 1] w1 ((w1.setCell ⟨w.heap.size + 1 + 1, 0, none⟩ (.slice (some ⟨b1, 0, none⟩) L.length L.length)).setCell ⟨w.heap.size + 1, 0, none⟩ (.slice (some ⟨b1, 0, none⟩) L.length L.length))) :=
    ((Turn.set (by simp) _).trans' (Turn.set (by simp) _))
  clear r2 r3 HR1 hz ho hf
  revert c0 HS
  generalize World.setCell _ _ _ = W
  intro c0 HS
  refine bodyPost_ret (v := .agg #[.slice (some ⟨b1, 0, none⟩) L.length L.length]) ?_ rfl ⟨b1, rfl, ?_, ?_⟩
  · simp [results, Tryd.results46, go_sem, c0]
  · refine (HB.out.turn HS.out ?_).old HKA.out
    intro b hb hx
    have := HB.out.new b hb
    simp at this hx
    omega
  · refine HS.out.keeps (HKA.out.trans HK.out) ?_
    intro b hb
    simp at hb
    omega
set_option maxHeartbeats 1000000 in
theorem toWrite_k (i : Int) (a : Option Addr) (cap : Nat) (L : List UInt8) (w : World) (hc : Cells w a (bys L)) (hl : L.length ≤ 1048576) :
    Calls Tryd.prog 47 #[.agg #[.int .i64 i, .slice a L.length cap]] w fun x w' => ∃ b1, x = .returned (.agg #[.int .i64 i, .slice (some ⟨b1, 0, none⟩) L.length L.length]) ∧ Born w w' [(some ⟨b1, 0, none⟩, bys L)] ∧ Keeps w w' := by
  have HC := hide hc
  clear hc
  go_enter Tryd.func47, Tryd.ntmps47
  go_wp2_with fail
  have HKA := hide (Keeps.alloc (Keeps.alloc (Keeps.alloc (Keeps.refl w) (.cells #[.int .i64 i, .slice a L.length cap] 79)) (.cells #[.int .i64 0, .slice none 0 0] 81)) (.cells #[.int .i64 i, .slice none 0 0] 81))
  have HR1 := hide ((row_new (w.alloc (.cells #[.int .i64 i, .slice a L.length cap] 79)) #[.int .i64 0, .slice none 0 0] 81).alloc (.cells #[.int .i64 i, .slice none 0 0] 81))
  refine (toByteS_k a cap L _ (HC.out.kept HKA.out) hl).mono ?_
  rintro x w1 ⟨b1, rfl, hb, hk⟩
  have HB := hide hb
  have HK := hide hk
  replace HR1 := hide (hk.row HR1.out)
  have ho := hk.old
  have hf := hk.oldF
  have hz := hk.size
  clear hk hb
  go_wp2_with fail
  have r2 := HR1.out
  simp only [World.size_alloc] at r2
  have r3 := ((r2.setOther (a := ⟨w.heap.size + 1 + 1, 1, none⟩) (by simp) (.slice (some ⟨b1, 0, none⟩) L.length L.length)).set 0 (.int .i64 i)).set 1 (.slice (some ⟨b1, 0, none⟩) L.length L.length)
  have c0 := r3.cell (i := 0) (by decide)
  have c1 := r3.cell (i := 1) (by decide)
  simp at c0 c1
  have HS : Hid (Turn [w.heap.size + 1, w.heap.size + 1 + 1] w1 (((w1.setCell ⟨w.heap.size + 1 + 1, 1, none⟩ (.slice (some ⟨b1, 0, none⟩) L.length L.length)).setCell ⟨w.heap.size + 1, 0, none⟩ (.int .i64 i)).setCell ⟨w.heap.size + 1, 1, none⟩ (.slice (some ⟨b1, 0, none⟩) L.length L.length))) :=
    (((Turn.set (by simp) _).trans' (Turn.set (by simp) _)).trans' (Turn.set (by simp) _))
  clear r2 r3 HR1 hz ho hf
  revert c0 c1 HS
  generalize World.setCell _ _ _ = W
  intro c0 c1 HS
  refine bodyPost_ret (v := .agg #[.int .i64 i, .slice (some ⟨b1, 0, none⟩) L.length L.length]) ?_ rfl ⟨b1, rfl, ?_, ?_⟩
  · simp [results, Tryd.results47, go_sem, c0, c1]
  · refine (HB.out.turn HS.out ?_).old HKA.out
    intro b hb hx
    have := HB.out.new b hb
    simp at this hx
    omega
  · refine HS.out.keeps (HKA.out.trans HK.out) ?_
    intro b hb
    simp at hb
    omega
theorem eqCell_k (a a' : Option Addr) (cap cap' : Nat) (L : List UInt8) (w : World) (hc : Cells w a (bys L)) (hc' : Cells w a' (bys L)) (hl : L.length ≤ 16777216) :
    Calls Tryd.prog 50 #[.agg #[.slice a L.length cap], .agg #[.slice a' L.length cap']] w fun x w' => x = .returned (.bool true) ∧ Keeps w w' := by
  have HKA := hide (Keeps.alloc (Keeps.alloc (Keeps.refl w) (.cells #[.slice a L.length cap] 80)) (.cells #[.slice a' L.length cap'] 80))
  have HQ := hide (eqBytes_k a a' cap cap' L _ (hc.kept HKA.out) (hc'.kept HKA.out) hl)
  clear hc hc' hl
  go_enter Tryd.func50, Tryd.ntmps50
  go_wp2_with fail
  refine (unhide HQ).mono ?_
  rintro x w1 ⟨rfl, hk⟩
  replace HKA := hide (HKA.out.trans hk)
  clear hk
  go_wp2_with fail
  go_ret
  exact ⟨rfl, HKA.out⟩
theorem eqWrite_k (i : Int) (a a' : Option Addr) (cap cap' : Nat) (L : List UInt8) (w : World) (hc : Cells w a (bys L)) (hc' : Cells w a' (bys L)) (hl : L.length ≤ 16777216) :
    Calls Tryd.prog 51 #[.agg #[.int .i64 i, .slice a L.length cap], .agg #[.int .i64 i, .slice a' L.length cap']] w fun x w' => x = .returned (.bool true) ∧ Keeps w w' := by
  have HKA := hide (Keeps.alloc (Keeps.alloc (Keeps.refl w) (.cells #[.int .i64 i, .slice a L.length cap] 81)) (.cells #[.int .i64 i, .slice a' L.length cap'] 81))
  have HQ := hide (eqBytes_k a a' cap cap' L _ (hc.kept HKA.out) (hc'.kept HKA.out) hl)
  clear hc hc' hl
  go_enter Tryd.func51, Tryd.ntmps51
  go_wp2_with fail
  refine (unhide HQ).mono ?_
  rintro x w1 ⟨rfl, hk⟩
  replace HKA := hide (HKA.out.trans hk)
  clear hk
  go_wp2_with fail
  go_ret
  exact ⟨rfl, HKA.out⟩
theorem szCell_k (a : Option Addr) (len cap : Nat) (left : Int) (w : World) (h0 : 0 ≤ left) (h1 : left ≤ 1048576) (hl : len ≤ 9223372036854775807) :
    Calls Tryd.prog 41 #[.agg #[.slice a len cap], .int .i64 left] w fun x w' => x = .returned (.int .i64 (if (len : Int) ≤ left then left - len else -1)) ∧ Keeps w w' := by
  have HS := hide (fun w1 => szByteS_k a len cap left w1 h0 h1 hl)
  by_cases h : (len : Int) ≤ left
  · rw [if_pos h] at HS
    have H : Hid ((if (len : Int) ≤ left then left - len else -1) = left - len) := if_pos h
    go_enter Tryd.func41, Tryd.ntmps41
    go_wp2_with fail
    refine (unhide HS _).mono ?_
    rintro e w1 ⟨rfl, hw⟩
    subst hw
    go_wp2_with fail
    go_ret
    exact ⟨rfl, Keeps.alloc (Keeps.refl _) _⟩
  · rw [if_neg h] at HS
    have H : Hid ((if (len : Int) ≤ left then left - len else -1) = -1) := if_neg h
    go_enter Tryd.func41, Tryd.ntmps41
    go_wp2_with fail
    refine (unhide HS _).mono ?_
    rintro e w1 ⟨rfl, hw⟩
    subst hw
    go_wp2_with fail
    go_ret
    exact ⟨rfl, Keeps.alloc (Keeps.refl _) _⟩
theorem szWrite_k (i : Int) (a : Option Addr) (len cap : Nat) (left : Int) (w : World) (h0 : 0 ≤ left) (h1 : left ≤ 1048576) (hl : len ≤ 9223372036854775807) :
    Calls Tryd.prog 42 #[.agg #[.int .i64 i, .slice a len cap], .int .i64 left] w fun x w' => x = .returned (.int .i64 (if (len : Int) ≤ left then left - len else -1)) ∧ Keeps w w' := by
  have HS := hide (fun w1 => szByteS_k a len cap left w1 h0 h1 hl)
  by_cases h : (len : Int) ≤ left
  · rw [if_pos h] at HS
    have H : Hid ((if (len : Int) ≤ left then left - len else -1) = left - len) := if_pos h
    go_enter Tryd.func42, Tryd.ntmps42
    go_wp2_with fail
    refine (unhide HS _).mono ?_
    rintro e w1 ⟨rfl, hw⟩
    subst hw
    go_wp2_with fail
    go_ret
    exact ⟨rfl, Keeps.alloc (Keeps.refl _) _⟩
  · rw [if_neg h] at HS
    have H : Hid ((if (len : Int) ≤ left then left - len else -1) = -1) := if_neg h
    go_enter Tryd.func42, Tryd.ntmps42
    go_wp2_with fail
    refine (unhide HS _).mono ?_
    rintro e w1 ⟨rfl, hw⟩
    subst hw
    go_wp2_with fail
    go_ret
    exact ⟨rfl, Keeps.alloc (Keeps.refl _) _⟩
end Go.Proofs.YtmkhlhjggbencaaDoor

/- What the laws do with lists of cells. -/
namespace Go.Proofs.YtmkhlhjggbencaaDoor
open Go.RowKit Go.Deep
set_option linter.unusedVariables false
set_option maxRecDepth 10000

/-- How many bytes the lists have. -/
def tot (cs : List Bs) : Nat := (cs.map fun b => b.L.length).sum
theorem tot_take (cs : List Bs) (k : Nat) (h : k < cs.length) : tot (cs.take (k + 1)) = tot (cs.take k) + cs[k].L.length := by
  unfold tot
  rw [List.take_succ_eq_append_getElem h, List.map_append, List.sum_append]
  rfl
theorem tot_le {cs : List Bs} {b : Bs} (h : b ∈ cs) : b.L.length ≤ tot cs := by
  induction cs with
  | nil => simp at h
  | cons c t ih =>
    simp only [tot, List.map_cons, List.sum_cons] at ih ⊢
    rcases List.mem_cons.1 h with rfl | h
    · omega
    · have := ih h; omega

set_option maxHeartbeats 1000000 in
theorem szCellS_k (a : Option Addr) (cap : Nat) (cs : List Bs) (left : Int) (w : World) (hc : Cells w a (ccells cs)) (hok : ∀ b ∈ cs, b.L.length ≤ 9223372036854775807) (h0 : 0 ≤ left) (h1 : left ≤ 1048576) (hl : cs.length ≤ 9223372036854775807) :
    Calls Tryd.prog 22 #[.slice a cs.length cap, .int .i64 left] w fun e w' => ∃ r : Int, e = .returned (.int .i64 r) ∧ (0 ≤ r → r = left - cs.length - tot cs) ∧ Keeps w w' := by
  have HC := hide hc
  have HOK := hide hok
  clear hc hok
  by_cases hlt : (cs.length : Int) ≤ left
  · clear hl
    go_enter Tryd.func22, Tryd.ntmps22
    go_wp2_with fail
    go_loopw [1, 5] (fun x y wr => ∃ k : Nat, k ≤ cs.length ∧ x = .int .i64 (left - cs.length - tot (cs.take k)) ∧ 0 ≤ left - cs.length - tot (cs.take k) ∧ y = .int .i64 (k : Int) ∧ Keeps w wr) (fun _ y _ => cs.length - (intOf y).toNat)
    case atStart => exact ⟨0, by omega, by simp [tot], by simp [tot]; omega, rfl, Keeps.refl _⟩
    case round =>
      obtain ⟨k, hk, rfl, hx, rfl, hkw⟩ := hrel
      by_cases hlt' : k < cs.length
      · obtain ⟨b, off, ea, c0⟩ := cell1 (HC.out.kept hkw) k hlt'
        subst ea
        have HT := hide (tot_take cs k hlt')
        have HLb := hide (HOK.out cs[k] (List.getElem_mem hlt'))
        have HSz := hide (fun w1 => szCell_k cs[k].a cs[k].L.length cs[k].cap (left - cs.length - tot (cs.take k)) w1 hx (by omega) HLb.out)
        have HK := hide hkw
        clear hkw HLb
        generalize cs[k] = c at *
        unfold Bs.v at c0
        generalize tot (cs.take k) = t at *
        by_cases hle : (c.L.length : Int) ≤ left - cs.length - t
        · rw [if_pos hle] at HSz
          go_wp2_with fail
          refine (unhide HSz _).mono ?_
          rintro e w1 ⟨rfl, hk1⟩
          replace HK := hide (HK.out.trans hk1)
          clear hk1
          go_wp2_with fail
          go_roundw
          case rel => exact ⟨k + 1, by omega, by rw [HT.out]; congr 1; omega, by rw [HT.out]; omega, by go_num, HK.out⟩
          case measure => simp [intOf]; omega
        · rw [if_neg hle] at HSz
          go_wp2_with fail
          refine (unhide HSz _).mono ?_
          rintro e w1 ⟨rfl, hk1⟩
          replace HK := hide (HK.out.trans hk1)
          clear hk1
          go_wp2_with fail
          go_ret
          exact ⟨-1, rfl, fun h => absurd h (by decide), HK.out⟩
      · have e : k = cs.length := by omega
        subst e
        go_wp2_with fail
        go_ret
        exact ⟨_, rfl, fun _ => by rw [List.take_length], hkw⟩
  · have hlt' : left < (cs.length : Int) := by omega
    clear hlt
    go_enter Tryd.func22, Tryd.ntmps22
    go_wp2_with fail
    go_ret
    exact ⟨-1, rfl, fun h => absurd h (by decide), Keeps.refl _⟩

theorem infoCell : (Tryd.prog.info? 80).map (fun i => (i.zero, i.size, i.bytes)) = some (some (.agg #[.slice none 0 0]), 1, 24) := by kernel_rfl
theorem underCells : Tryd.prog.underlying 30 = some (.slice 80) := by kernel_rfl
theorem make_cells (n : Nat) (hn : n ≤ 1048576) (w : World) : (Instr.makeSlice 30 (.int .i64 (n : Int)) (.int .i64 (n : Int))).run Tryd.prog w = .ok (.slice (some ⟨w.heap.size, 0, none⟩) n n) (w.alloc (.cells (madeCells #[.slice none 0 0] n) 80)) := by
  have hI := infoCell
  cases hi : Tryd.prog.info? 80 with
  | none => rw [hi] at hI; simp at hI
  | some i =>
    rw [hi] at hI
    simp at hI
    obtain ⟨hz, hs, hb⟩ := hI
    have h := run_make (P := Tryd.prog) w 30 80 i _ underCells hi hz .i64 .i64 n n (by omega) (Int.le_refl _) (by rw [hb]; omega) (by omega)
    rw [hs] at h
    simpa [Value.cells] using h

theorem fpS_Bs (b : Bs) : fp [b.seg] = fpS b.seg := by simp [fp]
theorem segs_snoc (nb : List Bs) (b : Bs) : (nb ++ [b]).map Bs.seg = nb.map Bs.seg ++ [b.seg] := by simp
theorem set_cell1 {w : World} {B n : Nat} {nb : List Bs} {b : Bs} (hr : Room w B n) (hn : nb.length < n) (hc : ∀ j (hj : j < (ccells nb).length), w.cell? ⟨B, j, none⟩ = some (ccells nb)[j]) :
    ∀ j (hj : j < (ccells (nb ++ [b])).length), (w.setCell ⟨B, nb.length, none⟩ b.v).cell? ⟨B, j, none⟩ = some (ccells (nb ++ [b]))[j] := by
  intro j hj
  have hl := ccells_len nb
  rw [ccells_len, List.length_append, List.length_singleton] at hj
  by_cases e : j = nb.length
  · subst e
    obtain ⟨u, hu⟩ := hr.cell nb.length hn
    rw [World.cell?_setCell_same _ _ _ hu]
    congr 1
    simp only [ccells_snoc]
    rw [List.getElem_append_right (by omega)]
    simp [hl]
  · rw [World.cell?_setCell_other _ _ _ _ (by simp), hc j (by omega)]
    congr 1
    simp only [ccells_snoc]
    rw [List.getElem_append_left (by omega)]
def Fresh (b : Bs) : Prop := (∃ g, b.a = some ⟨g, 0, none⟩) ∧ b.cap = b.L.length
set_option maxHeartbeats 1000000 in
theorem toCellS_k (a : Option Addr) (cap : Nat) (cs : List Bs) (w : World) (hc : Cells w a (ccells cs)) (hm : Mem w (cs.map Bs.seg)) (hl : cs.length ≤ 1048576) (ht : ∀ b ∈ cs, b.L.length ≤ 1048576) :
    Calls Tryd.prog 27 #[.slice a cs.length cap] w fun e w' => ∃ (g : Nat) (nb : List Bs), e = .returned (.slice (some ⟨g, 0, none⟩) cs.length cs.length) ∧ nb.map Bs.L = cs.map Bs.L ∧ (∀ b ∈ nb, b.fit) ∧
      Born w w' ((some ⟨g, 0, none⟩, ccells nb) :: nb.map Bs.seg) ∧ Keeps w w' := by
  have HC := hide hc
  have HM := hide hm
  have HT := hide ht
  clear hc hm ht
  have hmk := make_cells cs.length hl
  have HR := hide (Room.of_row (World.rowIs_made w (.slice none 0 0) cs.length 80))
  have HKA := hide (Keeps.alloc (Keeps.refl w) (.cells (madeCells #[.slice none 0 0] cs.length) 80))
  have HZ : Hid ((w.alloc (.cells (madeCells #[.slice none 0 0] cs.length) 80)).heap.size = w.heap.size + 1) := by show _ = _; simp
  go_enter Tryd.func27, Tryd.ntmps27
  go_wp2_with fail
  clear hmk
  generalize w.alloc (.cells (madeCells #[.slice none 0 0] cs.length) 80) = W0 at *
  go_loopw [4] (fun y w1 => ∃ (k : Nat) (nb : List Bs), k ≤ cs.length ∧ nb.length = k ∧ y = .int .i64 (k : Int) ∧ Hid (nb.map Bs.L = (cs.take k).map Bs.L) ∧ Hid (∀ b ∈ nb, b.fit) ∧ Hid (Room w1 w.heap.size cs.length) ∧ Hid (∀ j (hj : j < (ccells nb).length), w1.cell? ⟨w.heap.size, j, none⟩ = some (ccells nb)[j]) ∧ Hid (Born W0 w1 (nb.map Bs.seg)) ∧ Hid (Keeps w w1) ∧ w.heap.size < w1.heap.size) (fun y _ => cs.length - (intOf y).toNat)
  case atStart => exact ⟨0, [], by omega, rfl, rfl, rfl, fun b hb => absurd hb (by simp), HR, fun j hj => absurd hj (by simp [ccells]), Born.nil _ _, HKA, by have := HZ.out; omega⟩
  case round =>
    obtain ⟨k, nb, hk, rfl, rfl, HD, HN, HRo, HCe, HB, HK, hz⟩ := hrel
    by_cases hlt : nb.length < cs.length
    · obtain ⟨b, off, ea, c0⟩ := cell1 (HC.out.kept HK.out) nb.length hlt
      subst ea
      have HMk : Hid (Cells wr cs[nb.length].a (bys cs[nb.length].L)) := (HM.out cs[nb.length].seg (List.mem_map.2 ⟨_, List.getElem_mem hlt, rfl⟩)).kept HK.out
      have HTk := hide (HT.out _ (List.getElem_mem hlt))
      have HDk : Hid ((cs.take (nb.length + 1)).map Bs.L = (cs.take nb.length).map Bs.L ++ [cs[nb.length].L]) := by show _ = _; rw [List.take_succ_eq_append_getElem hlt, List.map_append]; rfl
      generalize cs[nb.length] = c at *
      obtain ⟨ca, cc, cL⟩ := c
      unfold Bs.v at c0
      dsimp only at c0 HMk HTk HDk
      go_wp2_with fail
      refine (toCell_k ca cc cL wr HMk.out HTk.out).mono ?_
      rintro x w2 ⟨b1, rfl, hb, hk2⟩
      have HRo2 := hide (HRo.out.kept hk2 hz)
      obtain ⟨u0, d0⟩ := HRo2.out.cell nb.length hlt
      have f0 := HRo2.out.free nb.length
      have HB2 := hide hb
      have HK2 := hide hk2
      clear hb hk2
      go_wp2_with fail
      go_roundw
      case rel =>
        have hbn : ∀ b ∈ fp (nb.map Bs.seg ++ [Bs.seg (Bs.mk (some ⟨b1, 0, none⟩) cL.length cL)]), b ≠ w.heap.size := by
          intro b hb
          rw [fp_append] at hb
          rcases List.mem_append.1 hb with hb | hb
          · have := HB.out.new b hb; have := HZ.out; omega
          · have := HB2.out.new b hb; omega
        have hce := set_cell1 (b := Bs.mk (some ⟨b1, 0, none⟩) cL.length cL) HRo2.out hlt (fun j hj => HK2.out.cell (HCe.out j hj))
        refine ⟨nb.length + 1, nb ++ [Bs.mk (some ⟨b1, 0, none⟩) cL.length cL], by omega, by simp, by go_num, ?_, ?_, HRo2.out.set _ _, hce, ?_, ?_, ?_⟩
        · show _ = _
          rw [HDk.out, ← HD.out]; simp
        · intro b hb
          rcases List.mem_append.1 hb with hb | hb
          · exact HN.out b hb
          · rw [List.mem_singleton.1 hb]; exact ⟨(fun e => nomatch e), Nat.le_refl _⟩
        · show Born _ _ _
          rw [segs_snoc]
          have hj : Born W0 w2 (nb.map Bs.seg ++ [Bs.seg (Bs.mk (some ⟨b1, 0, none⟩) cL.length cL)]) :=
            ⟨(HB.out.toOwn.kept HK2.out).append HB2.out.toOwn (HB2.out.apart HB.out.mem), fun b hb => by
              rw [fp_append] at hb
              rcases List.mem_append.1 hb with hb | hb
              · exact HB.out.new b hb
              · have := HB2.out.new b hb; have := HZ.out; omega⟩
          exact hj.turn (Turn.set (fs := [w.heap.size]) (by simp) _) (fun b hb hx => hbn b hb (by simpa using hx))
        · exact Keeps.setCell (HK.out.trans HK2.out) (Nat.le_refl _) _
        · have := HK2.out.size
          simp [World.setCell]; omega
      case measure => simp [intOf]; omega
    · have e : nb.length = cs.length := by omega
      go_wp2_with fail
      go_ret
      refine ⟨w.heap.size, nb, rfl, by rw [HD.out, e, List.take_length], HN.out, ⟨?_, ?_⟩, HK.out⟩
      · have ho := HRo.out.own HCe.out
        refine Own.append (S := [_]) ho HB.out.toOwn (fun b hb hb' => ?_)
        have h1 := HB.out.new b hb'
        have h2 := HZ.out
        rw [fp_one] at hb
        by_cases h0 : ccells nb = []
        · simp [fpS, h0] at hb
        · simp [fpS, h0] at hb; omega
      · intro b hb
        rw [fp_cons] at hb
        rcases List.mem_append.1 hb with hb | hb
        · by_cases h0 : ccells nb = []
          · simp [fpS, h0] at hb
          · simp [fpS, h0] at hb; omega
        · have h1 := HB.out.new b hb
          have h2 := HZ.out
          omega
end Go.Proofs.YtmkhlhjggbencaaDoor

/- What the laws do with lists of cells: compared, marked, looked for. -/
namespace Go.Proofs.YtmkhlhjggbencaaDoor
open Go.RowKit Go.Deep
set_option linter.unusedVariables false
set_option maxRecDepth 10000

theorem mem_seg {w : World} {cs : List Bs} (h : Mem w (cs.map Bs.seg)) (k : Nat) (hk : k < cs.length) : Cells w cs[k].a (bys cs[k].L) := h cs[k].seg (List.mem_map.2 ⟨_, List.getElem_mem hk, rfl⟩)
set_option maxHeartbeats 1000000 in
theorem eqCellS_k (a a' : Option Addr) (cap cap' : Nat) (xs ys : List Bs) (w : World) (he : ys.map Bs.L = xs.map Bs.L) (hc : Cells w a (ccells xs)) (hm : Mem w (xs.map Bs.seg)) (hc' : Cells w a' (ccells ys)) (hm' : Mem w (ys.map Bs.seg)) (hl : xs.length ≤ 1048576) (ht : ∀ b ∈ xs, b.L.length ≤ 16777216) :
    Calls Tryd.prog 31 #[.slice a xs.length cap, .slice a' ys.length cap'] w fun e w' => e = .returned (.bool true) ∧ Keeps w w' := by
  have HC := hide hc
  have HC' := hide hc'
  have HM := hide hm
  have HM' := hide hm'
  have hn : ys.length = xs.length := by have := congrArg List.length he; simpa using this
  have HE := hide he
  have HT := hide ht
  have hn' : ((xs.length : Int) != (ys.length : Int)) = false := by rw [hn]; simp
  have HN := hide hn
  clear hc hc' hm hm' he ht hn
  go_enter Tryd.func31, Tryd.ntmps31
  go_wp2_with fail
  go_loopw [5] (fun y w1 => ∃ k : Nat, k ≤ xs.length ∧ y = .int .i64 (k : Int) ∧ Keeps w w1) (fun y _ => xs.length - (intOf y).toNat)
  case atStart => exact ⟨0, by omega, rfl, Keeps.refl _⟩
  case round =>
    obtain ⟨k, hk, rfl, hkw⟩ := hrel
    by_cases hlt : k < xs.length
    · have hlt' : k < ys.length := by have := HN.out; omega
      obtain ⟨b, off, ea, c0⟩ := cell1 (HC.out.kept hkw) k hlt
      obtain ⟨b', off', ea', d0⟩ := cell1 (HC'.out.kept hkw) k hlt'
      subst ea ea'
      have hL : ys[k].L = xs[k].L := by
        have h := congrArg (fun l => l[k]?) HE.out
        simpa [hlt, hlt'] using h
      have HQ := hide (fun t => eqCell_k xs[k].a ys[k].a xs[k].cap ys[k].cap xs[k].L (gr wr t) (((mem_seg HM.out k hlt).kept hkw).kept (gr_keeps wr t)) (by rw [← hL]; exact ((mem_seg HM'.out k hlt').kept hkw).kept (gr_keeps wr t)) (HT.out _ (List.getElem_mem hlt)))
      have g0 := gr_cell c0
      have g1 := gr_cell d0
      unfold Bs.v at c0 d0 g0 g1
      rw [hL] at d0 g1
      clear hL
      generalize xs[k] = x at *
      generalize ys[k] = y at *
      obtain ⟨xa, xc, xL⟩ := x
      obtain ⟨ya, yc, yL⟩ := y
      dsimp only at c0 d0 g0 g1 HQ
      go_wp2_with fail
      refine region_gr (by kernel_rfl) (by kernel_rfl) ?_
      repeat (go_big_quiet_step (first | (go_at_call 50; exact gr_call (unhide HQ _))))
      refine wpQuiet_nil ?_
      intro w' hw'
      have hk' := hkw.trans (Keeps.of_gr hw')
      clear hw'
      go_wp2_with fail
      go_roundw
      case rel => exact ⟨k + 1, by omega, by go_num, hk'⟩
      case measure => simp [intOf]; omega
    · go_wp2_with fail
      go_ret
      exact ⟨rfl, hkw⟩

theorem tot_append (xs ys : List Bs) : tot (xs ++ ys) = tot xs + tot ys := by simp [tot]
theorem tot_take_le (cs : List Bs) (k : Nat) : tot (cs.take k) ≤ tot cs := by
  have := tot_append (cs.take k) (cs.drop k)
  rw [List.take_append_drop] at this
  omega
/-- The lists with marks from n on. -/
def markC (n : Nat) : List Bs → List Bs
  | [] => []
  | b :: t => ⟨b.a, b.cap, marksB n b.L.length⟩ :: markC (n + b.L.length) t
theorem markC_len : ∀ (n : Nat) (cs : List Bs), (markC n cs).length = cs.length
  | _, [] => rfl
  | n, b :: t => by simp [markC, markC_len]
theorem markC_cells : ∀ (n : Nat) (cs : List Bs), ccells (markC n cs) = ccells cs
  | _, [] => rfl
  | n, b :: t => by
    have := markC_cells (n + b.L.length) t
    simp only [ccells, markC, List.flatMap_cons, Bs.cells, Bs.v, marksB_length] at this ⊢
    rw [this]
theorem markC_append : ∀ (n : Nat) (xs ys : List Bs), markC n (xs ++ ys) = markC n xs ++ markC (n + tot xs) ys
  | n, [], ys => by simp [markC, tot]
  | n, b :: t, ys => by
    have := markC_append (n + b.L.length) t ys
    simp only [List.cons_append, markC, this, tot, List.map_cons, List.sum_cons]
    congr 3
    omega
theorem markC_at (n : Nat) (cs : List Bs) (k : Nat) (h : k < cs.length) : (markC n cs)[k]? = some ⟨cs[k].a, cs[k].cap, marksB (n + tot (cs.take k)) cs[k].L.length⟩ := by
  have e : cs = cs.take k ++ cs[k] :: cs.drop (k + 1) := by rw [← List.drop_eq_getElem_cons h]; simp
  have hl : (markC n (cs.take k)).length = k := by rw [markC_len]; simp; omega
  rw [show markC n cs = markC n (cs.take k ++ cs[k] :: cs.drop (k + 1)) by rw [← e], markC_append, List.getElem?_append_right (by omega), hl]
  simp [markC]
set_option maxHeartbeats 2000000 in
theorem markCellS_k (a : Option Addr) (cap : Nat) (cs : List Bs) (n : Nat) (w : World) (h : Own w ((a, ccells cs) :: cs.map Bs.seg)) (hl : cs.length ≤ 1048576) (ht : tot cs ≤ 16777216) (hn : n ≤ 1000000000) :
    Calls Tryd.prog 33 #[.slice a cs.length cap, .int .i64 (n : Int)] w fun e w' => e = .returned (.int .i64 ((n + tot cs : Nat) : Int)) ∧ Own w' ((a, ccells cs) :: (markC n cs).map Bs.seg) ∧ Turn (fp ((a, ccells cs) :: cs.map Bs.seg)) w w' := by
  have HO := hide h
  clear h
  go_enter Tryd.func33, Tryd.ntmps33
  go_wp2_with fail
  go_loopw [1, 5] (fun x y wr => ∃ k : Nat, k ≤ cs.length ∧ x = .int .i64 ((n + tot (cs.take k) : Nat) : Int) ∧ y = .int .i64 (k : Int) ∧ Hid (Own wr ((a, ccells cs) :: (markC n (cs.take k) ++ cs.drop k).map Bs.seg)) ∧ Hid (fp ((a, ccells cs) :: (markC n (cs.take k) ++ cs.drop k).map Bs.seg) = fp ((a, ccells cs) :: cs.map Bs.seg)) ∧ Hid (Turn (fp ((a, ccells cs) :: cs.map Bs.seg)) w wr)) (fun _ y _ => cs.length - (intOf y).toNat)
  case atStart => exact ⟨0, by omega, by simp [tot], rfl, by show Own _ _; simpa [markC] using HO.out, by show _ = _; simp [markC], Turn.refl _ _⟩
  case round =>
    obtain ⟨k, hk, rfl, rfl, HOr, HF, HT⟩ := hrel
    by_cases hlt : k < cs.length
    · have hc : Cells wr a (ccells cs) := HOr.out.mem (a, ccells cs) (by simp)
      obtain ⟨b, off, ea, c0⟩ := cell1 hc k hlt
      subst ea
      have HTt := hide (tot_take cs k hlt)
      have hle : cs[k].L.length ≤ tot cs := tot_le (List.getElem_mem hlt)
      have hle2 : tot (cs.take k) ≤ tot cs := tot_take_le cs k
      have HD : Hid ((some (⟨b, off, none⟩ : Addr), ccells cs) :: (markC n (cs.take k) ++ cs.drop k).map Bs.seg = ((some ⟨b, off, none⟩, ccells cs) :: (markC n (cs.take k)).map Bs.seg) ++ cs[k].seg :: (cs.drop (k + 1)).map Bs.seg) := by
        show _ = _
        rw [List.drop_eq_getElem_cons hlt, List.map_append, List.map_cons, List.cons_append]
      have HD2 : Hid ((some (⟨b, off, none⟩ : Addr), ccells cs) :: (markC n (cs.take (k + 1)) ++ cs.drop (k + 1)).map Bs.seg = ((some ⟨b, off, none⟩, ccells cs) :: (markC n (cs.take k)).map Bs.seg) ++ Bs.seg (Bs.mk cs[k].a cs[k].cap (marksB (n + tot (cs.take k)) cs[k].L.length)) :: (cs.drop (k + 1)).map Bs.seg) := by
        show _ = _
        rw [List.take_succ_eq_append_getElem hlt, markC_append, List.append_assoc, List.map_append, List.cons_append]; rfl
      have HOk : Hid (Own wr [(cs[k].a, bys cs[k].L)]) := by
        have h2 := HOr.out
        rw [HD.out] at h2
        exact Own.left (S := [_]) (T := (cs.drop (k + 1)).map Bs.seg) h2.right
      have HMk := hide (markByteS_k cs[k].a cs[k].cap cs[k].L (n + tot (cs.take k)) wr HOk.out (by omega) (by omega))
      have HFS : Hid (fpS (Bs.seg (Bs.mk cs[k].a cs[k].cap (marksB (n + tot (cs.take k)) cs[k].L.length))) = fpS cs[k].seg) := fpS_len (by simp [bys_length, marksB_length])
      unfold Bs.v at c0
      generalize cs[k] = c at *
      obtain ⟨ka, kc, kL⟩ := c
      dsimp only at c0 HTt HMk HD HD2 HFS hle
      have HMk' := HMk.out
      simp only [Int.natCast_add] at HMk'
      replace HMk := hide HMk'
      clear HMk'
      go_wp2_with fail
      refine (unhide HMk).mono ?_
      rintro e w1 ⟨rfl, ho, htu⟩
      have HO1 := hide ho
      have HT1 := hide htu
      clear ho htu
      go_wp2_with fail
      go_roundw
      case rel =>
        refine ⟨k + 1, by omega, by rw [HTt.out]; congr 1; omega, by go_num, ?_, ?_, ?_⟩
        · show Own _ _
          rw [HD2.out]
          have h2 := HOr.out
          rw [HD.out] at h2
          exact h2.upd HO1.out HFS.out HT1.out
        · show _ = _
          rw [HD2.out, fp_upd _ _ HFS.out, ← HD.out, HF.out]
        · refine HT.out.trans' (HT1.out.mono ?_)
          intro x hx
          rw [← HF.out, HD.out, fp_append, fp_cons]
          exact List.mem_append_right _ (List.mem_append_left _ (by rw [fp_one] at hx; exact hx))
      case measure => simp [intOf]; omega
    · have e : k = cs.length := by omega
      subst e
      go_wp2_with fail
      go_ret
      have h2 := HOr.out
      rw [List.take_length, List.drop_length, List.append_nil] at h2
      exact ⟨by simp, h2, HT.out⟩

end Go.Proofs.YtmkhlhjggbencaaDoor
