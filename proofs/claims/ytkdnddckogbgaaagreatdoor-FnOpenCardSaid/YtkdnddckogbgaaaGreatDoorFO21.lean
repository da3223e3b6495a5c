/- Texts of the verifier, joined: EvL, LoM. -/
import Derived.Test.YtkdnddckogbgaaaGreatDoorFO15
import Derived.Test.YtkdnddckogbgaaaGreatDoorFO16
import Derived.Test.YtkdnddckogbgaaaGreatDoorFO20
import Derived.Test.YtkdnddckogbgaaaGreatDoorFO9
import Derived.Test.YtkdnddckogbgaaaGreatDoorFO7
import Derived.Test.YtkdnddckogbgaaaGreatDoorFO10
namespace Go.Proofs.YtkdnddckogbgaaaGreatDoor
open Go.RowKit Go.Deep
set_option linter.unusedVariables false
set_option maxRecDepth 10000

set_option maxHeartbeats 4000000 in
theorem bodyevent_len (a : Option Addr) (L : List UInt8) (cap : Nat) (w : World) (u : TypeId) (pv : Value) (hv : w.cell? ⟨0, 0, none⟩ = some (.iface u pv)) (hl : L.length ≤ 16777216) (h22 : L.length ≠ 22) :
    Calls Tryz.prog 44 #[.slice a L.length cap] w fun e w' => e = .returned (.tuple #[evV 0 0 0 0 0 0 false, .bool false]) ∧ Keeps w w' := by
  have hmf : ∀ (fn : Fn) (first cap : Array Value) (w : World), (Instr.makeFunc fn first cap).run Tryz.prog w = .ok (.func fn first cap) w := fun _ _ _ _ => rfl
  have hk3 := threeE_keeps w a L.length cap
  have HE := hide (event_len (w.heap.size + 1 + 1) a L.length cap (threeE w a L.length cap) u pv (hk3.cell hv) (threeE_rd w a L cap).data hl h22)
  have HO := hide (threeE_own w a L.length cap)
  have H1 := hide (threeE_b w a L.length cap)
  have H2 := hide (threeE_zb w a L.length cap)
  have HK := hide hk3
  clear hk3 hv
  go_enter_defers Tryz.func44, Tryz.ntmps44
  go_wp2_with fail
  go_at_call 82
  refine (unhide HE).mono ?_
  rintro e w1 ⟨rfl, ht⟩
  have hO := HO.out.turn ht (fun x hx hb => by
    rw [fp_one, fpS_some (by simp)] at hx
    simp at hx hb
    omega)
  have t1 := ht.cell (p := ⟨w.heap.size + 1, 0, none⟩) (by simp) H1.out
  have z1 : w1.frozen? ⟨w.heap.size + 1, 0, none⟩ = false := by rw [← H2.out]; exact World.frozen?_of_block (ht.block _ (by simp) (by simp))
  have hk1 : Keeps w w1 := ht.keeps HK.out (fun x hx => by simp at hx; omega)
  clear ht HE HO H1 H2 HK
  have hO2 := own_set' (own_seven hO (.int .i64 0) (.int .i64 0) (.int .i64 0) (.int .i64 0) (.int .i64 0) (.int .i64 0) (.bool false)) (a := ⟨w.heap.size + 1, 0, none⟩) (by simp) (.bool false)
  have hk2 := (keeps_seven hk1 (Nat.le_refl _) (.int .i64 0) (.int .i64 0) (.int .i64 0) (.int .i64 0) (.int .i64 0) (.int .i64 0) (.bool false)).setCell (p := ⟨w.heap.size + 1, 0, none⟩) (Nat.le_succ _) (.bool false)
  have e8 := World.cell?_setCell_same (((((((w1.setCell ⟨w.heap.size, 0, none⟩ (.int .i64 0)).setCell ⟨w.heap.size, 1, none⟩ (.int .i64 0)).setCell ⟨w.heap.size, 2, none⟩ (.int .i64 0)).setCell ⟨w.heap.size, 3, none⟩ (.int .i64 0)).setCell ⟨w.heap.size, 4, none⟩ (.int .i64 0)).setCell ⟨w.heap.size, 5, none⟩ (.int .i64 0)).setCell ⟨w.heap.size, 6, none⟩ (.bool false)) ⟨w.heap.size + 1, 0, none⟩ (.bool false) (seven_other (p := ⟨w.heap.size + 1, 0, none⟩) (by simp) t1 (.int .i64 0) (.int .i64 0) (.int .i64 0) (.int .i64 0) (.int .i64 0) (.int .i64 0) (.bool false))
  have e0 := cell_at hO2.mem 0 (by simp)
  have e1 := cell_at hO2.mem 1 (by simp)
  have e2 := cell_at hO2.mem 2 (by simp)
  have e3 := cell_at hO2.mem 3 (by simp)
  have e4 := cell_at hO2.mem 4 (by simp)
  have e5 := cell_at hO2.mem 5 (by simp)
  have e6 := cell_at hO2.mem 6 (by simp)
  simp only [Nat.zero_add, List.getElem_cons_zero, List.getElem_cons_succ] at e0 e1 e2 e3 e4 e5 e6
  refine leaves_cons (f := 81) (args := #[.pointer (some ⟨w.heap.size, 0, none⟩), .pointer (some ⟨w.heap.size + 1, 0, none⟩)]) (by simp) rfl ?_
  refine (catchE_panic w.heap.size (w.heap.size + 1) (by omega) _ _ _ _ _ _ _ _ u pv [] w1 hO t1 z1).mono ?_
  rintro e u' w' ⟨rfl, rfl, hw'⟩
  rw [← hw'] at e0 e1 e2 e3 e4 e5 e6 e8 hk2
  simp [Leaves, settle, results, Tryz.results44, go_sem, e0, e1, e2, e3, e4, e5, e6, e8, hk2]
theorem get_none (a : Option Addr) (cap : Nat) (p s n : Int) (hn : (0 : Int) = n) (h : (0 : Int) - s < p) (w : World) :
    Calls Tryz.prog 79 #[.slice a 0 cap, .int .i64 p, .int .i64 s] w fun e w' => e = .returned (.tuple #[.int .i64 n, .bool false]) ∧ w' = w := by
  rw [← hn]; exact getspec_no a [] cap p s w (by decide) (.inr (.inr (.inr (by simpa using h))))
set_option maxHeartbeats 8000000 in
theorem bodyspec_none (a : Option Addr) (cap : Nat) (w : World) (k y c t m f q : Int) (b1 : Bool) (ek : (0 : Int) = k) (ey : (0 : Int) = y) (ec : (0 : Int) = c) (et : (0 : Int) = t) (em : (0 : Int) = m) (ef : (0 : Int) = f) (eq : (0 : Int) = q) (hb1 : decide (q = 1) = b1) (hev : evB k y c t m f b1 = false) :
    Calls Tryz.prog 55 #[.slice a 0 cap] w fun e w' => e = .returned (.tuple #[evV 0 0 0 0 0 0 false, .bool false]) ∧ Keeps w w' := by
  have hbR := born_alloc w #[.int .i64 0, .int .i64 0, .int .i64 0, .int .i64 0, .int .i64 0, .int .i64 0, .bool false] 30
  have hkR := Keeps.alloc (Keeps.refl w) (.cells #[.int .i64 0, .int .i64 0, .int .i64 0, .int .i64 0, .int .i64 0, .int .i64 0, .bool false] 30)
  have hbV := born_alloc (w.alloc (.cells #[.int .i64 0, .int .i64 0, .int .i64 0, .int .i64 0, .int .i64 0, .int .i64 0, .bool false] 30)) #[.int .i64 0, .int .i64 0, .int .i64 0, .int .i64 0, .int .i64 0, .int .i64 0, .bool false] 30
  have hkV := Keeps.alloc (Keeps.refl (w.alloc (.cells #[.int .i64 0, .int .i64 0, .int .i64 0, .int .i64 0, .int .i64 0, .int .i64 0, .bool false] 30))) (.cells #[.int .i64 0, .int .i64 0, .int .i64 0, .int .i64 0, .int .i64 0, .int .i64 0, .bool false] 30)
  dsimp only at hbR hbV
  rw [World.size_alloc] at hbV
  have HR := hide (hbR.toOwn.kept hkV)
  have HV := hide hbV.toOwn
  have HK := hide (hkR.trans hkV)
  have HB1 := hide hb1
  have HEV := hide hev
  clear hbR hkR hbV hkV hb1 hev
  have Nk := hide ek
  have Ny := hide ey
  have Nc := hide ec
  have Nt := hide et
  have Nm := hide em
  have Nf := hide ef
  have Nq := hide eq
  clear ek ey ec et em ef eq
  have HN : Hid (w.heap.size + 1 ≠ w.heap.size) := by show _ ≠ _; omega
  go_enter Tryz.func55, Tryz.ntmps55
  go_wp2_with fail
  generalize (w.alloc (.cells #[.int .i64 0, .int .i64 0, .int .i64 0, .int .i64 0, .int .i64 0, .int .i64 0, .bool false] 30)).alloc (.cells #[.int .i64 0, .int .i64 0, .int .i64 0, .int .i64 0, .int .i64 0, .int .i64 0, .bool false] 30) = w1 at *
  go_at_call 79
  refine (get_none a cap 1 1 k Nk.out (by decide) _).mono ?_
  rintro e w' ⟨rfl, hw'⟩
  obtain rfl := Eq.symm hw'
  clear hw'
  have cV := own_cell HV.out 0 (by simp) (v := .int .i64 0) rfl
  have fV := own_free HV.out (by simp) 0
  replace HV : Hid (Own (w1.setCell ⟨w.heap.size + 1, 0, none⟩ (.int .i64 k)) [(some ⟨w.heap.size + 1, 0, none⟩, [.int .i64 k, .int .i64 0, .int .i64 0, .int .i64 0, .int .i64 0, .int .i64 0, .bool false])]) := own_set HV.out 0 (by simp) (.int .i64 k)
  replace HR := hide (own_setS HR.out (a := ⟨w.heap.size + 1, 0, none⟩) HN.out (.int .i64 k))
  replace HK := hide (HK.out.setCell (p := ⟨w.heap.size + 1, 0, none⟩) (Nat.le_succ _) (.int .i64 k))
  go_wp2_with fail
  clear cV fV
  generalize w1.setCell ⟨w.heap.size + 1, 0, none⟩ (.int .i64 k) = w2 at *
  clear w1
  go_at_call 79
  refine (get_none a cap 2 3 y Ny.out (by decide) _).mono ?_
  rintro e w' ⟨rfl, hw'⟩
  obtain rfl := Eq.symm hw'
  clear hw'
  have cV := own_cell HV.out 1 (by simp) (v := .int .i64 0) rfl
  have fV := own_free HV.out (by simp) 1
  replace HV : Hid (Own (w2.setCell ⟨w.heap.size + 1, 1, none⟩ (.int .i64 y)) [(some ⟨w.heap.size + 1, 0, none⟩, [.int .i64 k, .int .i64 y, .int .i64 0, .int .i64 0, .int .i64 0, .int .i64 0, .bool false])]) := own_set HV.out 1 (by simp) (.int .i64 y)
  replace HR := hide (own_setS HR.out (a := ⟨w.heap.size + 1, 1, none⟩) HN.out (.int .i64 y))
  replace HK := hide (HK.out.setCell (p := ⟨w.heap.size + 1, 1, none⟩) (Nat.le_succ _) (.int .i64 y))
  go_wp2_with fail
  clear cV fV
  generalize w2.setCell ⟨w.heap.size + 1, 1, none⟩ (.int .i64 y) = w3 at *
  clear w2
  go_at_call 79
  refine (get_none a cap 5 1 c Nc.out (by decide) _).mono ?_
  rintro e w' ⟨rfl, hw'⟩
  obtain rfl := Eq.symm hw'
  clear hw'
  have cV := own_cell HV.out 2 (by simp) (v := .int .i64 0) rfl
  have fV := own_free HV.out (by simp) 2
  replace HV : Hid (Own (w3.setCell ⟨w.heap.size + 1, 2, none⟩ (.int .i64 c)) [(some ⟨w.heap.size + 1, 0, none⟩, [.int .i64 k, .int .i64 y, .int .i64 c, .int .i64 0, .int .i64 0, .int .i64 0, .bool false])]) := own_set HV.out 2 (by simp) (.int .i64 c)
  replace HR := hide (own_setS HR.out (a := ⟨w.heap.size + 1, 2, none⟩) HN.out (.int .i64 c))
  replace HK := hide (HK.out.setCell (p := ⟨w.heap.size + 1, 2, none⟩) (Nat.le_succ _) (.int .i64 c))
  go_wp2_with fail
  clear cV fV
  generalize w3.setCell ⟨w.heap.size + 1, 2, none⟩ (.int .i64 c) = w4 at *
  clear w3
  go_at_call 79
  refine (get_none a cap 6 1 t Nt.out (by decide) _).mono ?_
  rintro e w' ⟨rfl, hw'⟩
  obtain rfl := Eq.symm hw'
  clear hw'
  have cV := own_cell HV.out 3 (by simp) (v := .int .i64 0) rfl
  have fV := own_free HV.out (by simp) 3
  replace HV : Hid (Own (w4.setCell ⟨w.heap.size + 1, 3, none⟩ (.int .i64 t)) [(some ⟨w.heap.size + 1, 0, none⟩, [.int .i64 k, .int .i64 y, .int .i64 c, .int .i64 t, .int .i64 0, .int .i64 0, .bool false])]) := own_set HV.out 3 (by simp) (.int .i64 t)
  replace HR := hide (own_setS HR.out (a := ⟨w.heap.size + 1, 3, none⟩) HN.out (.int .i64 t))
  replace HK := hide (HK.out.setCell (p := ⟨w.heap.size + 1, 3, none⟩) (Nat.le_succ _) (.int .i64 t))
  go_wp2_with fail
  clear cV fV
  generalize w4.setCell ⟨w.heap.size + 1, 3, none⟩ (.int .i64 t) = w5 at *
  clear w4
  go_at_call 79
  refine (get_none a cap 7 7 m Nm.out (by decide) _).mono ?_
  rintro e w' ⟨rfl, hw'⟩
  obtain rfl := Eq.symm hw'
  clear hw'
  have cV := own_cell HV.out 4 (by simp) (v := .int .i64 0) rfl
  have fV := own_free HV.out (by simp) 4
  replace HV : Hid (Own (w5.setCell ⟨w.heap.size + 1, 4, none⟩ (.int .i64 m)) [(some ⟨w.heap.size + 1, 0, none⟩, [.int .i64 k, .int .i64 y, .int .i64 c, .int .i64 t, .int .i64 m, .int .i64 0, .bool false])]) := own_set HV.out 4 (by simp) (.int .i64 m)
  replace HR := hide (own_setS HR.out (a := ⟨w.heap.size + 1, 4, none⟩) HN.out (.int .i64 m))
  replace HK := hide (HK.out.setCell (p := ⟨w.heap.size + 1, 4, none⟩) (Nat.le_succ _) (.int .i64 m))
  go_wp2_with fail
  clear cV fV
  generalize w5.setCell ⟨w.heap.size + 1, 4, none⟩ (.int .i64 m) = w6 at *
  clear w5
  go_at_call 79
  refine (get_none a cap 14 7 f Nf.out (by decide) _).mono ?_
  rintro e w' ⟨rfl, hw'⟩
  obtain rfl := Eq.symm hw'
  clear hw'
  have cV := own_cell HV.out 5 (by simp) (v := .int .i64 0) rfl
  have fV := own_free HV.out (by simp) 5
  replace HV : Hid (Own (w6.setCell ⟨w.heap.size + 1, 5, none⟩ (.int .i64 f)) [(some ⟨w.heap.size + 1, 0, none⟩, [.int .i64 k, .int .i64 y, .int .i64 c, .int .i64 t, .int .i64 m, .int .i64 f, .bool false])]) := own_set HV.out 5 (by simp) (.int .i64 f)
  replace HR := hide (own_setS HR.out (a := ⟨w.heap.size + 1, 5, none⟩) HN.out (.int .i64 f))
  replace HK := hide (HK.out.setCell (p := ⟨w.heap.size + 1, 5, none⟩) (Nat.le_succ _) (.int .i64 f))
  go_wp2_with fail
  clear cV fV
  generalize w6.setCell ⟨w.heap.size + 1, 5, none⟩ (.int .i64 f) = w7 at *
  clear w6
  go_at_call 79
  refine (get_none a cap 21 1 q Nq.out (by decide) _).mono ?_
  rintro e w' ⟨rfl, hw'⟩
  obtain rfl := Eq.symm hw'
  clear hw'
  have hqb : (q == 1) = b1 := by rw [← HB1.out, Bool.eq_iff_iff]; simp
  have cV := own_cell HV.out 6 (by simp) (v := .bool false) rfl
  have fV := own_free HV.out (by simp) 6
  replace HV : Hid (Own (w7.setCell ⟨w.heap.size + 1, 6, none⟩ (.bool b1)) [(some ⟨w.heap.size + 1, 0, none⟩, [.int .i64 k, .int .i64 y, .int .i64 c, .int .i64 t, .int .i64 m, .int .i64 f, .bool b1])]) := own_set HV.out 6 (by simp) (.bool b1)
  replace HR := hide (own_setS HR.out (a := ⟨w.heap.size + 1, 6, none⟩) HN.out (.bool b1))
  replace HK := hide (HK.out.setCell (p := ⟨w.heap.size + 1, 6, none⟩) (Nat.le_succ _) (.bool b1))
  have e0 := own_cell HV.out 0 (by simp) (v := .int .i64 k) rfl
  have e1 := own_cell HV.out 1 (by simp) (v := .int .i64 y) rfl
  have e2 := own_cell HV.out 2 (by simp) (v := .int .i64 c) rfl
  have e3 := own_cell HV.out 3 (by simp) (v := .int .i64 t) rfl
  have e4 := own_cell HV.out 4 (by simp) (v := .int .i64 m) rfl
  have e5 := own_cell HV.out 5 (by simp) (v := .int .i64 f) rfl
  have e6 := own_cell HV.out 6 (by simp) (v := .bool b1) rfl
  go_wp2_with fail
  clear cV fV hqb
  generalize w7.setCell ⟨w.heap.size + 1, 6, none⟩ (.bool b1) = w8 at *
  clear w7
  go_at_call 38
  refine (body_spec k y c t m f b1 _).mono ?_
  rintro e wB ⟨v, rfl, ho, hk⟩
  rw [HEV.out]
  replace HR := hide (HR.out.kept hk)
  replace HV := hide (HV.out.kept hk)
  have HO := hide ho
  replace HK := hide (HK.out.trans hk)
  clear hk ho e0 e1 e2 e3 e4 e5 e6
  have c0 := own_cell HR.out 0 (by simp) (v := .int .i64 0) rfl
  have c1 := own_cell HR.out 1 (by simp) (v := .int .i64 0) rfl
  have c2 := own_cell HR.out 2 (by simp) (v := .int .i64 0) rfl
  have c3 := own_cell HR.out 3 (by simp) (v := .int .i64 0) rfl
  have c4 := own_cell HR.out 4 (by simp) (v := .int .i64 0) rfl
  have c5 := own_cell HR.out 5 (by simp) (v := .int .i64 0) rfl
  have c6 := own_cell HR.out 6 (by simp) (v := .bool false) rfl
  have fR := own_free HR.out (by simp)
  have HF := hide (own_sevenS HR.out (.int .i64 0) (.int .i64 0) (.int .i64 0) (.int .i64 0) (.int .i64 0) (.int .i64 0) (.bool false))
  have HK2 := hide (keeps_sevenS HK.out (Nat.le_refl w.heap.size) (.int .i64 0) (.int .i64 0) (.int .i64 0) (.int .i64 0) (.int .i64 0) (.int .i64 0) (.bool false))
  go_wp2_with fail
  generalize (((((((wB.setCell ⟨w.heap.size, 0, none⟩ (.int .i64 0)).setCell ⟨w.heap.size, 1, none⟩ (.int .i64 0)).setCell ⟨w.heap.size, 2, none⟩ (.int .i64 0)).setCell ⟨w.heap.size, 3, none⟩ (.int .i64 0)).setCell ⟨w.heap.size, 4, none⟩ (.int .i64 0)).setCell ⟨w.heap.size, 5, none⟩ (.int .i64 0)).setCell ⟨w.heap.size, 6, none⟩ (.bool false)) = wF at *
  clear c0 c1 c2 c3 c4 c5 c6
  have c0 := own_cell HF.out 0 (by simp) (v := .int .i64 0) rfl
  have c1 := own_cell HF.out 1 (by simp) (v := .int .i64 0) rfl
  have c2 := own_cell HF.out 2 (by simp) (v := .int .i64 0) rfl
  have c3 := own_cell HF.out 3 (by simp) (v := .int .i64 0) rfl
  have c4 := own_cell HF.out 4 (by simp) (v := .int .i64 0) rfl
  have c5 := own_cell HF.out 5 (by simp) (v := .int .i64 0) rfl
  have c6 := own_cell HF.out 6 (by simp) (v := .bool false) rfl
  refine bodyPost_ret (v := .tuple #[.agg #[.int .i64 0, .int .i64 0, .int .i64 0, .int .i64 0, .int .i64 0, .int .i64 0, .bool false], .bool false]) ?_ rfl ⟨rfl, HK2.out⟩
  simp [results, Tryz.results55, go_sem, c0, c1, c2, c3, c4, c5, c6]
theorem ebB_len {L : List UInt8} (h : L.length ≠ 22) : ebB L = false := by unfold ebB; rw [decide_eq_false h]; rfl
theorem ebV_no {L : List UInt8} (h : ebB L = false) : ebV L = evV 0 0 0 0 0 0 false := by unfold ebV; rw [h]; rfl
/-- BodyEvent of the program, of whatever list of bytes. -/
theorem bodyevent_any (a : Option Addr) (L : List UInt8) (cap : Nat) (w : World) (u : TypeId) (pv : Value) (hv : w.cell? ⟨0, 0, none⟩ = some (.iface u pv)) (hc : Cells w a (bys L)) (hcb : CapB a cap L.length) (hl : L.length ≤ 16777216) :
    Calls Tryz.prog 44 #[.slice a L.length cap] w fun e w' => e = .returned (.tuple #[ebV L, .bool (ebB L)]) ∧ Keeps w w' := by
  by_cases h22 : L.length = 22
  · rcases hc with h' | ⟨b, off, e, h'⟩
    · have : L = [] := by rw [bys_nil] at h'; exact h'
      subst this
      simp at h22
    · subst e
      exact bodyevent_impl b off L cap w u pv hv (Or.inr ⟨b, off, rfl, h'⟩) hl hcb.2.1 hcb.2.2
  · rw [ebB_len h22, ebV_no (ebB_len h22)]
    exact bodyevent_len a L cap w u pv hv hl h22
theorem bodyspec_any (a : Option Addr) (L : List UInt8) (cap : Nat) (w : World) (hc : Cells w a (bys L)) (hl : L.length ≤ 16777216) :
    Calls Tryz.prog 55 #[.slice a L.length cap] w fun e w' => e = .returned (.tuple #[ebV L, .bool (ebB L)]) ∧ Keeps w w' := by
  rcases hc with h' | ⟨b, off, e, h'⟩
  · have : L = [] := by rw [bys_nil] at h'; exact h'
    subst this
    rw [ebB_len (by decide), ebV_no (ebB_len (by decide))]
    exact bodyspec_none a cap w 0 0 0 0 0 0 0 false rfl rfl rfl rfl rfl rfl rfl rfl rfl
  · subst e
    exact bodyspec b off L cap w (Or.inr ⟨b, off, rfl, h'⟩) hl
/-- An event's cells; it has no list of its own. -/
def Ev.cells (x : Ev) : List Value := [.int .i64 x.k, .int .i64 x.y, .int .i64 x.c, .int .i64 x.t, .int .i64 x.m, .int .i64 x.f, .bool x.b]
def Ev.seg (x : Ev) : Seg := (none, [])
def ecells (l : List Ev) : List Value := l.flatMap Ev.cells
/-- The event in the bytes. -/
def ebE (L : List UInt8) : Ev := if ebB L = true then ⟨(numL (cut L 1 1) : Nat), (numL (cut L 2 3) : Nat), (numL (cut L 5 1) : Nat), (numL (cut L 6 1) : Nat), (numL (cut L 7 7) : Nat), (numL (cut L 14 7) : Nat), decide (numL (cut L 21 1) = 1)⟩ else ⟨0, 0, 0, 0, 0, 0, false⟩
theorem ebV_eq (L : List UInt8) : ebV L = evV (ebE L).k (ebE L).y (ebE L).c (ebE L).t (ebE L).m (ebE L).f (ebE L).b := by
  unfold ebV ebE
  split <;> rfl
/-- The events of the first k sectors. -/
def evsTo (m : DkM) : Nat → List Ev
  | 0 => []
  | k + 1 => if ebB (srL (readL m k)) = true then evsTo m k ++ [ebE (srL (readL m k))] else evsTo m k
theorem evsTo_yes {m : DkM} {k : Nat} (h : ebB (srL (readL m k)) = true) : evsTo m (k + 1) = evsTo m k ++ [ebE (srL (readL m k))] := by simp [evsTo, h]
theorem evsTo_no {m : DkM} {k : Nat} (h : ebB (srL (readL m k)) = false) : evsTo m (k + 1) = evsTo m k := by simp [evsTo, h]
theorem evsTo_len (m : DkM) : ∀ k, (evsTo m k).length ≤ k
  | 0 => Nat.le_refl _
  | k + 1 => by
    have := evsTo_len m k
    unfold evsTo
    split
    · simp; omega
    · omega
theorem infoEvents : (Tryz.prog.info? 30).map (fun i => (i.zero, i.size, i.bytes)) = some (some (evV 0 0 0 0 0 0 false), 7, 56) := by kernel_rfl
theorem underEvents : Tryz.prog.underlying 39 = some (.slice 30) := by kernel_rfl
theorem cell_seven_new (w : World) (x0 x1 x2 x3 x4 x5 x6 : Value) (t : TypeId) : ∀ j u, [x0, x1, x2, x3, x4, x5, x6][j]? = some u → (w.alloc (.cells #[x0, x1, x2, x3, x4, x5, x6] t)).cell? ((⟨w.heap.size, 0, none⟩ : Addr).add j) = some u := by
  intro j u hj
  match j, hj with
  | 0, hj => simp at hj; subst hj; simp [Addr.add]
  | 1, hj => simp at hj; subst hj; simp [Addr.add]
  | 2, hj => simp at hj; subst hj; simp [Addr.add]
  | 3, hj => simp at hj; subst hj; simp [Addr.add]
  | 4, hj => simp at hj; subst hj; simp [Addr.add]
  | 5, hj => simp at hj; subst hj; simp [Addr.add]
  | 6, hj => simp at hj; subst hj; simp [Addr.add]
  | n + 7, hj => simp at hj
theorem run_event (w : World) (base : Nat) (v : Value) (n : Nat) (xs : List Value) (x : Ev) (ty : TypeId) (h : w.ownsRow base 30 7 v n xs) (hn : n ≤ 1048576) (hb : base ≤ w.heap.size) :
    ∃ v' w', (Builtin.append_ #[39, 39] ty #[v, .slice (some ⟨w.heap.size, 0, none⟩) 1 1]).run Tryz.prog (w.alloc (.cells (evCells x.k x.y x.c x.t x.m x.f x.b) 30)) = .ok v' w' ∧ w'.ownsRow base 30 7 v' (n + 1) (xs ++ x.cells) ∧ (w.alloc (.cells (evCells x.k x.y x.c x.t x.m x.f x.b) 30)).grownBy w' v.ownBlock ∧ (v'.ownBlock = v.ownBlock ∨ v'.ownBlock = some (w.alloc (.cells (evCells x.k x.y x.c x.t x.m x.f x.b) 30)).heap.size) := by
  have hI := infoEvents
  cases hi : Tryz.prog.info? 30 with
  | none => rw [hi] at hI; simp at hI
  | some i =>
    rw [hi] at hI
    simp at hI
    obtain ⟨hz, hsz, hby⟩ := hI
    obtain ⟨v', w', h1, h2, h3, _, h5⟩ := run_append_own_at (P := Tryz.prog) (w.alloc (.cells (evCells x.k x.y x.c x.t x.m x.f x.b) 30)) base 39 ty 30 i _ 7 56 underEvents hi hz hsz hby rfl (by decide) v n xs (h.alloc _) ⟨w.heap.size, 0, none⟩ 1 1 x.cells rfl (cell_seven_new w _ _ _ _ _ _ _ _) (by intro u hu; simp [Ev.cells] at hu; rcases hu with rfl | rfl | rfl | rfl | rfl | rfl | rfl <;> rfl) (by simp only [maxLen]; omega) (by omega) (by simp; omega)
    exact ⟨v', w', h1, h2, h3, h5⟩
/-- What LogEvents answers. -/
def LePost (w : World) (m : DkM) (x : Ending) (w' : World) : Prop := ∃ (a : Option Addr) (c : Nat), x = .returned (.slice a (evsTo m (logN m)).length c) ∧ Born w w' [(a, ecells (evsTo m (logN m)))] ∧ Keeps w w'
end Go.Proofs.YtkdnddckogbgaaaGreatDoor
namespace Go.Proofs.YtkdnddckogbgaaaGreatDoor
open Go.RowKit Go.Deep
set_option linter.unusedVariables false
set_option maxRecDepth 10000

theorem srE_bound {L : List UInt8} (h : srB L = true) : 1 ≤ srE L ∧ srE L ≤ 16000000 := by
  have e : srE L = (numL (cut L 4 3) : Nat) := by unfold srE; rw [if_pos h]
  unfold srB at h
  simp only [Bool.and_eq_true] at h
  have h1 := secB_true h.2
  rw [e]
  exact ⟨h1.2.2.1, h1.2.2.2.1⟩
theorem topTo_bound (m : DkM) : ∀ k, 0 ≤ topTo m k ∧ topTo m k ≤ 16000000
  | 0 => by simp [topTo]
  | k + 1 => by
    have := topTo_bound m k
    unfold topTo
    split
    · next h => have := srE_bound h.1; omega
    · exact this
theorem topM_bound (m : DkM) : 0 ≤ topM m ∧ topM m ≤ 16000000 := topTo_bound m _
/-- The code of LogOpen. -/
def opC (m : DkM) : Int := if (dokM m && decide (m.dirty.length = 0)) = true then (if logN m = m.cells.length ∨ topM m = 16000000 then 2 else 0) else 1
def opW (m : DkM) : DkM := writeM m (logN m : Nat) (secR (logN m : Nat) (topM m + 1) [66])
def opM (m : DkM) : DkM := if opC m = 0 then crashM (opW m) (fun _ => 128) else noM
def opN (m : DkM) : Int := if opC m = 0 then (logN m : Nat) + 1 else 0
def opE (m : DkM) : Int := if opC m = 0 then topM m + 1 else 0
def opV (m : DkM) : List Ev := if opC m = 0 then evsTo m (logN m) else []
theorem opC_one {m : DkM} (h : (dokM m && decide (m.dirty.length = 0)) = false) : opC m = 1 := by unfold opC; rw [h]; rfl
theorem opC_two {m : DkM} (h : dokM m = true) (hd : m.dirty.length = 0) (h2 : logN m = m.cells.length ∨ topM m = 16000000) : opC m = 2 := by simp [opC, h, hd, h2]
theorem opC_zero {m : DkM} (h : dokM m = true) (hd : m.dirty.length = 0) (h2 : ¬ (logN m = m.cells.length ∨ topM m = 16000000)) : opC m = 0 := by simp [opC, h, hd, h2]
theorem opW_ok {m : DkM} (h : dokM m = true) (hd : m.dirty.length = 0) (h2 : ¬ (logN m = m.cells.length ∨ topM m = 16000000)) : dokM (opW m) = true := by
  have h3 := dokM_len h
  have h4 := logTo_le m m.cells.length
  have h5 : logN m = logTo m m.cells.length := rfl
  have h6 := topM_bound m
  have hs : secB (logN m : Nat) (topM m + 1) [(66 : UInt8)].length = true := by
    unfold secB
    rw [decide_eq_true (p := 0 ≤ ((logN m : Nat) : Int)) (by omega), decide_eq_true (p := ((logN m : Nat) : Int) < 600) (by omega), decide_eq_true (p := 1 ≤ topM m + 1) (by omega), decide_eq_true (p := topM m + 1 ≤ 16000000) (by omega)]
    rfl
  have hl : (secR (logN m : Nat) (topM m + 1) [66]).length = 128 := by unfold secR; rw [if_pos hs]; exact secL_length (by decide)
  have hw := writeB_yes (m := m) (i := (logN m : Nat)) (L := secR (logN m : Nat) (topM m + 1) [66]) h (by omega) (by omega) (by omega) hl
  unfold opW writeM
  rw [if_pos hw, dokM_add h]
  exact hw
/-- What LogOpen answers. -/
def OpPost (w : World) (m : DkM) (x : Ending) (w' : World) : Prop := ∃ (ca : Option Addr) (cc : Nat) (cs : List Bs) (da : Option Addr) (dc : Nat) (ds : List Wr) (a : Option Addr) (c : Nat), x = .returned (.tuple #[logV ca cs.length cc da ds.length dc (opN m) (opE m), .slice a (opV m).length c, .int .i64 (opC m)]) ∧ dat cs ds = opM m ∧ DOk cs ds ∧ (ca = none → cc = 0) ∧ (da = none → dc = 0) ∧ Born w w' (dsk ca cs da ds ++ [(a, ecells (opV m))]) ∧ Keeps w w'
theorem OpPost.no {w w' : World} {m : DkM} {c : Int} (hc : opC m = c) (h0 : c ≠ 0) (hk : Keeps w w') : OpPost w m (.returned (.tuple #[.agg #[.slice none 0 0, .slice none 0 0, .int .i64 0, .int .i64 0], .slice none 0 0, .int .i64 c])) w' := by
  have h1 : opC m ≠ 0 := hc ▸ h0
  obtain ⟨ca, cc, cs, da, dc, ds, e1, e2, e3, e4, e5, e6⟩ := LogRes.none w w'
  refine ⟨ca, cc, cs, da, dc, ds, none, 0, ?_, ?_, e3, e4, e5, ?_, hk⟩
  · unfold opN opE opV
    rw [if_neg h1, if_neg h1, if_neg h1, hc, e1]
    rfl
  · unfold opM
    rw [if_neg h1]
    exact e2
  · unfold opV
    rw [if_neg h1]
    refine ⟨e6.toOwn.append ⟨fun s hs => ?_, by simp [fp, fpS, ecells], fun b hb => by simp [fp, fpS, ecells] at hb⟩ (fun b hb => by simp [fp, fpS, ecells]), fun b hb => ?_⟩
    · rw [List.mem_singleton.1 hs]
      exact Or.inl rfl
    · rw [fp_append] at hb
      rcases List.mem_append.1 hb with hb | hb
      · exact e6.new b hb
      · simp [fp, fpS, ecells] at hb
theorem OpPost.yes {w w' : World} {m : DkM} (hc : opC m = 0) {ca : Option Addr} {cc : Nat} {cs : List Bs} {da : Option Addr} {dc : Nat} {ds : List Wr} {a : Option Addr} {c : Nat} (he : dat cs ds = crashM (opW m) (fun _ => 128)) (hok : DOk cs ds) (h1 : ca = none → cc = 0) (h2 : da = none → dc = 0) (hb : Born w w' (dsk ca cs da ds ++ [(a, ecells (evsTo m (logN m)))])) (hk : Keeps w w') :
    OpPost w m (.returned (.tuple #[logV ca cs.length cc da ds.length dc ((logN m : Nat) + 1) (topM m + 1), .slice a (evsTo m (logN m)).length c, .int .i64 0])) w' := by
  refine ⟨ca, cc, cs, da, dc, ds, a, c, ?_, ?_, hok, h1, h2, ?_, hk⟩
  · unfold opN opE opV
    rw [if_pos hc, if_pos hc, if_pos hc, hc]
  · unfold opM
    rw [if_pos hc]
    exact he
  · unfold opV
    rw [if_pos hc]
    exact hb
theorem bys_B (w : World) : Cells (w.alloc (.cells #[.int .u8 66] 5)) (some ⟨w.heap.size, 0, none⟩) (bys [66]) := by
  have h := (born_alloc w #[.int .u8 66] 5).toOwn.one
  exact h
theorem bys_Bm (w : World) : Cells (w.alloc (.cells #[.int .u8 66] 5 (1, 2))) (some ⟨w.heap.size, 0, none⟩) (bys [66]) := by
  refine Or.inr ⟨w.heap.size, 0, rfl, fun j hj => ?_⟩
  have hB : (w.alloc (.cells #[.int .u8 66] 5 (1, 2))).heap[w.heap.size]? = some (.cells #[.int .u8 66] 5 (1, 2)) := by
    show (w.heap.push _)[w.heap.size]? = _
    simp
  match j, hj with
  | 0, _ => simp only [World.cell?, hB]; rfl
end Go.Proofs.YtkdnddckogbgaaaGreatDoor
