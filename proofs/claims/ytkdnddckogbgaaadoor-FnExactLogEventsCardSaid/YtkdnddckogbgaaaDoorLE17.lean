/- Texts of the verifier, joined: EvL, LEi. -/
import Derived.Test.YtkdnddckogbgaaaDoorLE15
import Derived.Test.YtkdnddckogbgaaaDoorLE16
import Derived.Test.YtkdnddckogbgaaaDoorLE11
namespace Go.Proofs.YtkdnddckogbgaaaDoor
open Go.RowKit Go.Deep
set_option linter.unusedVariables false
set_option maxRecDepth 10000

set_option maxHeartbeats 4000000 in
theorem bodyevent_len (a : Option Addr) (L : List UInt8) (cap : Nat) (w : World) (u : TypeId) (pv : Value) (hv : w.cell? ⟨0, 0, none⟩ = some (.iface u pv)) (hl : L.length ≤ 16777216) (h22 : L.length ≠ 22) :
    Calls Tryd.prog 39 #[.slice a L.length cap] w fun e w' => e = .returned (.tuple #[evV 0 0 0 0 0 0 false, .bool false]) ∧ Keeps w w' := by
  have hmf : ∀ (fn : Fn) (first cap : Array Value) (w : World), (Instr.makeFunc fn first cap).run Tryd.prog w = .ok (.func fn first cap) w := fun _ _ _ _ => rfl
  have hk3 := threeE_keeps w a L.length cap
  have HE := hide (event_len (w.heap.size + 1 + 1) a L.length cap (threeE w a L.length cap) u pv (hk3.cell hv) (threeE_rd w a L cap).data hl h22)
  have HO := hide (threeE_own w a L.length cap)
  have H1 := hide (threeE_b w a L.length cap)
  have H2 := hide (threeE_zb w a L.length cap)
  have HK := hide hk3
  clear hk3 hv
  go_enter_defers Tryd.func39, Tryd.ntmps39
  go_wp2_with fail
  go_at_call 58
  refine (unhide HE).mono ?_
  rintro e w1 ⟨rfl, ht⟩
  have hO := HO.out.turn ht (fun x hx hb => by
    rw [fp_one, fpS_some (by simp)] at hx
    simp at hx hb
    omega)
  have t1 := ht.cell (p := ⟨w.heap.size + 1, 0, none⟩) (by simp) H1.out
  have z1 : w1.frozen? ⟨w.heap.size + 1, 0, none⟩ = false := by rw [← H2.out]; exact World.frozen?_of_block (ht.block _ (by simp) (by simp))
  have hk1 : Keeps w w1 := ht.keeps HK.out (fun x hx => by simp at hx; omega)
  clear ht HE HO H1 H2 HK
  have hO2 := own_set' (own_seven hO (.int .i64 0) (.int .i64 0) (.int .i64 0) (.int .i64 0) (.int .i64 0) (.int .i64 0) (.bool false)) (a := ⟨w.heap.size + 1, 0, none⟩) (by simp) (.bool false)
  have hk2 := (keeps_seven hk1 (Nat.le_refl _) (.int .i64 0) (.int .i64 0) (.int .i64 0) (.int .i64 0) (.int .i64 0) (.int .i64 0) (.bool false)).setCell (p := ⟨w.heap.size + 1, 0, none⟩) (Nat.le_succ _) (.bool false)
  have e8 := World.cell?_setCell_same (((((((w1.setCell ⟨w.heap.size, 0, none⟩ (.int .i64 0)).setCell ⟨w.heap.size, 1, none⟩ (.int .i64 0)).setCell ⟨w.heap.size, 2, none⟩ (.int .i64 0)).setCell ⟨w.heap.size, 3, none⟩ (.int .i64 0)).setCell ⟨w.heap.size, 4, none⟩ (.int .i64 0)).setCell ⟨w.heap.size, 5, none⟩ (.int .i64 0)).setCell ⟨w.heap.size, 6, none⟩ (.bool false)) ⟨w.heap.size + 1, 0, none⟩ (.bool false) (seven_other (p := ⟨w.heap.size + 1, 0, none⟩) (by simp) t1 (.int .i64 0) (.int .i64 0) (.int .i64 0) (.int .i64 0) (.int .i64 0) (.int .i64 0) (.bool false))
  have e0 := cell_at hO2.mem 0 (by simp)
  have e1 := cell_at hO2.mem 1 (by simp)
  have e2 := cell_at hO2.mem 2 (by simp)
  have e3 := cell_at hO2.mem 3 (by simp)
  have e4 := cell_at hO2.mem 4 (by simp)
  have e5 := cell_at hO2.mem 5 (by simp)
  have e6 := cell_at hO2.mem 6 (by simp)
  simp only [Nat.zero_add, List.getElem_cons_zero, List.getElem_cons_succ] at e0 e1 e2 e3 e4 e5 e6
  refine leaves_cons (f := 57) (args := #[.pointer (some ⟨w.heap.size, 0, none⟩), .pointer (some ⟨w.heap.size + 1, 0, none⟩)]) (by simp) rfl ?_
  refine (catchE_panic w.heap.size (w.heap.size + 1) (by omega) _ _ _ _ _ _ _ _ u pv [] w1 hO t1 z1).mono ?_
  rintro e u' w' ⟨rfl, rfl, hw'⟩
  rw [← hw'] at e0 e1 e2 e3 e4 e5 e6 e8 hk2
  simp [Leaves, settle, results, Tryd.results39, go_sem, e0, e1, e2, e3, e4, e5, e6, e8, hk2]
theorem get_none (a : Option Addr) (cap : Nat) (p s n : Int) (hn : (0 : Int) = n) (h : (0 : Int) - s < p) (w : World) :
    Calls Tryd.prog 44 #[.slice a 0 cap, .int .i64 p, .int .i64 s] w fun e w' => e = .returned (.tuple #[.int .i64 n, .bool false]) ∧ w' = w := by
  rw [← hn]; exact getspec_no a [] cap p s w (by decide) (.inr (.inr (.inr (by simpa using h))))
set_option maxHeartbeats 8000000 in
theorem bodyspec_none (a : Option Addr) (cap : Nat) (w : World) (k y c t m f q : Int) (b1 : Bool) (ek : (0 : Int) = k) (ey : (0 : Int) = y) (ec : (0 : Int) = c) (et : (0 : Int) = t) (em : (0 : Int) = m) (ef : (0 : Int) = f) (eq : (0 : Int) = q) (hb1 : decide (q = 1) = b1) (hev : evB k y c t m f b1 = false) :
    Calls Tryd.prog 38 #[.slice a 0 cap] w fun e w' => e = .returned (.tuple #[evV 0 0 0 0 0 0 false, .bool false]) ∧ Keeps w w' := by
  have hbR := born_alloc w #[.int .i64 0, .int .i64 0, .int .i64 0, .int .i64 0, .int .i64 0, .int .i64 0, .bool false] 70
  have hkR := Keeps.alloc (Keeps.refl w) (.cells #[.int .i64 0, .int .i64 0, .int .i64 0, .int .i64 0, .int .i64 0, .int .i64 0, .bool false] 70)
  have hbV := born_alloc (w.alloc (.cells #[.int .i64 0, .int .i64 0, .int .i64 0, .int .i64 0, .int .i64 0, .int .i64 0, .bool false] 70)) #[.int .i64 0, .int .i64 0, .int .i64 0, .int .i64 0, .int .i64 0, .int .i64 0, .bool false] 70
  have hkV := Keeps.alloc (Keeps.refl (w.alloc (.cells #[.int .i64 0, .int .i64 0, .int .i64 0, .int .i64 0, .int .i64 0, .int .i64 0, .bool false] 70))) (.cells #[.int .i64 0, .int .i64 0, .int .i64 0, .int .i64 0, .int .i64 0, .int .i64 0, .bool false] 70)
  dsimp only at hbR hbV
  rw [World.size_alloc] at hbV
  have HR := hide (hbR.toOwn.kept hkV)
  have HV := hide hbV.toOwn
  have HK := hide (hkR.trans hkV)
  have HB1 := hide hb1
  have HEV := hide hev
  clear hbR hkR hbV hkV hb1 hev
  have Nk := hide ek
  have Ny := hide ey
  have Nc := hide ec
  have Nt := hide et
  have Nm := hide em
  have Nf := hide ef
  have Nq := hide eq
  clear ek ey ec et em ef eq
  have HN : Hid (w.heap.size + 1 ≠ w.heap.size) := by show _ ≠ _; omega
  go_enter Tryd.func38, Tryd.ntmps38
  go_wp2_with fail
  generalize (w.alloc (.cells #[.int .i64 0, .int .i64 0, .int .i64 0, .int .i64 0, .int .i64 0, .int .i64 0, .bool false] 70)).alloc (.cells #[.int .i64 0, .int .i64 0, .int .i64 0, .int .i64 0, .int .i64 0, .int .i64 0, .bool false] 70) = w1 at *
  go_at_call 44
  refine (get_none a cap 1 1 k Nk.out (by decide) _).mono ?_
  rintro e w' ⟨rfl, hw'⟩
  obtain rfl := Eq.symm hw'
  clear hw'
  have cV := own_cell HV.out 0 (by simp) (v := .int .i64 0) rfl
  have fV := own_free HV.out (by simp) 0
  replace HV : Hid (Own (w1.setCell ⟨w.heap.size + 1, 0, none⟩ (.int .i64 k)) [(some ⟨w.heap.size + 1, 0, none⟩, [.int .i64 k, .int .i64 0, .int .i64 0, .int .i64 0, .int .i64 0, .int .i64 0, .bool false])]) := own_set HV.out 0 (by simp) (.int .i64 k)
  replace HR := hide (own_setS HR.out (a := ⟨w.heap.size + 1, 0, none⟩) HN.out (.int .i64 k))
  replace HK := hide (HK.out.setCell (p := ⟨w.heap.size + 1, 0, none⟩) (Nat.le_succ _) (.int .i64 k))
  go_wp2_with fail
  clear cV fV
  generalize w1.setCell ⟨w.heap.size + 1, 0, none⟩ (.int .i64 k) = w2 at *
  clear w1
  go_at_call 44
  refine (get_none a cap 2 3 y Ny.out (by decide) _).mono ?_
  rintro e w' ⟨rfl, hw'⟩
  obtain rfl := Eq.symm hw'
  clear hw'
  have cV := own_cell HV.out 1 (by simp) (v := .int .i64 0) rfl
  have fV := own_free HV.out (by simp) 1
  replace HV : Hid (Own (w2.setCell ⟨w.heap.size + 1, 1, none⟩ (.int .i64 y)) [(some ⟨w.heap.size + 1, 0, none⟩, [.int .i64 k, .int .i64 y, .int .i64 0, .int .i64 0, .int .i64 0, .int .i64 0, .bool false])]) := own_set HV.out 1 (by simp) (.int .i64 y)
  replace HR := hide (own_setS HR.out (a := ⟨w.heap.size + 1, 1, none⟩) HN.out (.int .i64 y))
  replace HK := hide (HK.out.setCell (p := ⟨w.heap.size + 1, 1, none⟩) (Nat.le_succ _) (.int .i64 y))
  go_wp2_with fail
  clear cV fV
  generalize w2.setCell ⟨w.heap.size + 1, 1, none⟩ (.int .i64 y) = w3 at *
  clear w2
  go_at_call 44
  refine (get_none a cap 5 1 c Nc.out (by decide) _).mono ?_
  rintro e w' ⟨rfl, hw'⟩
  obtain rfl := Eq.symm hw'
  clear hw'
  have cV := own_cell HV.out 2 (by simp) (v := .int .i64 0) rfl
  have fV := own_free HV.out (by simp) 2
  replace HV : Hid (Own (w3.setCell ⟨w.heap.size + 1, 2, none⟩ (.int .i64 c)) [(some ⟨w.heap.size + 1, 0, none⟩, [.int .i64 k, .int .i64 y, .int .i64 c, .int .i64 0, .int .i64 0, .int .i64 0, .bool false])]) := own_set HV.out 2 (by simp) (.int .i64 c)
  replace HR := hide (own_setS HR.out (a := ⟨w.heap.size + 1, 2, none⟩) HN.out (.int .i64 c))
  replace HK := hide (HK.out.setCell (p := ⟨w.heap.size + 1, 2, none⟩) (Nat.le_succ _) (.int .i64 c))
  go_wp2_with fail
  clear cV fV
  generalize w3.setCell ⟨w.heap.size + 1, 2, none⟩ (.int .i64 c) = w4 at *
  clear w3
  go_at_call 44
  refine (get_none a cap 6 1 t Nt.out (by decide) _).mono ?_
  rintro e w' ⟨rfl, hw'⟩
  obtain rfl := Eq.symm hw'
  clear hw'
  have cV := own_cell HV.out 3 (by simp) (v := .int .i64 0) rfl
  have fV := own_free HV.out (by simp) 3
  replace HV : Hid (Own (w4.setCell ⟨w.heap.size + 1, 3, none⟩ (.int .i64 t)) [(some ⟨w.heap.size + 1, 0, none⟩, [.int .i64 k, .int .i64 y, .int .i64 c, .int .i64 t, .int .i64 0, .int .i64 0, .bool false])]) := own_set HV.out 3 (by simp) (.int .i64 t)
  replace HR := hide (own_setS HR.out (a := ⟨w.heap.size + 1, 3, none⟩) HN.out (.int .i64 t))
  replace HK := hide (HK.out.setCell (p := ⟨w.heap.size + 1, 3, none⟩) (Nat.le_succ _) (.int .i64 t))
  go_wp2_with fail
  clear cV fV
  generalize w4.setCell ⟨w.heap.size + 1, 3, none⟩ (.int .i64 t) = w5 at *
  clear w4
  go_at_call 44
  refine (get_none a cap 7 7 m Nm.out (by decide) _).mono ?_
  rintro e w' ⟨rfl, hw'⟩
  obtain rfl := Eq.symm hw'
  clear hw'
  have cV := own_cell HV.out 4 (by simp) (v := .int .i64 0) rfl
  have fV := own_free HV.out (by simp) 4
  replace HV : Hid (Own (w5.setCell ⟨w.heap.size + 1, 4, none⟩ (.int .i64 m)) [(some ⟨w.heap.size + 1, 0, none⟩, [.int .i64 k, .int .i64 y, .int .i64 c, .int .i64 t, .int .i64 m, .int .i64 0, .bool false])]) := own_set HV.out 4 (by simp) (.int .i64 m)
  replace HR := hide (own_setS HR.out (a := ⟨w.heap.size + 1, 4, none⟩) HN.out (.int .i64 m))
  replace HK := hide (HK.out.setCell (p := ⟨w.heap.size + 1, 4, none⟩) (Nat.le_succ _) (.int .i64 m))
  go_wp2_with fail
  clear cV fV
  generalize w5.setCell ⟨w.heap.size + 1, 4, none⟩ (.int .i64 m) = w6 at *
  clear w5
  go_at_call 44
  refine (get_none a cap 14 7 f Nf.out (by decide) _).mono ?_
  rintro e w' ⟨rfl, hw'⟩
  obtain rfl := Eq.symm hw'
  clear hw'
  have cV := own_cell HV.out 5 (by simp) (v := .int .i64 0) rfl
  have fV := own_free HV.out (by simp) 5
  replace HV : Hid (Own (w6.setCell ⟨w.heap.size + 1, 5, none⟩ (.int .i64 f)) [(some ⟨w.heap.size + 1, 0, none⟩, [.int .i64 k, .int .i64 y, .int .i64 c, .int .i64 t, .int .i64 m, .int .i64 f, .bool false])]) := own_set HV.out 5 (by simp) (.int .i64 f)
  replace HR := hide (own_setS HR.out (a := ⟨w.heap.size + 1, 5, none⟩) HN.out (.int .i64 f))
  replace HK := hide (HK.out.setCell (p := ⟨w.heap.size + 1, 5, none⟩) (Nat.le_succ _) (.int .i64 f))
  go_wp2_with fail
  clear cV fV
  generalize w6.setCell ⟨w.heap.size + 1, 5, none⟩ (.int .i64 f) = w7 at *
  clear w6
  go_at_call 44
  refine (get_none a cap 21 1 q Nq.out (by decide) _).mono ?_
  rintro e w' ⟨rfl, hw'⟩
  obtain rfl := Eq.symm hw'
  clear hw'
  have hqb : (q == 1) = b1 := by rw [← HB1.out, Bool.eq_iff_iff]; simp
  have cV := own_cell HV.out 6 (by simp) (v := .bool false) rfl
  have fV := own_free HV.out (by simp) 6
  replace HV : Hid (Own (w7.setCell ⟨w.heap.size + 1, 6, none⟩ (.bool b1)) [(some ⟨w.heap.size + 1, 0, none⟩, [.int .i64 k, .int .i64 y, .int .i64 c, .int .i64 t, .int .i64 m, .int .i64 f, .bool b1])]) := own_set HV.out 6 (by simp) (.bool b1)
  replace HR := hide (own_setS HR.out (a := ⟨w.heap.size + 1, 6, none⟩) HN.out (.bool b1))
  replace HK := hide (HK.out.setCell (p := ⟨w.heap.size + 1, 6, none⟩) (Nat.le_succ _) (.bool b1))
  have e0 := own_cell HV.out 0 (by simp) (v := .int .i64 k) rfl
  have e1 := own_cell HV.out 1 (by simp) (v := .int .i64 y) rfl
  have e2 := own_cell HV.out 2 (by simp) (v := .int .i64 c) rfl
  have e3 := own_cell HV.out 3 (by simp) (v := .int .i64 t) rfl
  have e4 := own_cell HV.out 4 (by simp) (v := .int .i64 m) rfl
  have e5 := own_cell HV.out 5 (by simp) (v := .int .i64 f) rfl
  have e6 := own_cell HV.out 6 (by simp) (v := .bool b1) rfl
  go_wp2_with fail
  clear cV fV hqb
  generalize w7.setCell ⟨w.heap.size + 1, 6, none⟩ (.bool b1) = w8 at *
  clear w7
  go_at_call 56
  refine (body_spec k y c t m f b1 _).mono ?_
  rintro e wB ⟨v, rfl, ho, hk⟩
  rw [HEV.out]
  replace HR := hide (HR.out.kept hk)
  replace HV := hide (HV.out.kept hk)
  have HO := hide ho
  replace HK := hide (HK.out.trans hk)
  clear hk ho e0 e1 e2 e3 e4 e5 e6
  have c0 := own_cell HR.out 0 (by simp) (v := .int .i64 0) rfl
  have c1 := own_cell HR.out 1 (by simp) (v := .int .i64 0) rfl
  have c2 := own_cell HR.out 2 (by simp) (v := .int .i64 0) rfl
  have c3 := own_cell HR.out 3 (by simp) (v := .int .i64 0) rfl
  have c4 := own_cell HR.out 4 (by simp) (v := .int .i64 0) rfl
  have c5 := own_cell HR.out 5 (by simp) (v := .int .i64 0) rfl
  have c6 := own_cell HR.out 6 (by simp) (v := .bool false) rfl
  have fR := own_free HR.out (by simp)
  have HF := hide (own_sevenS HR.out (.int .i64 0) (.int .i64 0) (.int .i64 0) (.int .i64 0) (.int .i64 0) (.int .i64 0) (.bool false))
  have HK2 := hide (keeps_sevenS HK.out (Nat.le_refl w.heap.size) (.int .i64 0) (.int .i64 0) (.int .i64 0) (.int .i64 0) (.int .i64 0) (.int .i64 0) (.bool false))
  go_wp2_with fail
  generalize (((((((wB.setCell ⟨w.heap.size, 0, none⟩ (.int .i64 0)).setCell ⟨w.heap.size, 1, none⟩ (.int .i64 0)).setCell ⟨w.heap.size, 2, none⟩ (.int .i64 0)).setCell ⟨w.heap.size, 3, none⟩ (.int .i64 0)).setCell ⟨w.heap.size, 4, none⟩ (.int .i64 0)).setCell ⟨w.heap.size, 5, none⟩ (.int .i64 0)).setCell ⟨w.heap.size, 6, none⟩ (.bool false)) = wF at *
  clear c0 c1 c2 c3 c4 c5 c6
  have c0 := own_cell HF.out 0 (by simp) (v := .int .i64 0) rfl
  have c1 := own_cell HF.out 1 (by simp) (v := .int .i64 0) rfl
  have c2 := own_cell HF.out 2 (by simp) (v := .int .i64 0) rfl
  have c3 := own_cell HF.out 3 (by simp) (v := .int .i64 0) rfl
  have c4 := own_cell HF.out 4 (by simp) (v := .int .i64 0) rfl
  have c5 := own_cell HF.out 5 (by simp) (v := .int .i64 0) rfl
  have c6 := own_cell HF.out 6 (by simp) (v := .bool false) rfl
  refine bodyPost_ret (v := .tuple #[.agg #[.int .i64 0, .int .i64 0, .int .i64 0, .int .i64 0, .int .i64 0, .int .i64 0, .bool false], .bool false]) ?_ rfl ⟨rfl, HK2.out⟩
  simp [results, Tryd.results38, go_sem, c0, c1, c2, c3, c4, c5, c6]
theorem ebB_len {L : List UInt8} (h : L.length ≠ 22) : ebB L = false := by unfold ebB; rw [decide_eq_false h]; rfl
theorem ebV_no {L : List UInt8} (h : ebB L = false) : ebV L = evV 0 0 0 0 0 0 false := by unfold ebV; rw [h]; rfl
/-- BodyEvent of the program, of whatever list of bytes. -/
theorem bodyevent_any (a : Option Addr) (L : List UInt8) (cap : Nat) (w : World) (u : TypeId) (pv : Value) (hv : w.cell? ⟨0, 0, none⟩ = some (.iface u pv)) (hc : Cells w a (bys L)) (hcb : CapB a cap L.length) (hl : L.length ≤ 16777216) :
    Calls Tryd.prog 39 #[.slice a L.length cap] w fun e w' => e = .returned (.tuple #[ebV L, .bool (ebB L)]) ∧ Keeps w w' := by
  by_cases h22 : L.length = 22
  · rcases hc with h' | ⟨b, off, e, h'⟩
    · have : L = [] := by rw [bys_nil] at h'; exact h'
      subst this
      simp at h22
    · subst e
      exact bodyevent_impl b off L cap w u pv hv (Or.inr ⟨b, off, rfl, h'⟩) hl hcb.2.1 hcb.2.2
  · rw [ebB_len h22, ebV_no (ebB_len h22)]
    exact bodyevent_len a L cap w u pv hv hl h22
theorem bodyspec_any (a : Option Addr) (L : List UInt8) (cap : Nat) (w : World) (hc : Cells w a (bys L)) (hl : L.length ≤ 16777216) :
    Calls Tryd.prog 38 #[.slice a L.length cap] w fun e w' => e = .returned (.tuple #[ebV L, .bool (ebB L)]) ∧ Keeps w w' := by
  rcases hc with h' | ⟨b, off, e, h'⟩
  · have : L = [] := by rw [bys_nil] at h'; exact h'
    subst this
    rw [ebB_len (by decide), ebV_no (ebB_len (by decide))]
    exact bodyspec_none a cap w 0 0 0 0 0 0 0 false rfl rfl rfl rfl rfl rfl rfl rfl rfl
  · subst e
    exact bodyspec b off L cap w (Or.inr ⟨b, off, rfl, h'⟩) hl
/-- An event's cells; it has no list of its own. -/
def Ev.cells (x : Ev) : List Value := [.int .i64 x.k, .int .i64 x.y, .int .i64 x.c, .int .i64 x.t, .int .i64 x.m, .int .i64 x.f, .bool x.b]
def Ev.seg (x : Ev) : Seg := (none, [])
def ecells (l : List Ev) : List Value := l.flatMap Ev.cells
/-- The event in the bytes. -/
def ebE (L : List UInt8) : Ev := if ebB L = true then ⟨(numL (cut L 1 1) : Nat), (numL (cut L 2 3) : Nat), (numL (cut L 5 1) : Nat), (numL (cut L 6 1) : Nat), (numL (cut L 7 7) : Nat), (numL (cut L 14 7) : Nat), decide (numL (cut L 21 1) = 1)⟩ else ⟨0, 0, 0, 0, 0, 0, false⟩
theorem ebV_eq (L : List UInt8) : ebV L = evV (ebE L).k (ebE L).y (ebE L).c (ebE L).t (ebE L).m (ebE L).f (ebE L).b := by
  unfold ebV ebE
  split <;> rfl
/-- The events of the first k sectors. -/
def evsTo (m : DkM) : Nat → List Ev
  | 0 => []
  | k + 1 => if ebB (srL (readL m k)) = true then evsTo m k ++ [ebE (srL (readL m k))] else evsTo m k
theorem evsTo_yes {m : DkM} {k : Nat} (h : ebB (srL (readL m k)) = true) : evsTo m (k + 1) = evsTo m k ++ [ebE (srL (readL m k))] := by simp [evsTo, h]
theorem evsTo_no {m : DkM} {k : Nat} (h : ebB (srL (readL m k)) = false) : evsTo m (k + 1) = evsTo m k := by simp [evsTo, h]
theorem evsTo_len (m : DkM) : ∀ k, (evsTo m k).length ≤ k
  | 0 => Nat.le_refl _
  | k + 1 => by
    have := evsTo_len m k
    unfold evsTo
    split
    · simp; omega
    · omega
theorem infoEvents : (Tryd.prog.info? 70).map (fun i => (i.zero, i.size, i.bytes)) = some (some (evV 0 0 0 0 0 0 false), 7, 56) := by kernel_rfl
theorem underEvents : Tryd.prog.underlying 41 = some (.slice 70) := by kernel_rfl
theorem cell_seven_new (w : World) (x0 x1 x2 x3 x4 x5 x6 : Value) (t : TypeId) : ∀ j u, [x0, x1, x2, x3, x4, x5, x6][j]? = some u → (w.alloc (.cells #[x0, x1, x2, x3, x4, x5, x6] t)).cell? ((⟨w.heap.size, 0, none⟩ : Addr).add j) = some u := by
  intro j u hj
  match j, hj with
  | 0, hj => simp at hj; subst hj; simp [Addr.add]
  | 1, hj => simp at hj; subst hj; simp [Addr.add]
  | 2, hj => simp at hj; subst hj; simp [Addr.add]
  | 3, hj => simp at hj; subst hj; simp [Addr.add]
  | 4, hj => simp at hj; subst hj; simp [Addr.add]
  | 5, hj => simp at hj; subst hj; simp [Addr.add]
  | 6, hj => simp at hj; subst hj; simp [Addr.add]
  | n + 7, hj => simp at hj
theorem run_event (w : World) (base : Nat) (v : Value) (n : Nat) (xs : List Value) (x : Ev) (ty : TypeId) (h : w.ownsRow base 70 7 v n xs) (hn : n ≤ 1048576) (hb : base ≤ w.heap.size) :
    ∃ v' w', (Builtin.append_ #[41, 41] ty #[v, .slice (some ⟨w.heap.size, 0, none⟩) 1 1]).run Tryd.prog (w.alloc (.cells (evCells x.k x.y x.c x.t x.m x.f x.b) 70)) = .ok v' w' ∧ w'.ownsRow base 70 7 v' (n + 1) (xs ++ x.cells) ∧ (w.alloc (.cells (evCells x.k x.y x.c x.t x.m x.f x.b) 70)).grownBy w' v.ownBlock ∧ (v'.ownBlock = v.ownBlock ∨ v'.ownBlock = some (w.alloc (.cells (evCells x.k x.y x.c x.t x.m x.f x.b) 70)).heap.size) := by
  have hI := infoEvents
  cases hi : Tryd.prog.info? 70 with
  | none => rw [hi] at hI; simp at hI
  | some i =>
    rw [hi] at hI
    simp at hI
    obtain ⟨hz, hsz, hby⟩ := hI
    obtain ⟨v', w', h1, h2, h3, _, h5⟩ := run_append_own_at (P := Tryd.prog) (w.alloc (.cells (evCells x.k x.y x.c x.t x.m x.f x.b) 70)) base 41 ty 70 i _ 7 56 underEvents hi hz hsz hby rfl (by decide) v n xs (h.alloc _) ⟨w.heap.size, 0, none⟩ 1 1 x.cells rfl (cell_seven_new w _ _ _ _ _ _ _ _) (by intro u hu; simp [Ev.cells] at hu; rcases hu with rfl | rfl | rfl | rfl | rfl | rfl | rfl <;> rfl) (by simp only [maxLen]; omega) (by omega) (by simp; omega)
    exact ⟨v', w', h1, h2, h3, h5⟩
/-- What LogEvents answers. -/
def LePost (w : World) (m : DkM) (x : Ending) (w' : World) : Prop := ∃ (a : Option Addr) (c : Nat), x = .returned (.slice a (evsTo m (logN m)).length c) ∧ Born w w' [(a, ecells (evsTo m (logN m)))] ∧ Keeps w w'
end Go.Proofs.YtkdnddckogbgaaaDoor
namespace Go.Proofs.YtkdnddckogbgaaaDoor
open Go.RowKit Go.Deep Go.Shelf
set_option linter.unusedVariables false
set_option maxRecDepth 10000
attribute [local go_sem] Oper.semAt_some

theorem own_none (w : World) (x : Ev) : Own w [x.seg] := ⟨fun s hs => by rw [List.mem_singleton.1 hs]; exact Or.inl rfl, by simp [fp, fpS, Ev.seg], fun b hb => by simp [fp, fpS, Ev.seg] at hb⟩
/-- Between two rounds of LogEvents, k sectors read; lo: where the iterator's own blocks begin. -/
structure EvI (w : World) (lo : Nat) (ca : Option Addr) (cc : Nat) (cs : List Bs) (da : Option Addr) (dc : Nat) (ds : List Wr) (u : TypeId) (pv : Value) (k : Nat) (W : World) (v : Value) : Prop where
  mem : Mem W (dsk ca cs da ds)
  err : W.cell? ⟨0, 0, none⟩ = some (.iface u pv)
  box : W.cell? ⟨w.heap.size + 1, 0, none⟩ = some v
  free : W.frozen? ⟨w.heap.size + 1, 0, none⟩ = false
  list : LB 70 7 Ev.cells Ev.seg (lo + 6) W v (evsTo (dat cs ds) k)
  kept : Keeps w W
section
variable {w : World} {lo : Nat} {ca : Option Addr} {cc : Nat} {cs : List Bs} {da : Option Addr} {dc : Nat} {ds : List Wr} {u : TypeId} {pv : Value} {k : Nat} {W W' : World} {v : Value}
theorem EvI.turn (h : EvI w lo ca cc cs da dc ds u pv k W v) {fs : List Nat} (ht : Turn fs W W') (hf : ∀ b ∈ fs, b < lo + 6) (hw : ∀ b ∈ fs, w.heap.size ≤ b) (h1 : w.heap.size + 1 ∉ fs) (h2 : ∀ x ∈ fp (dsk ca cs da ds), x < w.heap.size) (h3 : 0 < w.heap.size) : EvI w lo ca cc cs da dc ds u pv k W' v :=
  ⟨h.mem.turn ht (fun x hx hy => by have := h2 x hx; have := hw x hy; omega), ht.cell (fun hy => by have := hw _ hy; dsimp only at this; omega) h.err, ht.cell h1 h.box, by rw [← h.free]; exact World.frozen?_of_block (ht.block _ (lt_of_cell h.box) h1), h.list.turn ht hf, ht.keeps h.kept hw⟩
theorem EvI.later (h : EvI w lo ca cc cs da dc ds u pv k W v) (hk : Keeps W W') : EvI w lo ca cc cs da dc ds u pv k W' v :=
  ⟨h.mem.kept hk, hk.cell h.err, hk.cell h.box, by rw [hk.oldF _ _ (lt_of_cell h.box)]; exact h.free, h.list.kept hk, h.kept.trans hk⟩
end
set_option maxHeartbeats 8000000 in
theorem logevents_impl (ca : Option Addr) (cc : Nat) (cs : List Bs) (da : Option Addr) (dc : Nat) (ds : List Wr) (w : World) (u : TypeId) (pv : Value) (hv : w.cell? ⟨0, 0, none⟩ = some (.iface u pv)) (hm : Mem w (dsk ca cs da ds)) (h : DOk cs ds) :
    Calls Tryd.prog 18 #[dskV ca cs.length cc da ds.length dc] w (LePost w (dat cs ds)) := by
  obtain ⟨n, hn⟩ : ∃ n, 19 ≤ n := ⟨19, Nat.le_refl _⟩
  refine (callsIn_wide (n := n)).1 ?_
  refine callsIn_of_wp_marks Tryd.func18 rfl trivial ?_ rfl
  simp only [Tryd.ntmps18, List.size_toArray, List.length_cons, List.length_nil, Nat.reduceAdd, Nat.reduceSub, Array.replicate_succ, Array.replicate_zero, List.push_toArray, List.append_toArray, List.nil_append, List.cons_append]
  have HV := hide hv
  have HM := hide hm
  have HD := hide h
  have hcl := h.c
  have hlt := hm.lt
  have hgl := lt_of_cell hv
  clear hv hm h
  gi_wp2
  refine ⟨trivial, nofun, (callsIn_wide.2 (log_make ca cc cs da dc ds _)).mono ?_⟩
  rintro e w1 ⟨rfl, rfl⟩
  gi_wp2
  obtain ⟨W0, hW0⟩ : ∃ W0, ((w.alloc (.cells #[.slice ca cs.length cc, .slice da ds.length dc] 33)).alloc (.cells #[.slice none 0 0] 41)).alloc (.cells #[.slice ca cs.length cc, .slice da ds.length dc] 33) = W0 := ⟨_, rfl⟩
  have HS0 : Hid (W0.heap.size = w.heap.size + 3) := by show _ = _; rw [← hW0]; simp
  have hk0 : Keeps w W0 := by rw [← hW0]; exact ((Keeps.refl w).alloc _).alloc _ |>.alloc _
  have hbx := (born_alloc ((w.alloc (.cells #[.slice ca cs.length cc, .slice da ds.length dc] 33)).alloc (.cells #[.slice none 0 0] 41)) #[.slice ca cs.length cc, .slice da ds.length dc] 33).toOwn
  have htb := (born_alloc (w.alloc (.cells #[.slice ca cs.length cc, .slice da ds.length dc] 33)) #[.slice none 0 0] 41).toOwn.kept (Keeps.alloc (Keeps.refl _) (.cells #[.slice ca cs.length cc, .slice da ds.length dc] 33))
  rw [hW0] at hbx htb
  simp only [World.size_alloc] at hbx htb
  rw [hW0]
  have cb0 := cell_at hbx.mem 0 (by simp)
  have cb1 := cell_at hbx.mem 1 (by simp)
  have ct0 := cell_at htb.mem 0 (by simp)
  have cf0 := htb.free (w.heap.size + 1) (by simp [fp, fpS]) 0
  simp only [Nat.zero_add, List.getElem_cons_zero, List.getElem_cons_succ] at cb0 cb1 ct0
  have HI0 : Hid (∀ W1, Keeps W0 W1 → w.heap.size + 5 + 6 ≤ W1.heap.size → EvI w (w.heap.size + 5) ca cc cs da dc ds u pv 0 W1 (.slice none 0 0)) := fun W1 hk1 hs1 =>
    ⟨HM.out.kept (hk0.trans hk1), (hk0.trans hk1).cell HV.out, hk1.cell ct0, by rw [hk1.oldF _ _ (lt_of_cell ct0)]; exact cf0, LB.nil _ _ _ _ (by omega), hk0.trans hk1⟩
  have HA0 : Hid (AllAt (w.heap.size + 1 + 1) ca cc cs da dc ds u pv W0) := ⟨cb0, cb1, HM.out.kept hk0, hk0.cell HV.out⟩
  clear hW0 hbx htb cf0 cb0 cb1 ct0
  refine wp_range rfl (by omega) (gf := 48) (lb := #[.pointer (some ⟨w.heap.size + 1 + 1, 0, none⟩)]) rfl trivial (enters_of Tryd.func48 (by kernel_rfl) rfl) (fun W => ∃ v, EvI w (w.heap.size + 5) ca cc cs da dc ds u pv (logN (dat cs ds)) W v) (fun _ _ => False) ?_ ?_ ?_
  · intro fn hfn W1 hk1 hs1 hr1
    generalize hR : recOf fn _ _ _ _ _ = R at hr1 ⊢
    have hs1' : W1.heap.size = w.heap.size + 5 := by have := HS0.out; omega
    have hturn : ∀ k W2 W3, ((∃ v, EvI w (w.heap.size + 5) ca cc cs da dc ds u pv k W2 v) ∧ RL R W0.heap.size .ready none W2) → Turn (lown W1.heap.size) W2 W3 → ((∃ v, EvI w (w.heap.size + 5) ca cc cs da dc ds u pv k W3 v) ∧ RL R W0.heap.size .ready none W3) := by
      rintro k W2 W3 ⟨⟨v, h⟩, h'⟩ ht
      rw [hs1'] at ht
      have hs := HS0.out
      exact ⟨⟨v, h.turn ht (fun b hb => by simp at hb; omega) (fun b hb => by simp at hb; omega) (by simp <;> omega) hlt hgl⟩, h'.turn ht (by simp <;> omega) (by simp <;> omega)⟩
    refine (log_in (n - 1) (W0.heap.size + 1) (w.heap.size + 1 + 1) ca cc cs da dc ds u pv (fun k W => (∃ v, EvI w (w.heap.size + 5) ca cc cs da dc ds u pv k W v) ∧ RL R W0.heap.size .ready none W) (fun _ => False) HD.out (by omega) W1 (HA0.out.kept hk1) ?_ hturn ?_ ?_ ?_).mono ?_
    · rintro k W2 ⟨⟨v, h⟩, _⟩
      exact ⟨h.mem, h.err⟩
    · intro W2 W3 hf
      exact hf.elim
    · intro W2 hk2 hs2
      exact ⟨⟨_, HI0.out W2 (hk1.trans hk2) (by omega)⟩, hr1.kept hk2⟩
    · rintro k W2 W3 a c n' hkl hfk hfit ⟨⟨v, h⟩, h'⟩ ht hs2 hac hb
      obtain ⟨⟨v1, h2⟩, hr2⟩ := hturn k W2 W3 ⟨⟨v, h⟩, h'⟩ ht
      have h2 : EvI w (w.heap.size + 5) ca cc cs da dc ds u pv k W3 v := by
        rw [hs1'] at ht
        exact h.turn ht (fun b hb => by simp at hb; omega) (fun b hb => by simp at hb; omega) (by simp <;> omega) hlt hgl
      rw [hs1'] at hs2 ht
      subst hR
      refine YieldAt.mono (yield_round (G := fun W' => (∃ v, EvI w (w.heap.size + 5) ca cc cs da dc ds u pv (k + 1) W' v) ∧ ∃ gs, (∀ b ∈ gs, b < W2.heap.size ∧ (b < w.heap.size + 5 ∨ w.heap.size + 5 + 6 ≤ b)) ∧ Turn gs W3 W') (Gx := fun _ _ => False) hfn hr2 rfl ?_) ?_
      · generalize recOf fn _ _ _ _ _ = R at hr2 ⊢
        gi_wp2
        have hka := Keeps.alloc (Keeps.refl W3) (.cells #[.int .i64 (srQ (readL (dat cs ds) k)), .int .i64 (srE (readL (dat cs ds) k)), .slice a (srL (readL (dat cs ds) k)).length c] 52)
        have hbo := (born_alloc W3 #[.int .i64 (srQ (readL (dat cs ds) k)), .int .i64 (srE (readL (dat cs ds) k)), .slice a (srL (readL (dat cs ds) k)).length c] 52).toOwn
        generalize W3.alloc (.cells #[.int .i64 (srQ (readL (dat cs ds) k)), .int .i64 (srE (readL (dat cs ds) k)), .slice a (srL (readL (dat cs ds) k)).length c] 52) = W4 at *
        refine ⟨hr2.kept hka, fun W5 ht5 hr5 => ?_⟩
        have hl2 := hr2.lt
        have hz := HS0.out
        have hb5 := hbo.turn ht5 (fun x hx hy => by simp [fp, fpS] at hx hy; omega)
        have h5 := (h2.later hka).turn ht5 (fun b hb => by simp at hb; omega) (fun b hb => by simp at hb; omega) (by simp <;> omega) hlt hgl
        have hT : Turn (lown (w.heap.size + 5) ++ [W0.heap.size + 1]) W2 W5 := (ht.trans (Turn.of_keeps hka [])).mono (by simp) |>.trans ht5
        have HT3 : Hid (Turn [W0.heap.size + 1] W3 W5) := ((Turn.of_keeps hka []).trans ht5).mono (by simp)
        have HBE := hide (bodyevent_any a (srL (readL (dat cs ds) k)) c W5 u pv h5.err (((hb.kept hka).toOwn.turn ht5 (fun x hx hy => by have := hb.new x hx; simp at hy; omega)).one) hac (Nat.le_trans (srL_len _) (by decide)))
        have s2 := cell_at hb5.mem 2 (by simp)
        simp only [Nat.zero_add, List.getElem_cons_zero, List.getElem_cons_succ] at s2
        have HT := hide hT
        have H2 := hide h
        have H5 := hide h5
        have HR5 := hide hr5
        clear h h2 hr2 hka hbo ht5 hr5 h5 hT hb hb5 hl2 ht
        gi_wp2
        refine ⟨trivial, nofun, (CallsIn.inRound _ (callsIn_wide.2 HBE.out)).mono ?_⟩
        rintro e W6 ⟨rfl, hk6⟩
        clear HBE s2
        rw [ebV_eq]
        generalize hx : ebE (srL (readL (dat cs ds) k)) = x
        have HX := hide hx
        have hk7 := hk6.trans (Keeps.alloc (Keeps.refl W6) (.cells #[.int .i64 x.k, .int .i64 x.y, .int .i64 x.c, .int .i64 x.t, .int .i64 x.m, .int .i64 x.f, .bool x.b] 70))
        have H7 := hide (H5.out.later hk7)
        have HK7 := hide hk7
        have hl5 := HR5.out.lt
        clear hx
        have hev := (born_alloc W6 #[.int .i64 x.k, .int .i64 x.y, .int .i64 x.c, .int .i64 x.t, .int .i64 x.m, .int .i64 x.f, .bool x.b] 70).toOwn
        cases hB : ebB (srL (readL (dat cs ds) k))
        · clear hk6 hk7 hev
          gi_wp2
          refine ⟨HR5.out.kept HK7.out, fun W8 ht8 => ⟨⟨v, ?_⟩, [W0.heap.size + 1], ?_, ?_⟩⟩
          · have h8 := H7.out.turn ht8 (fun b hb => by simp at hb; omega) (fun b hb => by simp at hb; omega) (by simp <;> omega) hlt hgl
            exact ⟨h8.mem, h8.err, h8.box, h8.free, by rw [evsTo_no hB]; exact h8.list, h8.kept⟩
          · intro b hb
            have : b = W0.heap.size + 1 := by simpa using hb
            omega
          · exact ((HT3.out.trans (Turn.of_keeps HK7.out [])).trans ht8).mono (by simp)
        · obtain ⟨ln, hln⟩ : ∃ ln, (evsTo (dat cs ds) k).length = ln := ⟨_, rfl⟩
          have hll := evsTo_len (dat cs ds) k
          rw [hln] at hll
          have hown := H7.out.list.row
          rw [hln] at hown
          obtain ⟨v', w8, e8, hr8, hg8, hv8⟩ := run_event (W6.alloc (.cells #[.int .i64 x.k, .int .i64 x.y, .int .i64 x.c, .int .i64 x.t, .int .i64 x.m, .int .i64 x.f, .bool x.b] 70)) (w.heap.size + 5 + 6) v ln _ x 41 hown (by omega) H7.out.list.size
          obtain ⟨g', cap', rfl⟩ := ownsRow_succ hr8
          have htv : Turn v.ownBlock.toList ((W6.alloc (.cells #[.int .i64 x.k, .int .i64 x.y, .int .i64 x.c, .int .i64 x.t, .int .i64 x.m, .int .i64 x.f, .bool x.b] 70)).alloc (.cells #[.int .i64 x.k, .int .i64 x.y, .int .i64 x.c, .int .i64 x.t, .int .i64 x.m, .int .i64 x.f, .bool x.b] 70)) w8 := Turn.of_grown hg8 (fun k hk' => by rw [hk']; simp)
          have hvb : ∀ b ∈ v.ownBlock.toList, w.heap.size + 5 + 6 ≤ b ∧ b < W2.heap.size := fun b hb => H2.out.list.row.lt b (by simpa using hb)
          have T8 : Turn v.ownBlock.toList (W6.alloc (.cells #[.int .i64 x.k, .int .i64 x.y, .int .i64 x.c, .int .i64 x.t, .int .i64 x.m, .int .i64 x.f, .bool x.b] 70)) w8 := ((Turn.of_keeps (Keeps.alloc (Keeps.refl (W6.alloc (.cells #[.int .i64 x.k, .int .i64 x.y, .int .i64 x.c, .int .i64 x.t, .int .i64 x.m, .int .i64 x.f, .bool x.b] 70))) (.cells #[.int .i64 x.k, .int .i64 x.y, .int .i64 x.c, .int .i64 x.t, .int .i64 x.m, .int .i64 x.f, .bool x.b] 70)) []).trans htv).mono (by simp)
          have b8 := T8.cell (p := ⟨w.heap.size + 1, 0, none⟩) (fun hx => by have := hvb _ hx; dsimp only at this; omega) H7.out.box
          have f8 : w8.frozen? ⟨w.heap.size + 1, 0, none⟩ = false := by rw [← H7.out.free]; exact World.frozen?_of_block (T8.block _ (lt_of_cell H7.out.box) (fun hx => by have := hvb _ hx; dsimp only at this; omega))
          have HL8 := hide (H2.out.list.snoc (x := x) (HT.out.trans (Turn.of_keeps hk7 [])) (fun b hb => by simp at hb; omega) (own_none _ x) (fun b hb' => by simp [fp, fpS, Ev.seg] at hb') hg8 (by rw [hln]; exact hr8) hv8)
          have HT8 := hide T8
          have HVB := hide hvb
          simp only [World.size_alloc] at e8
          have HE8 := hide e8
          have t0 := H7.out.box
          have hev0 := cell_at hev.mem 0 (by simp)
          have hev1 := cell_at hev.mem 1 (by simp)
          have hev2 := cell_at hev.mem 2 (by simp)
          have hev3 := cell_at hev.mem 3 (by simp)
          have hev4 := cell_at hev.mem 4 (by simp)
          have hev5 := cell_at hev.mem 5 (by simp)
          have hev6 := cell_at hev.mem 6 (by simp)
          simp only [Nat.zero_add, List.getElem_cons_zero, List.getElem_cons_succ] at hev0 hev1 hev2 hev3 hev4 hev5 hev6
          have hsz8 : W6.heap.size ≤ w8.heap.size := by have := T8.size; rw [World.size_alloc] at this; omega
          clear hown e8 hr8 hg8 hv8 htv hvb T8 hk6 hk7 hev
          gi_wp2_with (gi_at_builtin; refine wpListIn_append_run _ rfl (.tmp 17) (.tmp 19) 41 rfl _ _ rfl rfl _ _ HE8.out ?_)
          have T : Turn (v.ownBlock.toList ++ [w.heap.size + 1]) (W6.alloc (.cells #[.int .i64 x.k, .int .i64 x.y, .int .i64 x.c, .int .i64 x.t, .int .i64 x.m, .int .i64 x.f, .bool x.b] 70)) (w8.setCell ⟨w.heap.size + 1, 0, none⟩ (.slice (some ⟨g', 0, none⟩) (ln + 1) cap')) := HT8.out.trans (Turn.set (by simp) _)
          have hT1 : ∀ b ∈ v.ownBlock.toList ++ [w.heap.size + 1], (w.heap.size + 5 + 6 ≤ b ∧ b < W2.heap.size) ∨ b = w.heap.size + 1 := fun b hb => by
            rcases List.mem_append.1 hb with hb | hb
            · exact .inl (HVB.out b hb)
            · exact .inr (by simpa using hb)
          refine ⟨(HR5.out.kept HK7.out).turn T (fun hx => by have := hT1 _ hx; omega) (fun hx => by have := hT1 _ hx; omega), fun W9 ht9 => ⟨?_, [W0.heap.size + 1] ++ (v.ownBlock.toList ++ [w.heap.size + 1]), ?_, ?_⟩⟩
          · have h9 : EvI w (w.heap.size + 5) ca cc cs da dc ds u pv (k + 1) (w8.setCell ⟨w.heap.size + 1, 0, none⟩ (.slice (some ⟨g', 0, none⟩) (ln + 1) cap')) (.slice (some ⟨g', 0, none⟩) (ln + 1) cap') :=
              ⟨H7.out.mem.turn T (fun x hx hy => by have := hlt x hx; have := hT1 x hy; omega), T.cell (fun hy => by have := hT1 _ hy; dsimp only at this; omega) H7.out.err, World.cell?_setCell_same _ _ _ b8, by rw [World.frozen?_setCell]; exact f8,
               by rw [evsTo_yes hB, HX.out]; exact HL8.out.turn (Turn.set (fs := [w.heap.size + 1]) (by simp) _) (fun b hb => by simp at hb; omega), T.keeps H7.out.kept (fun b hb => by have := hT1 b hb; omega)⟩
            exact ⟨_, h9.turn ht9 (fun b hb => by simp at hb; omega) (fun b hb => by simp at hb; omega) (by simp <;> omega) hlt hgl⟩
          · intro b hb
            rcases List.mem_append.1 hb with hb | hb
            · have : b = W0.heap.size + 1 := by simpa using hb
              omega
            · have := hT1 b hb
              omega
          · exact (((HT3.out.trans (Turn.of_keeps HK7.out [])).mono (gs := [W0.heap.size + 1]) (by simp)).trans T |>.trans ht9).mono (fun x hx => by rcases List.mem_append.1 hx with hx | hx; exact hx; exact List.mem_append_left _ hx)
      · rintro e W'' (⟨he, hg, hr⟩ | ⟨_, _, hf, _⟩)
        · refine ⟨.inl ⟨he, hg.1, hr⟩, ?_⟩
          obtain ⟨gs, h1, h2⟩ := hg.2
          exact ⟨gs, fun b hb => by have := h1 b hb; omega, h2⟩
        · exact hf.elim
    · rintro e W2 ⟨hv, W3, (⟨⟨v, h⟩, h'⟩ | hf), ht⟩
      · have hz := HS0.out
        rw [hs1'] at ht
        exact ⟨hv, .inl ⟨⟨v, h.turn ht (fun b hb => by simp at hb; omega) (fun b hb => by simp at hb; omega) (by simp <;> omega) hlt hgl⟩, h'.turn ht (by simp <;> omega) (by simp <;> omega)⟩⟩
      · exact hf.elim
  · rintro W W' ⟨v, hG⟩ ht hK
    have hz := HS0.out
    have h2 := hG.turn ht (fun b hb => by simp at hb; omega) (fun b hb => by simp at hb; omega) (by simp <;> omega) hlt hgl
    obtain ⟨a, cap, rfl, hna, ho, hnew⟩ := h2.list.born
    have t0 := h2.box
    have HI := hide h2
    have HO := hide ho
    have HN := hide hnew
    clear h2 ho hnew hG ht
    gi_wp2
    refine ⟨by simp, .inl ⟨_, _, rfl, run_takeDeferred hK, ?_⟩⟩
    have T : Turn [W0.heap.size] W' (W'.putObj W0.heap.size (.deferred none)) := turn_putObj _ _ _
    have ho2 := HO.out.turn T (fun b hb hx => by have := HN.out b hb; simp at hx; omega)
    refine ⟨.slice a (evsTo (dat cs ds) (logN (dat cs ds))).length cap, by simp [results, Tryd.results18, go_sem], a, cap, rfl, ⟨Own.left (S := [_]) (T := (evsTo (dat cs ds) (logN (dat cs ds))).map Ev.seg) ho2, fun b hb => ?_⟩, ?_⟩
    · have := HN.out b (by rw [fp_cons]; rw [fp_one] at hb; exact List.mem_append_left _ hb)
      omega
    · exact T.keeps HI.out.kept (fun b hb => by simp at hb; omega)
  · intro c W W' hf
    exact hf.elim
end Go.Proofs.YtkdnddckogbgaaaDoor
