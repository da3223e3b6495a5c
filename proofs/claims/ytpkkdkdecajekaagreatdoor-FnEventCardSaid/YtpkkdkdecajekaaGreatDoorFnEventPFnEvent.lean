/- FnEvent: events are read as they were written. -/
import Derived.Test.YtpkkdkdecajekaaGreatDoorPFnEvent12
import Derived.Test.YtpkkdkdecajekaaGreatDoorPFnEvent5
import Derived.Test.YtpkkdkdecajekaaGreatDoorPFnEvent7
import Derived.Test.YtpkkdkdecajekaaGreatDoorPFnEvent8
import Derived.Test.YtpkkdkdecajekaaGreatDoorPFnEvent10
import Derived.Test.YtpkkdkdecajekaaGreatDoorPFnEvent1
import Derived.Test.YtpkkdkdecajekaaGreatDoorPFnEvent2
import Derived.Test.YtpkkdkdecajekaaGreatDoorCards
import Derived.Test.YtpkkdkdecajekaaGreatDoorTie
import Derived.Shelf.Vars
import Derived.Lay
import Derived.WalkKit
import Derived.ProofKit
import Derived.OpenShut
import Derived.ShutString
import Derived.LaidMore
import Derived.Stop.Joined
import Derived.SevenTiedAt
import Derived.ChangeOld
import Derived.Below
namespace Go.Proofs.YtpkkdkdecajekaaGreatDoor.fnEvent
open Go.ChangeShapes Go.WideShapes Go.ChangeAt Go.RowKit
open Go.ChangeMaps (open_string shut_string)
set_option linter.unusedVariables false
theorem own : ownKnob Tryz.prog.godebug = none := by kernel_rfl
theorem laidOut : laidOutB Tryz.prog = true := by kernel_rfl
theorem gRange : Tryz.prog.globalNamed "strconv.ErrRange" = some 6 := by kernel_rfl
theorem tRange : (Tryz.prog.globals[6]?).map (·.type) = some 92 := by kernel_rfl
theorem gSyntax : Tryz.prog.globalNamed "strconv.ErrSyntax" = some 5 := by kernel_rfl
theorem tSyntax : (Tryz.prog.globals[5]?).map (·.type) = some 92 := by kernel_rfl
theorem gGaveUp : Tryz.prog.globalNamed "loop.example/g00400/impl.errGaveUp" = some 0 := by kernel_rfl
theorem tGaveUp : (Tryz.prog.globals[0]?).map (·.type) = some 92 := by kernel_rfl

theorem evT_size {k y c t m f : Int} {b : Bool} (h : evB k y c t m f b = true) : 0 < (evT k y c t m f b).length ∧ (evT k y c t m f b).length ≤ 1000 := by
  obtain ⟨⟨k1, k2⟩, _⟩ := ev_bounds h
  have n1 := numT_len y
  have n2 := numT_len c
  have n3 := numT_len t
  have n4 := numT_len m
  have n5 := numT_len f
  have hk : k = 1 ∨ k = 2 ∨ k = 3 ∨ k = 4 ∨ k = 5 ∨ k = 6 ∨ k = 7 ∨ k = 8 ∨ k = 9 ∨ k = 10 ∨ k = 11 := by omega
  rcases hk with rfl | rfl | rfl | rfl | rfl | rfl | rfl | rfl | rfl | rfl | rfl
  all_goals simp [evT, evW, join]
  all_goals try omega
  all_goals (cases b <;> simp <;> omega)
theorem te_yes {s : ByteArray} {k y c t m f : Int} {b : Bool} (h : evB k y c t m f b = true) (e : evT k y c t m f b = s.data.toList) {x : Ending} (hx : TePost s x) : x = .returned (.tuple #[evV k y c t m f b, .bool true]) :=
  te_same hx (.inl ⟨k, y, c, t, m, f, b, h, e, rfl⟩)
theorem te_none {x : Ending} (hx : TePost ⟨#[]⟩ x) : x = .returned (.tuple #[evV 0 0 0 0 0 0 false, .bool false]) :=
  te_same hx (.inr ⟨fun k y c t m f b h e => by have := (evT_size h).1; rw [e] at this; simp at this, rfl⟩)
theorem bodyevent_own (v : Value) (L : List UInt8) (base : Nat) (w : World) (u : TypeId) (pv : Value) (hv : w.cell? ⟨0, 0, none⟩ = some (.iface u pv)) (ho : OwnsB w base v L) (hl : L.length ≤ 16777216) :
    Calls Tryz.prog 9 #[v] w fun e w' => e = .returned (.tuple #[ebV L, .bool (ebB L)]) ∧ Keeps w w' := by
  obtain ⟨a, cap, e1, e2, e3, e4, e5, _⟩ := Own.of_owns ho
  have hc := e5.one
  rcases ho.2 with ⟨rfl, _⟩ | ⟨g, c, _, rfl, _⟩
  · have h1 : L = [] := by
      injection e1 with e6 e7 e8
      exact List.length_eq_zero_iff.1 e7.symm
    subst h1
    have hB : ebB [] = false := ebB_len (by simp)
    rw [ebV_no hB, hB]
    exact bodyevent_len none [] 0 w u pv hv (by simp) (by simp)
  · injection e1 with e6 e7 e8
    rw [← e6] at hc
    rw [← e8] at e2 e3
    exact bodyevent_impl g 0 L c w u pv hv hc hl e2 (Nat.le_trans e3 (by decide))
theorem evEq_refl (k y c t m f : Int) (b : Bool) : evEq k y c t m f b k y c t m f b = true := by simp [evEq]
set_option maxRecDepth 100000 in
set_option maxHeartbeats 8000000 in
theorem walk (a : Option Addr) (len cap : Nat) (w : World) (hr : RowAt w.heap.size w a len) (he : Env w) (u : TypeId) (pv : Value) (hv : w.cell? ⟨0, 0, none⟩ = some (.iface u pv)) (mx : Int) (hm : w.cell? ⟨2, 0, none⟩ = some (.int .i64 mx)) :
    Calls Tryz.prog 3 #[.slice a len cap] w fun e w' => e = .returned (.bool true) ∧ Keeps w w' := by
  have HV := hide hv
  have HEn := hide he
  have HMx := hide hm
  have HRw := hide hr
  clear hv hr he hm
  by_cases hl : 1048576 < len
  · go_enter Tryz.func3, Tryz.ntmps3
    go_wp2_with fail
    go_ret
    exact ⟨rfl, Keeps.refl _⟩
  · have HDr := hide (draw_evb a len cap w HRw.out (by omega))
    clear HRw
    go_enter Tryz.func3, Tryz.ntmps3
    go_wp2_with fail
    refine (unhide HDr).mono ?_
    rintro x w1 ⟨⟨k, y, c, t, m, f, b, rfl⟩, hk1⟩
    have hkA := Keeps.alloc (Keeps.refl w1) (.cells #[.int .i64 k, .int .i64 y, .int .i64 c, .int .i64 t, .int .i64 m, .int .i64 f, .bool b] 24)
    have HK := hide (hk1.trans hkA)
    have hbX := born_alloc w1 #[.int .i64 k, .int .i64 y, .int .i64 c, .int .i64 t, .int .i64 m, .int .i64 f, .bool b] 24
    have e0 := cell_at hbX.mem 0 (by simp)
    have e1 := cell_at hbX.mem 1 (by simp)
    have e2 := cell_at hbX.mem 2 (by simp)
    have e3 := cell_at hbX.mem 3 (by simp)
    have e4 := cell_at hbX.mem 4 (by simp)
    have e5 := cell_at hbX.mem 5 (by simp)
    have e6 := cell_at hbX.mem 6 (by simp)
    simp only [Nat.zero_add, List.getElem_cons_zero, List.getElem_cons_succ] at e0 e1 e2 e3 e4 e5 e6
    clear HDr hk1 hkA hbX
    go_wp2_with fail
    generalize w1.alloc (.cells #[.int .i64 k, .int .i64 y, .int .i64 c, .int .i64 t, .int .i64 m, .int .i64 f, .bool b] 24) = W1 at *
    generalize w1.heap.size = bE at *
    refine (body_impl k y c t m f b W1).mono ?_
    rintro x w2 ⟨v, rfl, ho, hk⟩
    replace e0 := hk.cell e0
    replace e1 := hk.cell e1
    replace e2 := hk.cell e2
    replace e3 := hk.cell e3
    replace e4 := hk.cell e4
    replace e5 := hk.cell e5
    replace e6 := hk.cell e6
    replace HK := hide (HK.out.trans hk)
    have HO := hide ho
    clear hk ho
    go_wp2_with fail
    refine (etx_impl k y c t m f b w2 (HEn.out.kept HK.out).tab).mono ?_
    rintro x w3 ⟨rfl, hk⟩
    replace e0 := hk.cell e0
    replace e1 := hk.cell e1
    replace e2 := hk.cell e2
    replace e3 := hk.cell e3
    replace e4 := hk.cell e4
    replace e5 := hk.cell e5
    replace e6 := hk.cell e6
    replace HK := hide (HK.out.trans hk)
    have HO3 := hide (owns_keptS hk HO.out)
    clear hk HO
    have HBE : Hid (∀ W, Keeps w W → OwnsB W W1.heap.size v (bodyR k y c t m f b) → Calls Tryz.prog 9 #[v] W fun e w' => e = .returned (.tuple #[ebV (bodyR k y c t m f b), .bool (ebB (bodyR k y c t m f b))]) ∧ Keeps W w') :=
      fun W hk ho => bodyevent_own v _ _ W u pv (hk.cell HV.out) ho (Nat.le_trans (bodyR_length k y c t m f b) (by decide))
    have HEO := hide (evok_spec k y c t m f b)
    cases hB : evB k y c t m f b
    · have hL : bodyR k y c t m f b = [] := by unfold bodyR; rw [hB]; rfl
      have hZ : ebB [] = false := ebB_len (by simp)
      rw [hB] at HEO
      rw [hL, ebV_no hZ, hZ] at HBE
      rw [hL] at HO3
      have HTE := hide (fun W hk => te_impl ⟨#[]⟩ W (by decide) (HEn.out.kept (w' := W) hk) mx (hk.cell HMx.out))
      have hS : (⟨(etL k y c t m f b).toArray⟩ : ByteArray) = ⟨#[]⟩ := by unfold etL; rw [hB]; rfl
      rw [hS]
      clear hS hL hZ hB HV HMx HEn
      have HTX : Hid (∀ {x : Ending}, TePost ⟨#[]⟩ x → x = .returned (.tuple #[evV 0 0 0 0 0 0 false, .bool false])) := fun h => te_none h
      go_wp2_with fail
      refine (HEO.out _).mono ?_
      rintro x w4 ⟨rfl, hk⟩
      replace e0 := hk.cell e0
      replace e1 := hk.cell e1
      replace e2 := hk.cell e2
      replace e3 := hk.cell e3
      replace e4 := hk.cell e4
      replace e5 := hk.cell e5
      replace e6 := hk.cell e6
      replace HK := hide (HK.out.trans hk)
      replace HO3 := hide (owns_keptS hk HO3.out)
      clear hk HEO
      go_wp2_with fail
      refine (HBE.out w4 HK.out HO3.out).mono ?_
      rintro x w5 ⟨rfl, hk⟩
      replace e0 := hk.cell e0
      replace e1 := hk.cell e1
      replace e2 := hk.cell e2
      replace e3 := hk.cell e3
      replace e4 := hk.cell e4
      replace e5 := hk.cell e5
      replace e6 := hk.cell e6
      replace HK := hide (HK.out.trans hk)
      clear hk HBE HO3
      have hk := Keeps.alloc (Keeps.refl w5) (.cells #[.int .i64 0, .int .i64 0, .int .i64 0, .int .i64 0, .int .i64 0, .int .i64 0, .bool false] 24)
      replace e0 := hk.cell e0
      replace e1 := hk.cell e1
      replace e2 := hk.cell e2
      replace e3 := hk.cell e3
      replace e4 := hk.cell e4
      replace e5 := hk.cell e5
      replace e6 := hk.cell e6
      replace HK := hide (HK.out.trans hk)
      have hbX := born_alloc w5 #[.int .i64 0, .int .i64 0, .int .i64 0, .int .i64 0, .int .i64 0, .int .i64 0, .bool false] 24
      have x0 := cell_at hbX.mem 0 (by simp)
      have x1 := cell_at hbX.mem 1 (by simp)
      have x2 := cell_at hbX.mem 2 (by simp)
      have x3 := cell_at hbX.mem 3 (by simp)
      have x4 := cell_at hbX.mem 4 (by simp)
      have x5 := cell_at hbX.mem 5 (by simp)
      have x6 := cell_at hbX.mem 6 (by simp)
      simp only [Nat.zero_add, List.getElem_cons_zero, List.getElem_cons_succ] at x0 x1 x2 x3 x4 x5 x6
      clear hk hbX
      go_wp2_with fail
      generalize w5.alloc (.cells #[.int .i64 0, .int .i64 0, .int .i64 0, .int .i64 0, .int .i64 0, .int .i64 0, .bool false] 24) = W5 at *
      generalize w5.heap.size = bX at *
      refine (HTE.out W5 HK.out).mono ?_
      rintro x w6 ⟨hx, hk⟩
      obtain rfl := HTX.out hx
      replace e0 := hk.cell e0
      replace e1 := hk.cell e1
      replace e2 := hk.cell e2
      replace e3 := hk.cell e3
      replace e4 := hk.cell e4
      replace e5 := hk.cell e5
      replace e6 := hk.cell e6
      replace x0 := hk.cell x0
      replace x1 := hk.cell x1
      replace x2 := hk.cell x2
      replace x3 := hk.cell x3
      replace x4 := hk.cell x4
      replace x5 := hk.cell x5
      replace x6 := hk.cell x6
      replace HK := hide (HK.out.trans hk)
      clear hk hx HTE HTX
      have hk := Keeps.alloc (Keeps.refl w6) (.cells #[.int .i64 0, .int .i64 0, .int .i64 0, .int .i64 0, .int .i64 0, .int .i64 0, .bool false] 24)
      replace e0 := hk.cell e0
      replace e1 := hk.cell e1
      replace e2 := hk.cell e2
      replace e3 := hk.cell e3
      replace e4 := hk.cell e4
      replace e5 := hk.cell e5
      replace e6 := hk.cell e6
      replace x0 := hk.cell x0
      replace x1 := hk.cell x1
      replace x2 := hk.cell x2
      replace x3 := hk.cell x3
      replace x4 := hk.cell x4
      replace x5 := hk.cell x5
      replace x6 := hk.cell x6
      replace HK := hide (HK.out.trans hk)
      have hbX := born_alloc w6 #[.int .i64 0, .int .i64 0, .int .i64 0, .int .i64 0, .int .i64 0, .int .i64 0, .bool false] 24
      have y0 := cell_at hbX.mem 0 (by simp)
      have y1 := cell_at hbX.mem 1 (by simp)
      have y2 := cell_at hbX.mem 2 (by simp)
      have y3 := cell_at hbX.mem 3 (by simp)
      have y4 := cell_at hbX.mem 4 (by simp)
      have y5 := cell_at hbX.mem 5 (by simp)
      have y6 := cell_at hbX.mem 6 (by simp)
      simp only [Nat.zero_add, List.getElem_cons_zero, List.getElem_cons_succ] at y0 y1 y2 y3 y4 y5 y6
      clear hk hbX
      go_wp2_with fail
      go_ret
      exact ⟨rfl, HK.out⟩
    · obtain ⟨b1, b2, _⟩ := body_back hB
      have hE : ebV (bodyR k y c t m f b) = evV k y c t m f b := by rw [ebV_eq, b2]
      rw [hB] at HEO
      rw [hE, b1] at HBE
      have hS : (⟨(etL k y c t m f b).toArray⟩ : ByteArray) = ⟨(evT k y c t m f b).toArray⟩ := by unfold etL; rw [hB]; rfl
      rw [hS]
      obtain ⟨s1, s2⟩ := evT_size hB
      obtain ⟨T, hT⟩ : ∃ T : ByteArray, (⟨(evT k y c t m f b).toArray⟩ : ByteArray) = T := ⟨_, rfl⟩
      have hTe : evT k y c t m f b = T.data.toList := by rw [← hT]
      have hTs : T.size ≤ 1048576 := by rw [← hT]; show (evT k y c t m f b).toArray.size ≤ 1048576; simp; omega
      have hTn : T.toList.isEmpty = false := by
        rw [toList_data, ← hTe]
        cases h : evT k y c t m f b with
        | nil => rw [h] at s1; simp at s1
        | cons _ _ => rfl
      have HTX : Hid (∀ {x : Ending}, TePost T x → x = .returned (.tuple #[evV k y c t m f b, .bool true])) := fun h => te_yes hB hTe h
      have HTE := hide (fun W hk => te_impl T W hTs (HEn.out.kept (w' := W) hk) mx (hk.cell HMx.out))
      rw [hT]
      clear hS hT hTe hTs s1 s2 b1 b2 hE hB HV HMx HEn
      go_wp2_with fail
      refine (HEO.out _).mono ?_
      rintro x w4 ⟨rfl, hk⟩
      replace e0 := hk.cell e0
      replace e1 := hk.cell e1
      replace e2 := hk.cell e2
      replace e3 := hk.cell e3
      replace e4 := hk.cell e4
      replace e5 := hk.cell e5
      replace e6 := hk.cell e6
      replace HK := hide (HK.out.trans hk)
      replace HO3 := hide (owns_keptS hk HO3.out)
      clear hk HEO
      go_wp2_with fail
      refine (HBE.out w4 HK.out HO3.out).mono ?_
      rintro x w5 ⟨rfl, hk⟩
      replace e0 := hk.cell e0
      replace e1 := hk.cell e1
      replace e2 := hk.cell e2
      replace e3 := hk.cell e3
      replace e4 := hk.cell e4
      replace e5 := hk.cell e5
      replace e6 := hk.cell e6
      replace HK := hide (HK.out.trans hk)
      clear hk HBE HO3
      have hk := Keeps.alloc (Keeps.refl w5) (.cells #[.int .i64 k, .int .i64 y, .int .i64 c, .int .i64 t, .int .i64 m, .int .i64 f, .bool b] 24)
      replace e0 := hk.cell e0
      replace e1 := hk.cell e1
      replace e2 := hk.cell e2
      replace e3 := hk.cell e3
      replace e4 := hk.cell e4
      replace e5 := hk.cell e5
      replace e6 := hk.cell e6
      replace HK := hide (HK.out.trans hk)
      have hbX := born_alloc w5 #[.int .i64 k, .int .i64 y, .int .i64 c, .int .i64 t, .int .i64 m, .int .i64 f, .bool b] 24
      have x0 := cell_at hbX.mem 0 (by simp)
      have x1 := cell_at hbX.mem 1 (by simp)
      have x2 := cell_at hbX.mem 2 (by simp)
      have x3 := cell_at hbX.mem 3 (by simp)
      have x4 := cell_at hbX.mem 4 (by simp)
      have x5 := cell_at hbX.mem 5 (by simp)
      have x6 := cell_at hbX.mem 6 (by simp)
      simp only [Nat.zero_add, List.getElem_cons_zero, List.getElem_cons_succ] at x0 x1 x2 x3 x4 x5 x6
      clear hk hbX
      go_wp2_with fail
      generalize w5.alloc (.cells #[.int .i64 k, .int .i64 y, .int .i64 c, .int .i64 t, .int .i64 m, .int .i64 f, .bool b] 24) = W5 at *
      generalize w5.heap.size = bX at *
      refine (HTE.out W5 HK.out).mono ?_
      rintro x w6 ⟨hx, hk⟩
      obtain rfl := HTX.out hx
      replace e0 := hk.cell e0
      replace e1 := hk.cell e1
      replace e2 := hk.cell e2
      replace e3 := hk.cell e3
      replace e4 := hk.cell e4
      replace e5 := hk.cell e5
      replace e6 := hk.cell e6
      replace x0 := hk.cell x0
      replace x1 := hk.cell x1
      replace x2 := hk.cell x2
      replace x3 := hk.cell x3
      replace x4 := hk.cell x4
      replace x5 := hk.cell x5
      replace x6 := hk.cell x6
      replace HK := hide (HK.out.trans hk)
      clear hk hx HTE HTX
      have hk := Keeps.alloc (Keeps.refl w6) (.cells #[.int .i64 k, .int .i64 y, .int .i64 c, .int .i64 t, .int .i64 m, .int .i64 f, .bool b] 24)
      replace e0 := hk.cell e0
      replace e1 := hk.cell e1
      replace e2 := hk.cell e2
      replace e3 := hk.cell e3
      replace e4 := hk.cell e4
      replace e5 := hk.cell e5
      replace e6 := hk.cell e6
      replace x0 := hk.cell x0
      replace x1 := hk.cell x1
      replace x2 := hk.cell x2
      replace x3 := hk.cell x3
      replace x4 := hk.cell x4
      replace x5 := hk.cell x5
      replace x6 := hk.cell x6
      replace HK := hide (HK.out.trans hk)
      have hbX := born_alloc w6 #[.int .i64 k, .int .i64 y, .int .i64 c, .int .i64 t, .int .i64 m, .int .i64 f, .bool b] 24
      have y0 := cell_at hbX.mem 0 (by simp)
      have y1 := cell_at hbX.mem 1 (by simp)
      have y2 := cell_at hbX.mem 2 (by simp)
      have y3 := cell_at hbX.mem 3 (by simp)
      have y4 := cell_at hbX.mem 4 (by simp)
      have y5 := cell_at hbX.mem 5 (by simp)
      have y6 := cell_at hbX.mem 6 (by simp)
      simp only [Nat.zero_add, List.getElem_cons_zero, List.getElem_cons_succ] at y0 y1 y2 y3 y4 y5 y6
      clear hk hbX
      have hq : ∀ W : World, (binOp .eql 24 (.agg #[.int .i64 k, .int .i64 y, .int .i64 c, .int .i64 t, .int .i64 m, .int .i64 f, .bool b]) (.agg #[.int .i64 k, .int .i64 y, .int .i64 c, .int .i64 t, .int .i64 m, .int .i64 f, .bool b])).run Tryz.prog W = .ok (.bool true) W := fun W => by have h := ev_eql k y c t m f b k y c t m f b W; rw [evEq_refl] at h; exact h
      go_wp2_with fail
      go_ret
      exact ⟨rfl, HK.out⟩

/-- The wrap for laid variables, the world's shape kept. -/
theorem of_and_shaped {H : Type} {enc : TypeId × Value → H} {a : Assume} {C : Checked} {os : Os} {f : FuncId} {fn : Func} {s : ChangeSpec} {conds : List PathCond} {apart fresh handsOn again : Bool} {X : World → Array Value → Prop}
    (hX : ∀ (w w' : World) (args : Array Value), w.heap = w'.heap → X w args → X w' args)
    (own : ownKnob C.prog.godebug = none) (started : os.Started) (noInit : C.prog.inits.idxOf? f = none) (hfn : C.prog.funcs[f]? = some fn)
    (witness : ∃ (w : World) (tape : Tape) (i : Input), w.os = os ∧ (w.forCall tape i).Shaped C.prog ∧ i.vars = [] ∧ Input.okWide C.prog (w.forCall tape i) .any w.heap.size f i ∧
      ((s.pre enc C.prog fn conds apart (w.forCall tape i).memory i.args ∧ X (w.forCall tape i).memory i.args) ∧ sizedMet enc C.prog fn (OpenSpec.ofChange s) apart (w.forCall tape i).memory i.args) ∧ a.holds C.prog (lone (Frame.enter C.prog f i.args .normal) [] (w.forCall tape i)))
    (contract : ∀ (W : World) (base : Nat) (args : Array Value) (ds gs : List (DataW H)) (before : List MemPlace),
      (∀ (j : Nat) t v, fn.params[j]? = some t → args[j]? = some v → Value.okWide C.prog W .any base t v) →
      DataW.Whole enc C.prog fn.params.toList s.vars apart W args.toList ds gs before →
      X W args → W.ShapedOpen C.prog →
      Calls C.prog f args W fun e W' => ∃ v, e = .returned v ∧ s.post enc C.prog fn apart fresh handsOn again W args v W') :
    ReturnsInHanded a C os f .any (fun w args => (s.pre enc C.prog fn conds apart w args ∧ X w args) ∧ sizedMet enc C.prog fn (OpenSpec.ofChange s) apart w args) (s.post enc C.prog fn apart fresh handsOn again) := by
  refine returnsInHanded_of_calls own started noInit witness ?_
  intro w tape i _ hsh _ hok hpre _
  obtain ⟨_, _, _, fn', hfn', _, _, _, _, hval⟩ := hok
  obtain rfl : fn' = fn := Option.some.inj (hfn'.symm.trans hfn)
  obtain ⟨⟨⟨ds, gs, before, hw, _⟩, hx⟩, _⟩ := hpre
  refine (contract (w.forCall tape i) w.heap.size i.args ds gs before hval (DataW.Whole.of_heap (w' := w.forCall tape i) (by rfl) hw) (hX _ _ _ (by rfl) hx) hsh).mono fun e W' ⟨v, he, hp⟩ => ?_
  subst he
  exact ChangeSpec.post_blind hp
theorem max_len (w : World) (h : w.ShapedOpen Tryz.prog) : ∃ m, w.cell? ⟨2, 0, none⟩ = some (.int .i64 m) :=
  Go.Proofs.cell_of_shapedOpen_int (zero := #[.int .i64 0]) (t := 3) h (of_decide_eq_true (by kernel_rfl)) (by kernel_rfl) rfl (by kernel_rfl) (by kernel_rfl) Tryz.underlying3
set_option maxRecDepth 100000 in
theorem lifted (os : Os) (started : os.Started) (H : Type) (enc : TypeId × Value → H) :
    ReturnsInHanded {} Tryz.checked os 3 .any (fun w args => (Rows.fnEventSpec.pre enc Tryz.prog Tryz.f3 [] false w args ∧ laidMetH Tryz.prog Rows.fnEventRow.laid w) ∧ sizedMet enc Tryz.prog Tryz.f3 (OpenSpec.ofChange Rows.fnEventSpec) false w args)
      (Rows.fnEventSpec.post enc Tryz.prog Tryz.f3 false true false false) := by
  refine of_and_shaped (C := Tryz.checked) (X := fun w _ => laidMetH Tryz.prog Rows.fnEventRow.laid w) (fun _ _ _ hh h => h.of_heap hh) own started (by kernel_rfl) Tryz.func3
    (ChangeSpec.witness_shaped (enc := enc) (C := Tryz.checked) (os := os) (X := fun w _ => laidMetH Tryz.prog Rows.fnEventRow.laid w) false (World.laidAll Tryz.prog os Rows.fnEventRow.laid) #[.slice none 0 0] 8 (World.laidAll_os _ _ _) (World.shaped_of_ZipB (by kernel_rfl) (by kernel_rfl)) (by kernel_rfl) (by kernel_rfl) (by kernel_rfl)
      (by rw [MakeChecks.laidMetH_plain _ _ _ (by kernel_rfl)]; exact laidMet_laidAll _ (by kernel_rfl) (by kernel_rfl))) ?_
  intro W base args ds gs before hval0 hW hL hsh
  have hval : ∀ (j : Nat) t v, Tryz.f3.params[j]? = some t → args[j]? = some v → Value.okWide Tryz.prog W .any base t v := hval0
  have hW' := hW
  obtain ⟨p, q, hA0, hV0, rfl, hfz, hnd⟩ := hW
  have hA : DataW.TrodAll enc Tryz.prog W 0 (fun _ => true) true Tryz.f3.params.toList args.toList ds p := hA0
  have hV : DataW.TrodVars enc Tryz.prog W (fun _ => true) ["loop.example/g00400/impl.errGaveUp", "loop.example/g00400/impl.errNoNumber"] gs q := hV0
  rw [Tryz.params3] at hA hval
  obtain ⟨v0, vs0, d0, ds0, p0, q0, hargs, rfl, rfl, h0, r0⟩ := trodAll_cons hA
  obtain ⟨rfl, rfl, rfl⟩ := trodAll_nil r0
  obtain rfl : args = #[v0] := by cases args; simp_all
  have k0 := h0
  have lt0 : ∀ x ∈ p0, x.block < W.heap.size := by obtain ⟨m, hm⟩ := k0; exact DataW.trod_lt m _ _ _ hm
  obtain ⟨a0, len0, cap0, rfl⟩ := okWide_slice Tryz.underlying22 (hval 0 22 v0 rfl rfl)
  have w0 : RowAt W.heap.size W a0 len0 := by
    obtain ⟨fuel, hf⟩ := h0
    rcases open_ints Tryz.underlying22 Tryz.underlying5 (by kernel_rfl) hf with ⟨hcs, _⟩ | ⟨x, l, c, zs, hcs, _, hl, hm, hz, _, hcell, hwz⟩
    · simp [Value.cells] at hcs
      obtain ⟨rfl, rfl, rfl⟩ := hcs
      exact row_nil
    · simp [Value.cells] at hcs
      obtain ⟨rfl, rfl, rfl⟩ := hcs
      exact row_of hl (by simpa using hz) hcell hwz
  have hL0 : laidMet Tryz.prog Rows.fnEventRow.laid W := by rw [← MakeChecks.laidMetH_plain _ _ _ (by kernel_rfl)]; exact hL
  have hT : Tab W := Lib.tabIs_of_head gPow tPow Tryz.underlying138 Tryz.underlying119 cells56 cells81 (laidMet.tail (laidMet.tail hL0))
  obtain ⟨xRange, hvRange⟩ := sent (laidMet.tail (laidMet.tail (laidMet.tail (laidMet.tail hL0)))) gRange tRange
  obtain ⟨xSyntax, hvSyntax⟩ := sent (laidMet.tail (laidMet.tail (laidMet.tail (laidMet.tail (laidMet.tail hL0))))) gSyntax tSyntax
  obtain ⟨xNumber, hvNumber⟩ := sent (laidMet.tail (laidMet.tail (laidMet.tail (laidMet.tail (laidMet.tail (laidMet.tail hL0)))))) gNumber tNumber
  obtain ⟨xGaveUp, hvGaveUp⟩ := sent (laidMet.tail (laidMet.tail (laidMet.tail (laidMet.tail (laidMet.tail (laidMet.tail (laidMet.tail hL0))))))) gGaveUp tGaveUp
  obtain ⟨mx, hmx⟩ := max_len W hsh
  obtain ⟨rfl, rfl⟩ := hV.unique (vars_read2 enc gGaveUp tGaveUp Tryz.underlying92 hvGaveUp trivial gNumber tNumber Tryz.underlying92 hvNumber trivial _)
  clear hA0 hV0 hval0
  refine (walk a0 len0 cap0 W w0 ⟨hT, ⟨_, _, hvSyntax⟩, ⟨_, _, hvRange⟩, ⟨_, _, cell_of_var gNumber hvNumber⟩⟩ _ _ (cell_of_var gGaveUp hvGaveUp) mx hmx).mono fun e W' ⟨he, hb⟩ => ?_
  subst he
  refine ⟨_, rfl, _, _, _, [], (p0 ++ []), [.cell 0 0, .cell 1 0], hW', ?_, ?_, ?_, Below.frame hb _, fun h => by cases h⟩
  · exact trodAll_mk1 (shut_bool Tryz.underlying4 _)
  · exact (trodAll_cons_mk (Below.trod laidOut (by kernel_rfl) (of_decide_eq_true (by kernel_rfl)) k0 hb lt0) trodAll_mk0)
  · exact vars_read2 enc gGaveUp tGaveUp Tryz.underlying92 (var_kept hb hvGaveUp) trivial gNumber tNumber Tryz.underlying92 (var_kept hb hvNumber) trivial _

theorem over : Rows.FnEventSaid :=
  OpenClaim.holds_of_wide 3 Tryz.f3 rfl rfl rfl rfl rfl rfl rfl ⟨rfl, rfl, rfl, rfl, rfl⟩ rfl rfl rfl rfl rfl (by kernel_rfl) Tryz.func3 (by kernel_rfl)
    (of_decide_eq_true (by kernel_rfl)) (by unfold Func.isWrapper; first | (rw [if_pos (by decide +kernel)]; kernel_rfl) | (rw [if_neg (by decide +kernel)]; exact ⟨rfl, rfl⟩))
    (fun os started H enc _ => lifted os started H enc)
end Go.Proofs.YtpkkdkdecajekaaGreatDoor.fnEvent
namespace Go.Proofs.YtpkkdkdecajekaaGreatDoor
theorem fnEvent_holds : Rows.FnEventCardSaid :=
  Claim7.holds_tied_plain_at .later [] Rows.fnEventCard.laidKinds true Rows.fnEventCard.stood.harness true
    fnEvent.over (fun _ h => by cases h) (by kernel_rfl) (fun _ h => by cases h) fnEvent_row_tie rfl ⟨rfl, rfl⟩ (by kernel_rfl) rfl
    (fun f fn hf hfn => by
      obtain rfl : f = 3 := Option.some.inj ((show Tryz.prog.funcNamed Rows.fnEventRow.func = some 3 by kernel_rfl).symm.trans hf) |>.symm
      obtain rfl : fn = Tryz.f3 := (Option.some.inj (Tryz.func3.symm.trans hfn)).symm
      exact ⟨by kernel_rfl, fun j t ht => by
        rw [Tryz.params3] at ht
        have hm : t ∈ [22] := by simpa using Array.mem_of_getElem? ht
        have hall : ([22].all fun u => !Tryz.prog.wantsStandIn u) = true := by kernel_rfl
        exact (show Tryz.prog.wantsStandIn t = false by simpa using List.all_eq_true.1 hall t hm)⟩)
    (by kernel_rfl)
end Go.Proofs.YtpkkdkdecajekaaGreatDoor
