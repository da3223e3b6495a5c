/- Of every text: the program's TextStep answers the step and the word that the model's TextStep answers; its answer owns its memory, behind another call too. -/
import Derived.Test.YtjihinkjcplgcaaGreatDoorPT14
import Derived.Test.YtjihinkjcplgcaaGreatDoorPT25
import Derived.Test.YtjihinkjcplgcaaGreatDoorPT5
import Derived.Test.YtjihinkjcplgcaaGreatDoorPT7
import Derived.Test.YtjihinkjcplgcaaGreatDoorCards
import Derived.Test.YtjihinkjcplgcaaGreatDoorTie
import Derived.Shelf.Vars
import Derived.Lay
import Derived.WalkKit
import Derived.ProofKit
import Derived.OpenShut
import Derived.ShutString
import Derived.LaidMore
import Derived.Stop.Joined
import Derived.SevenTiedAt
import Derived.ChangeOld
import Derived.Below
namespace Go.Proofs.YtjihinkjcplgcaaGreatDoor.fnExactTextStep
open Go.ChangeShapes Go.WideShapes Go.ChangeAt Go.RowKit
open Go.ChangeMaps (open_string shut_string)
set_option linter.unusedVariables false
theorem own : ownKnob Tryz.prog.godebug = none := by kernel_rfl
theorem laidOut : laidOutB Tryz.prog = true := by kernel_rfl
theorem gRange : Tryz.prog.globalNamed "strconv.ErrRange" = some 4 := by kernel_rfl
theorem tRange : (Tryz.prog.globals[4]?).map (·.type) = some 84 := by kernel_rfl
theorem gSyntax : Tryz.prog.globalNamed "strconv.ErrSyntax" = some 3 := by kernel_rfl
theorem tSyntax : (Tryz.prog.globals[3]?).map (·.type) = some 84 := by kernel_rfl

set_option maxHeartbeats 8000000 in
theorem walk (s : ByteArray) (w : World) (hs : s.size ≤ maxLen) (he : Env w) (mx : Int) (hm : w.cell? ⟨1, 0, none⟩ = some (.int .i64 mx)) :
    Calls Tryz.prog 4 #[.string s] w fun e w' => e = .returned (.bool true) ∧ Keeps w w' := by
  have HE := hide he
  have HM := hide hm
  have hmm : s.size ≤ 9223372036854775807 := hs
  clear he hm hs
  by_cases hl : 1048576 < s.size
  · go_enter Tryz.func4, Tryz.ntmps4
    go_wp2_with fail
    go_ret
    exact ⟨rfl, Keeps.refl _⟩
  · have hsz : s.size ≤ 1048576 := by omega
    go_enter Tryz.func4, Tryz.ntmps4
    have HK := hide (Keeps.refl w)
    go_wp2_with fail
    refine (textstep_spec s w hsz).mono ?_
    rintro x w1 ⟨hp, hk⟩
    obtain ⟨D, aw, cw, ok, rfl, hb, hq⟩ := ts_form hp
    have HL := hide (q_len hsz hq)
    have HQ := hide hq
    clear hq hp
    have HNw := hide ((hb.old HK.out).new)
    replace HK := hide (HK.out.trans hk)
    have HOw := hide hb.toOwn
    clear hb hk
    go_wp2_with fail
    have hb : Born w1 (w1.alloc (.cells (D.cells aw cw) 33)) [(some ⟨w1.heap.size, 0, none⟩, [.int .i64 D.k, .int .i64 D.e.k, .int .i64 D.e.y, .int .i64 D.e.c, .int .i64 D.e.t, .int .i64 D.e.m, .int .i64 D.e.f, .bool D.e.b, .slice aw D.ks.length cw, .int .i64 D.r.lo, .int .i64 D.r.hi, .int .i64 D.r.st, .int .i64 D.r.mi, .int .i64 D.r.ma])] := born_alloc w1 (D.cells aw cw) 33
    have hk := Keeps.alloc (Keeps.refl w1) (.cells (D.cells aw cw) 33)
    generalize w1.alloc (.cells (D.cells aw cw) 33) = w2 at *
    have HDw_VW := hide (hb.apart HOw.out.mem)
    have HDVW_w := hide (hb.apart' HOw.out.mem)
    have HNVW := hide ((hb.old HK.out).new)
    replace HK := hide (HK.out.trans hk)
    replace HOw := hide (HOw.out.kept hk)
    have HOVW := hide hb.toOwn
    clear hb hk
    refine (textstep_impl s w2 hsz (HE.out.kept HK.out) mx (HK.out.cell HM.out)).mono ?_
    rintro x w3 ⟨hp, hk⟩
    obtain ⟨D', ag, cg, ok', rfl, hb, hq⟩ := ts_form hp
    have hD := (q_same HQ.out hq).1.symm
    have hO := (q_same HQ.out hq).2.symm
    subst hD hO
    clear hq hp
    have HDw_g := hide (hb.apart HOw.out.mem)
    have HDg_w := hide (hb.apart' HOw.out.mem)
    have HDVW_g := hide (hb.apart HOVW.out.mem)
    have HDg_VW := hide (hb.apart' HOVW.out.mem)
    have HNg := hide ((hb.old HK.out).new)
    replace HK := hide (HK.out.trans hk)
    replace HOw := hide (HOw.out.kept hk)
    replace HOVW := hide (HOVW.out.kept hk)
    have HOg := hide hb.toOwn
    clear hb hk
    have cVW0 := cell_at HOVW.out.mem 0 (by simp)
    have cVW1 := cell_at HOVW.out.mem 1 (by simp)
    have cVW2 := cell_at HOVW.out.mem 2 (by simp)
    have cVW3 := cell_at HOVW.out.mem 3 (by simp)
    have cVW4 := cell_at HOVW.out.mem 4 (by simp)
    have cVW5 := cell_at HOVW.out.mem 5 (by simp)
    have cVW6 := cell_at HOVW.out.mem 6 (by simp)
    have cVW7 := cell_at HOVW.out.mem 7 (by simp)
    have cVW8 := cell_at HOVW.out.mem 8 (by simp)
    have cVW9 := cell_at HOVW.out.mem 9 (by simp)
    have cVW10 := cell_at HOVW.out.mem 10 (by simp)
    have cVW11 := cell_at HOVW.out.mem 11 (by simp)
    have cVW12 := cell_at HOVW.out.mem 12 (by simp)
    have cVW13 := cell_at HOVW.out.mem 13 (by simp)
    simp only [Nat.zero_add, List.getElem_cons_zero, List.getElem_cons_succ] at cVW0 cVW1 cVW2 cVW3 cVW4 cVW5 cVW6 cVW7 cVW8 cVW9 cVW10 cVW11 cVW12 cVW13
    have lVW := lt_of_cell cVW0
    go_wp2_with fail
    have hb : Born w3 (w3.alloc (.cells (D.cells ag cg) 33)) [(some ⟨w3.heap.size, 0, none⟩, [.int .i64 D.k, .int .i64 D.e.k, .int .i64 D.e.y, .int .i64 D.e.c, .int .i64 D.e.t, .int .i64 D.e.m, .int .i64 D.e.f, .bool D.e.b, .slice ag D.ks.length cg, .int .i64 D.r.lo, .int .i64 D.r.hi, .int .i64 D.r.st, .int .i64 D.r.mi, .int .i64 D.r.ma])] := born_alloc w3 (D.cells ag cg) 33
    have hk := Keeps.alloc (Keeps.refl w3) (.cells (D.cells ag cg) 33)
    generalize w3.alloc (.cells (D.cells ag cg) 33) = w4 at *
    clear cVW0 cVW1 cVW2 cVW3 cVW4 cVW5 cVW6 cVW7 cVW8 cVW9 cVW10 cVW11 cVW12 cVW13 lVW
    have HDw_VG := hide (hb.apart HOw.out.mem)
    have HDVG_w := hide (hb.apart' HOw.out.mem)
    have HDVW_VG := hide (hb.apart HOVW.out.mem)
    have HDVG_VW := hide (hb.apart' HOVW.out.mem)
    have HDg_VG := hide (hb.apart HOg.out.mem)
    have HDVG_g := hide (hb.apart' HOg.out.mem)
    have HNVG := hide ((hb.old HK.out).new)
    replace HK := hide (HK.out.trans hk)
    replace HOw := hide (HOw.out.kept hk)
    replace HOVW := hide (HOVW.out.kept hk)
    replace HOg := hide (HOg.out.kept hk)
    have HOVG := hide hb.toOwn
    clear hb hk
    refine (eqStep_k D ag aw cg cw w4 (HOg.out.mem (ag, its D.ks) (by simp)) (HOw.out.mem (aw, its D.ks) (by simp)) HL.out).mono ?_
    rintro x w5 ⟨rfl, hk⟩
    replace HK := hide (HK.out.trans hk)
    replace HOw := hide (HOw.out.kept hk)
    replace HOVW := hide (HOVW.out.kept hk)
    replace HOg := hide (HOg.out.kept hk)
    replace HOVG := hide (HOVG.out.kept hk)
    clear hk
    have cVG0 := cell_at HOVG.out.mem 0 (by simp)
    have cVG1 := cell_at HOVG.out.mem 1 (by simp)
    have cVG2 := cell_at HOVG.out.mem 2 (by simp)
    have cVG3 := cell_at HOVG.out.mem 3 (by simp)
    have cVG4 := cell_at HOVG.out.mem 4 (by simp)
    have cVG5 := cell_at HOVG.out.mem 5 (by simp)
    have cVG6 := cell_at HOVG.out.mem 6 (by simp)
    have cVG7 := cell_at HOVG.out.mem 7 (by simp)
    have cVG8 := cell_at HOVG.out.mem 8 (by simp)
    have cVG9 := cell_at HOVG.out.mem 9 (by simp)
    have cVG10 := cell_at HOVG.out.mem 10 (by simp)
    have cVG11 := cell_at HOVG.out.mem 11 (by simp)
    have cVG12 := cell_at HOVG.out.mem 12 (by simp)
    have cVG13 := cell_at HOVG.out.mem 13 (by simp)
    simp only [Nat.zero_add, List.getElem_cons_zero, List.getElem_cons_succ] at cVG0 cVG1 cVG2 cVG3 cVG4 cVG5 cVG6 cVG7 cVG8 cVG9 cVG10 cVG11 cVG12 cVG13
    have lVG := lt_of_cell cVG0
    go_wp2_with fail
    refine (markStep_k D ag cg w5 HOg.out HL.out).mono ?_
    rintro x w6 ⟨rfl, ho, ht⟩
    clear cVG0 cVG1 cVG2 cVG3 cVG4 cVG5 cVG6 cVG7 cVG8 cVG9 cVG10 cVG11 cVG12 cVG13 lVG
    replace HK := hide (ht.keeps HK.out HNg.out)
    replace HOw := hide (HOw.out.turn ht HDw_g.out)
    replace HOVW := hide (HOVW.out.turn ht HDVW_g.out)
    replace HOVG := hide (HOVG.out.turn ht HDVG_g.out)
    clear ht
    replace HOg := hide ho
    clear ho
    have cVG0 := cell_at HOVG.out.mem 0 (by simp)
    have cVG1 := cell_at HOVG.out.mem 1 (by simp)
    have cVG2 := cell_at HOVG.out.mem 2 (by simp)
    have cVG3 := cell_at HOVG.out.mem 3 (by simp)
    have cVG4 := cell_at HOVG.out.mem 4 (by simp)
    have cVG5 := cell_at HOVG.out.mem 5 (by simp)
    have cVG6 := cell_at HOVG.out.mem 6 (by simp)
    have cVG7 := cell_at HOVG.out.mem 7 (by simp)
    have cVG8 := cell_at HOVG.out.mem 8 (by simp)
    have cVG9 := cell_at HOVG.out.mem 9 (by simp)
    have cVG10 := cell_at HOVG.out.mem 10 (by simp)
    have cVG11 := cell_at HOVG.out.mem 11 (by simp)
    have cVG12 := cell_at HOVG.out.mem 12 (by simp)
    have cVG13 := cell_at HOVG.out.mem 13 (by simp)
    simp only [Nat.zero_add, List.getElem_cons_zero, List.getElem_cons_succ] at cVG0 cVG1 cVG2 cVG3 cVG4 cVG5 cVG6 cVG7 cVG8 cVG9 cVG10 cVG11 cVG12 cVG13
    have lVG := lt_of_cell cVG0
    go_wp2_with fail
    refine (heldStep_k D ag cg w6 (HOg.out.mem (ag, its (marksI 1 D.ks.length)) (by simp)) HL.out).mono ?_
    rintro x w7 ⟨rfl, hk⟩
    clear cVG0 cVG1 cVG2 cVG3 cVG4 cVG5 cVG6 cVG7 cVG8 cVG9 cVG10 cVG11 cVG12 cVG13 lVG
    replace HK := hide (HK.out.trans hk)
    replace HOw := hide (HOw.out.kept hk)
    replace HOVW := hide (HOVW.out.kept hk)
    replace HOg := hide (HOg.out.kept hk)
    replace HOVG := hide (HOVG.out.kept hk)
    clear hk
    have cVW0 := cell_at HOVW.out.mem 0 (by simp)
    have cVW1 := cell_at HOVW.out.mem 1 (by simp)
    have cVW2 := cell_at HOVW.out.mem 2 (by simp)
    have cVW3 := cell_at HOVW.out.mem 3 (by simp)
    have cVW4 := cell_at HOVW.out.mem 4 (by simp)
    have cVW5 := cell_at HOVW.out.mem 5 (by simp)
    have cVW6 := cell_at HOVW.out.mem 6 (by simp)
    have cVW7 := cell_at HOVW.out.mem 7 (by simp)
    have cVW8 := cell_at HOVW.out.mem 8 (by simp)
    have cVW9 := cell_at HOVW.out.mem 9 (by simp)
    have cVW10 := cell_at HOVW.out.mem 10 (by simp)
    have cVW11 := cell_at HOVW.out.mem 11 (by simp)
    have cVW12 := cell_at HOVW.out.mem 12 (by simp)
    have cVW13 := cell_at HOVW.out.mem 13 (by simp)
    simp only [Nat.zero_add, List.getElem_cons_zero, List.getElem_cons_succ] at cVW0 cVW1 cVW2 cVW3 cVW4 cVW5 cVW6 cVW7 cVW8 cVW9 cVW10 cVW11 cVW12 cVW13
    have lVW := lt_of_cell cVW0
    have cVG0 := cell_at HOVG.out.mem 0 (by simp)
    have cVG1 := cell_at HOVG.out.mem 1 (by simp)
    have cVG2 := cell_at HOVG.out.mem 2 (by simp)
    have cVG3 := cell_at HOVG.out.mem 3 (by simp)
    have cVG4 := cell_at HOVG.out.mem 4 (by simp)
    have cVG5 := cell_at HOVG.out.mem 5 (by simp)
    have cVG6 := cell_at HOVG.out.mem 6 (by simp)
    have cVG7 := cell_at HOVG.out.mem 7 (by simp)
    have cVG8 := cell_at HOVG.out.mem 8 (by simp)
    have cVG9 := cell_at HOVG.out.mem 9 (by simp)
    have cVG10 := cell_at HOVG.out.mem 10 (by simp)
    have cVG11 := cell_at HOVG.out.mem 11 (by simp)
    have cVG12 := cell_at HOVG.out.mem 12 (by simp)
    have cVG13 := cell_at HOVG.out.mem 13 (by simp)
    simp only [Nat.zero_add, List.getElem_cons_zero, List.getElem_cons_succ] at cVG0 cVG1 cVG2 cVG3 cVG4 cVG5 cVG6 cVG7 cVG8 cVG9 cVG10 cVG11 cVG12 cVG13
    have lVG := lt_of_cell cVG0
    go_wp2_with fail
    refine (textstep_impl s w7 hsz (HE.out.kept HK.out) mx (HK.out.cell HM.out)).mono ?_
    rintro x w8 ⟨hp, hk⟩
    obtain ⟨D', ah, ch, ok', rfl, hb, hq⟩ := ts_form hp
    have hD := (q_same HQ.out hq).1.symm
    have hO := (q_same HQ.out hq).2.symm
    subst hD hO
    clear hq hp
    clear cVW0 cVW1 cVW2 cVW3 cVW4 cVW5 cVW6 cVW7 cVW8 cVW9 cVW10 cVW11 cVW12 cVW13 lVW cVG0 cVG1 cVG2 cVG3 cVG4 cVG5 cVG6 cVG7 cVG8 cVG9 cVG10 cVG11 cVG12 cVG13 lVG
    have HDw_h := hide (hb.apart HOw.out.mem)
    have HDh_w := hide (hb.apart' HOw.out.mem)
    have HDVW_h := hide (hb.apart HOVW.out.mem)
    have HDh_VW := hide (hb.apart' HOVW.out.mem)
    have HDg_h := hide (hb.apart HOg.out.mem)
    have HDh_g := hide (hb.apart' HOg.out.mem)
    have HDVG_h := hide (hb.apart HOVG.out.mem)
    have HDh_VG := hide (hb.apart' HOVG.out.mem)
    have HNh := hide ((hb.old HK.out).new)
    replace HK := hide (HK.out.trans hk)
    replace HOw := hide (HOw.out.kept hk)
    replace HOVW := hide (HOVW.out.kept hk)
    replace HOg := hide (HOg.out.kept hk)
    replace HOVG := hide (HOVG.out.kept hk)
    have HOh := hide hb.toOwn
    clear hb hk
    have cVW0 := cell_at HOVW.out.mem 0 (by simp)
    have cVW1 := cell_at HOVW.out.mem 1 (by simp)
    have cVW2 := cell_at HOVW.out.mem 2 (by simp)
    have cVW3 := cell_at HOVW.out.mem 3 (by simp)
    have cVW4 := cell_at HOVW.out.mem 4 (by simp)
    have cVW5 := cell_at HOVW.out.mem 5 (by simp)
    have cVW6 := cell_at HOVW.out.mem 6 (by simp)
    have cVW7 := cell_at HOVW.out.mem 7 (by simp)
    have cVW8 := cell_at HOVW.out.mem 8 (by simp)
    have cVW9 := cell_at HOVW.out.mem 9 (by simp)
    have cVW10 := cell_at HOVW.out.mem 10 (by simp)
    have cVW11 := cell_at HOVW.out.mem 11 (by simp)
    have cVW12 := cell_at HOVW.out.mem 12 (by simp)
    have cVW13 := cell_at HOVW.out.mem 13 (by simp)
    simp only [Nat.zero_add, List.getElem_cons_zero, List.getElem_cons_succ] at cVW0 cVW1 cVW2 cVW3 cVW4 cVW5 cVW6 cVW7 cVW8 cVW9 cVW10 cVW11 cVW12 cVW13
    have lVW := lt_of_cell cVW0
    have cVG0 := cell_at HOVG.out.mem 0 (by simp)
    have cVG1 := cell_at HOVG.out.mem 1 (by simp)
    have cVG2 := cell_at HOVG.out.mem 2 (by simp)
    have cVG3 := cell_at HOVG.out.mem 3 (by simp)
    have cVG4 := cell_at HOVG.out.mem 4 (by simp)
    have cVG5 := cell_at HOVG.out.mem 5 (by simp)
    have cVG6 := cell_at HOVG.out.mem 6 (by simp)
    have cVG7 := cell_at HOVG.out.mem 7 (by simp)
    have cVG8 := cell_at HOVG.out.mem 8 (by simp)
    have cVG9 := cell_at HOVG.out.mem 9 (by simp)
    have cVG10 := cell_at HOVG.out.mem 10 (by simp)
    have cVG11 := cell_at HOVG.out.mem 11 (by simp)
    have cVG12 := cell_at HOVG.out.mem 12 (by simp)
    have cVG13 := cell_at HOVG.out.mem 13 (by simp)
    simp only [Nat.zero_add, List.getElem_cons_zero, List.getElem_cons_succ] at cVG0 cVG1 cVG2 cVG3 cVG4 cVG5 cVG6 cVG7 cVG8 cVG9 cVG10 cVG11 cVG12 cVG13
    have lVG := lt_of_cell cVG0
    go_wp2_with fail
    have hb : Born w8 (w8.alloc (.cells (D.cells ah ch) 33)) [(some ⟨w8.heap.size, 0, none⟩, [.int .i64 D.k, .int .i64 D.e.k, .int .i64 D.e.y, .int .i64 D.e.c, .int .i64 D.e.t, .int .i64 D.e.m, .int .i64 D.e.f, .bool D.e.b, .slice ah D.ks.length ch, .int .i64 D.r.lo, .int .i64 D.r.hi, .int .i64 D.r.st, .int .i64 D.r.mi, .int .i64 D.r.ma])] := born_alloc w8 (D.cells ah ch) 33
    have hk := Keeps.alloc (Keeps.refl w8) (.cells (D.cells ah ch) 33)
    generalize w8.alloc (.cells (D.cells ah ch) 33) = w9 at *
    clear cVW0 cVW1 cVW2 cVW3 cVW4 cVW5 cVW6 cVW7 cVW8 cVW9 cVW10 cVW11 cVW12 cVW13 lVW cVG0 cVG1 cVG2 cVG3 cVG4 cVG5 cVG6 cVG7 cVG8 cVG9 cVG10 cVG11 cVG12 cVG13 lVG
    have HDw_VH := hide (hb.apart HOw.out.mem)
    have HDVH_w := hide (hb.apart' HOw.out.mem)
    have HDVW_VH := hide (hb.apart HOVW.out.mem)
    have HDVH_VW := hide (hb.apart' HOVW.out.mem)
    have HDg_VH := hide (hb.apart HOg.out.mem)
    have HDVH_g := hide (hb.apart' HOg.out.mem)
    have HDVG_VH := hide (hb.apart HOVG.out.mem)
    have HDVH_VG := hide (hb.apart' HOVG.out.mem)
    have HDh_VH := hide (hb.apart HOh.out.mem)
    have HDVH_h := hide (hb.apart' HOh.out.mem)
    have HNVH := hide ((hb.old HK.out).new)
    replace HK := hide (HK.out.trans hk)
    replace HOw := hide (HOw.out.kept hk)
    replace HOVW := hide (HOVW.out.kept hk)
    replace HOg := hide (HOg.out.kept hk)
    replace HOVG := hide (HOVG.out.kept hk)
    replace HOh := hide (HOh.out.kept hk)
    have HOVH := hide hb.toOwn
    clear hb hk
    refine (eqStep_k D ah aw ch cw w9 (HOh.out.mem (ah, its D.ks) (by simp)) (HOw.out.mem (aw, its D.ks) (by simp)) HL.out).mono ?_
    rintro x w10 ⟨rfl, hk⟩
    replace HK := hide (HK.out.trans hk)
    replace HOw := hide (HOw.out.kept hk)
    replace HOVW := hide (HOVW.out.kept hk)
    replace HOg := hide (HOg.out.kept hk)
    replace HOVG := hide (HOVG.out.kept hk)
    replace HOh := hide (HOh.out.kept hk)
    replace HOVH := hide (HOVH.out.kept hk)
    clear hk
    have cVG0 := cell_at HOVG.out.mem 0 (by simp)
    have cVG1 := cell_at HOVG.out.mem 1 (by simp)
    have cVG2 := cell_at HOVG.out.mem 2 (by simp)
    have cVG3 := cell_at HOVG.out.mem 3 (by simp)
    have cVG4 := cell_at HOVG.out.mem 4 (by simp)
    have cVG5 := cell_at HOVG.out.mem 5 (by simp)
    have cVG6 := cell_at HOVG.out.mem 6 (by simp)
    have cVG7 := cell_at HOVG.out.mem 7 (by simp)
    have cVG8 := cell_at HOVG.out.mem 8 (by simp)
    have cVG9 := cell_at HOVG.out.mem 9 (by simp)
    have cVG10 := cell_at HOVG.out.mem 10 (by simp)
    have cVG11 := cell_at HOVG.out.mem 11 (by simp)
    have cVG12 := cell_at HOVG.out.mem 12 (by simp)
    have cVG13 := cell_at HOVG.out.mem 13 (by simp)
    simp only [Nat.zero_add, List.getElem_cons_zero, List.getElem_cons_succ] at cVG0 cVG1 cVG2 cVG3 cVG4 cVG5 cVG6 cVG7 cVG8 cVG9 cVG10 cVG11 cVG12 cVG13
    have lVG := lt_of_cell cVG0
    go_wp2_with fail
    refine (heldStep_k D ag cg w10 (HOg.out.mem (ag, its (marksI 1 D.ks.length)) (by simp)) HL.out).mono ?_
    rintro x w11 ⟨rfl, hk⟩
    clear cVG0 cVG1 cVG2 cVG3 cVG4 cVG5 cVG6 cVG7 cVG8 cVG9 cVG10 cVG11 cVG12 cVG13 lVG
    replace HK := hide (HK.out.trans hk)
    replace HOw := hide (HOw.out.kept hk)
    replace HOVW := hide (HOVW.out.kept hk)
    replace HOg := hide (HOg.out.kept hk)
    replace HOVG := hide (HOVG.out.kept hk)
    replace HOh := hide (HOh.out.kept hk)
    replace HOVH := hide (HOVH.out.kept hk)
    clear hk
    go_wp2_with fail
    go_ret
    exact ⟨rfl, HK.out⟩

/-- The wrap for laid variables, the world's shape kept. -/
theorem of_and_shaped {H : Type} {enc : TypeId × Value → H} {a : Assume} {C : Checked} {os : Os} {f : FuncId} {fn : Func} {s : ChangeSpec} {conds : List PathCond} {apart fresh handsOn again : Bool} {X : World → Array Value → Prop}
    (hX : ∀ (w w' : World) (args : Array Value), w.heap = w'.heap → X w args → X w' args)
    (own : ownKnob C.prog.godebug = none) (started : os.Started) (noInit : C.prog.inits.idxOf? f = none) (hfn : C.prog.funcs[f]? = some fn)
    (witness : ∃ (w : World) (tape : Tape) (i : Input), w.os = os ∧ (w.forCall tape i).Shaped C.prog ∧ i.vars = [] ∧ Input.okWide C.prog (w.forCall tape i) .any w.heap.size f i ∧
      ((s.pre enc C.prog fn conds apart (w.forCall tape i).memory i.args ∧ X (w.forCall tape i).memory i.args) ∧ sizedMet enc C.prog fn (OpenSpec.ofChange s) apart (w.forCall tape i).memory i.args) ∧ a.holds C.prog (lone (Frame.enter C.prog f i.args .normal) [] (w.forCall tape i)))
    (contract : ∀ (W : World) (base : Nat) (args : Array Value) (ds gs : List (DataW H)) (before : List MemPlace),
      (∀ (j : Nat) t v, fn.params[j]? = some t → args[j]? = some v → Value.okWide C.prog W .any base t v) →
      DataW.Whole enc C.prog fn.params.toList s.vars apart W args.toList ds gs before →
      X W args → W.ShapedOpen C.prog →
      Calls C.prog f args W fun e W' => ∃ v, e = .returned v ∧ s.post enc C.prog fn apart fresh handsOn again W args v W') :
    ReturnsInHanded a C os f .any (fun w args => (s.pre enc C.prog fn conds apart w args ∧ X w args) ∧ sizedMet enc C.prog fn (OpenSpec.ofChange s) apart w args) (s.post enc C.prog fn apart fresh handsOn again) := by
  refine returnsInHanded_of_calls own started noInit witness ?_
  intro w tape i _ hsh _ hok hpre _
  obtain ⟨_, _, _, fn', hfn', _, _, _, _, hval⟩ := hok
  obtain rfl : fn' = fn := Option.some.inj (hfn'.symm.trans hfn)
  obtain ⟨⟨⟨ds, gs, before, hw, _⟩, hx⟩, _⟩ := hpre
  refine (contract (w.forCall tape i) w.heap.size i.args ds gs before hval (DataW.Whole.of_heap (w' := w.forCall tape i) (by rfl) hw) (hX _ _ _ (by rfl) hx) hsh).mono fun e W' ⟨v, he, hp⟩ => ?_
  subst he
  exact ChangeSpec.post_blind hp
theorem max_len (w : World) (h : w.ShapedOpen Tryz.prog) : ∃ m, w.cell? ⟨1, 0, none⟩ = some (.int .i64 m) :=
  Go.Proofs.cell_of_shapedOpen_int (zero := #[.int .i64 0]) (t := 3) h (of_decide_eq_true (by kernel_rfl)) (by kernel_rfl) rfl (by kernel_rfl) (by kernel_rfl) Tryz.underlying3
set_option maxRecDepth 100000 in
theorem lifted (os : Os) (started : os.Started) (H : Type) (enc : TypeId × Value → H) :
    ReturnsInHanded {} Tryz.checked os 4 .any (fun w args => (Rows.fnExactTextStepSpec.pre enc Tryz.prog Tryz.f4 [] false w args ∧ laidMetH Tryz.prog Rows.fnExactTextStepRow.laid w) ∧ sizedMet enc Tryz.prog Tryz.f4 (OpenSpec.ofChange Rows.fnExactTextStepSpec) false w args)
      (Rows.fnExactTextStepSpec.post enc Tryz.prog Tryz.f4 false true false false) := by
  refine of_and_shaped (C := Tryz.checked) (X := fun w _ => laidMetH Tryz.prog Rows.fnExactTextStepRow.laid w) (fun _ _ _ hh h => h.of_heap hh) own started (by kernel_rfl) Tryz.func4
    (ChangeSpec.witness_shaped (enc := enc) (C := Tryz.checked) (os := os) (X := fun w _ => laidMetH Tryz.prog Rows.fnExactTextStepRow.laid w) false (World.laidAll Tryz.prog os Rows.fnExactTextStepRow.laid) #[.string ByteArray.empty] 8 (World.laidAll_os _ _ _) (World.shaped_of_ZipB (by kernel_rfl) (by kernel_rfl)) (by kernel_rfl) (by kernel_rfl) (by kernel_rfl)
      (by rw [MakeChecks.laidMetH_plain _ _ _ (by kernel_rfl)]; exact laidMet_laidAll _ (by kernel_rfl) (by kernel_rfl))) ?_
  intro W base args ds gs before hval0 hW hL hsh
  have hval : ∀ (j : Nat) t v, Tryz.f4.params[j]? = some t → args[j]? = some v → Value.okWide Tryz.prog W .any base t v := hval0
  have hW' := hW
  obtain ⟨p, q, hA0, hV0, rfl, hfz, hnd⟩ := hW
  have hA : DataW.TrodAll enc Tryz.prog W 0 (fun _ => true) true Tryz.f4.params.toList args.toList ds p := hA0
  have hV : DataW.TrodVars enc Tryz.prog W (fun _ => true) ["loop.example/g00400/impl.errNoNumber"] gs q := hV0
  rw [Tryz.params4] at hA hval
  obtain ⟨v0, vs0, d0, ds0, p0, q0, hargs, rfl, rfl, h0, r0⟩ := trodAll_cons hA
  obtain ⟨rfl, rfl, rfl⟩ := trodAll_nil r0
  obtain rfl : args = #[v0] := by cases args; simp_all
  obtain ⟨a0, rfl, rfl, rfl, w0⟩ := open_string Tryz.underlying9 (hval 0 9 v0 rfl rfl) h0
  have hL0 : laidMet Tryz.prog Rows.fnExactTextStepRow.laid W := by rw [← MakeChecks.laidMetH_plain _ _ _ (by kernel_rfl)]; exact hL
  have hT : Tab W := Lib.tabIs_of_head gPow tPow Tryz.underlying167 Tryz.underlying149 cells56 cells81 (laidMet.tail (laidMet.tail hL0))
  obtain ⟨xRange, hvRange⟩ := sent (laidMet.tail (laidMet.tail (laidMet.tail (laidMet.tail hL0)))) gRange tRange
  obtain ⟨xSyntax, hvSyntax⟩ := sent (laidMet.tail (laidMet.tail (laidMet.tail (laidMet.tail (laidMet.tail hL0))))) gSyntax tSyntax
  obtain ⟨xNumber, hvNumber⟩ := sent (laidMet.tail (laidMet.tail (laidMet.tail (laidMet.tail (laidMet.tail (laidMet.tail hL0)))))) gNumber tNumber
  obtain ⟨mx, hmx⟩ := max_len W hsh
  obtain ⟨rfl, rfl⟩ := hV.unique (vars_read1 enc gNumber tNumber Tryz.underlying84 hvNumber trivial _)
  clear hA0 hV0 hval0
  refine (walk a0 W w0 ⟨hT, ⟨_, _, hvSyntax⟩, ⟨_, _, hvRange⟩, ⟨_, _, cell_of_var gNumber hvNumber⟩⟩ mx hmx).mono fun e W' ⟨he, hb⟩ => ?_
  subst he
  refine ⟨_, rfl, _, _, _, [], ([] ++ []), [.cell 0 0], hW', ?_, ?_, ?_, Below.frame hb _, fun h => by cases h⟩
  · exact trodAll_mk1 (shut_bool Tryz.underlying4 _)
  · exact (trodAll_cons_mk (shut_string Tryz.underlying9 w0) trodAll_mk0)
  · exact vars_read1 enc gNumber tNumber Tryz.underlying84 (var_kept hb hvNumber) trivial _

theorem over : Rows.FnExactTextStepSaid :=
  OpenClaim.holds_of_wide 4 Tryz.f4 rfl rfl rfl rfl rfl rfl rfl ⟨rfl, rfl, rfl, rfl, rfl⟩ rfl rfl rfl rfl rfl (by kernel_rfl) Tryz.func4 (by kernel_rfl)
    (of_decide_eq_true (by kernel_rfl)) (by unfold Func.isWrapper; first | (rw [if_pos (by decide +kernel)]; kernel_rfl) | (rw [if_neg (by decide +kernel)]; exact ⟨rfl, rfl⟩))
    (fun os started H enc _ => lifted os started H enc)
end Go.Proofs.YtjihinkjcplgcaaGreatDoor.fnExactTextStep
namespace Go.Proofs.YtjihinkjcplgcaaGreatDoor
theorem fnExactTextStep_holds : Rows.FnExactTextStepCardSaid :=
  Claim7.holds_tied_plain_at .later [] Rows.fnExactTextStepCard.laidKinds true Rows.fnExactTextStepCard.stood.harness true
    fnExactTextStep.over (fun _ h => by cases h) (by kernel_rfl) (fun _ h => by cases h) fnExactTextStep_row_tie rfl ⟨rfl, rfl⟩ (by kernel_rfl) rfl
    (fun f fn hf hfn => by
      obtain rfl : f = 4 := Option.some.inj ((show Tryz.prog.funcNamed Rows.fnExactTextStepRow.func = some 4 by kernel_rfl).symm.trans hf) |>.symm
      obtain rfl : fn = Tryz.f4 := (Option.some.inj (Tryz.func4.symm.trans hfn)).symm
      exact ⟨by kernel_rfl, fun j t ht => by
        rw [Tryz.params4] at ht
        have hm : t ∈ [9] := by simpa using Array.mem_of_getElem? ht
        have hall : ([9].all fun u => !Tryz.prog.wantsStandIn u) = true := by kernel_rfl
        exact (show Tryz.prog.wantsStandIn t = false by simpa using List.all_eq_true.1 hall t hm)⟩)
    (by kernel_rfl)
end Go.Proofs.YtjihinkjcplgcaaGreatDoor
