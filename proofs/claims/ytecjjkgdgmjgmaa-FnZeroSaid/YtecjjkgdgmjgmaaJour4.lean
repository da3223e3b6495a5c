/- The program's post: a posting into a journal. -/
import Derived.Test.YtecjjkgdgmjgmaaJour3
namespace Go.Proofs.Ytecjjkgdgmjgmaa
open Go.RowKit Go.Maps
set_option linter.unusedVariables false

/-- The code of a posting. -/
def jcode (id : Int) (M : List Ln) (pid : Int) (P : List Ln) : Int := if postB pid P = false then 1 else if pid ≤ id then 2 else if carB M P = false then 3 else 0
/-- The cells of a journal. -/
def jf (id : Int) (b : Nat) : Nat → Value := fun i => if i = 0 then .int .i64 id else .map (some b)
/-- What a posting turns. -/
structure JPosted (J b n : Nat) (id pid : Int) (M P : List Ln) (w w' : World) : Prop where
  yes : jcode id M pid P = 0 → ∃ D', OwnsJ w' b (n + P.length) D' ∧ Rep D' (addAll M P) ∧ w'.rowIs J 82 2 (jf pid b)
  no : jcode id M pid P ≠ 0 → Keeps w w'
  os : w'.os = w.os
  tape : w'.tape = w.tape
  output : w'.output = w.output
  size : w.heap.size ≤ w'.heap.size
  block : ∀ k, k < w.heap.size → k ≠ J → k ≠ b → w'.heap[k]? = w.heap[k]?
theorem jposted_no {J b n : Nat} {id pid : Int} {M P : List Ln} {w w' : World} (h : jcode id M pid P ≠ 0) (hk : Keeps w w') : JPosted J b n id pid M P w w' :=
  ⟨fun e => absurd e h, fun _ => hk, hk.os, hk.tape, hk.output, hk.size, fun k hk' _ _ => hk.block k hk'⟩
theorem post_parts {pid : Int} {P : List Ln} (h : postB pid P = true) : 1 ≤ pid ∧ pid ≤ 1125899906842624 ∧ 2 ≤ P.length ∧ P.length ≤ 8 ∧ linesB P = true := by
  simp [postB] at h
  obtain ⟨⟨⟨⟨h1, h2⟩, h3⟩, h4⟩, h5⟩ := h
  exact ⟨h1, h2, h3, h4, h5⟩

set_option maxHeartbeats 2000000 in
theorem jpost_impl (J b n : Nat) (D : DataW Unit) (M P : List Ln) (id pid : Int) (a : Option Addr) (cap : Nat) (w0 w : World) (hJ : w.rowIs J 82 2 (jf id b)) (hO : OwnsJ w b n D) (hR : Rep D M) (hM : linesB M = true) (hn : n < 900000000)
    (hc0 : Cells w0 a (flat P)) (hk0 : Keeps w0 w) (hl : P.length ≤ 1048576) (hBJ : w0.heap.size ≤ J) (hBb : w0.heap.size ≤ b) :
    Calls Try.prog 42 #[.pointer (some ⟨J, 0, none⟩), .agg #[.int .i64 pid, .slice a P.length cap]] w fun e w' => e = .returned (.int .i64 (jcode id M pid P)) ∧ JPosted J b n id pid M P w w' := by
  have HKA := hide (Keeps.alloc (Keeps.refl w) (.cells #[.int .i64 pid, .slice a P.length cap] 27))
  have HD : Hid (∀ w', Keeps (w.alloc (.cells #[.int .i64 pid, .slice a P.length cap] 27)) w' → w'.cell? ⟨w.heap.size, 0, none⟩ = some (.int .i64 pid) ∧ w'.cell? ⟨w.heap.size, 1, none⟩ = some (.slice a P.length cap)) :=
    fun w' hk => ⟨hk.cell (by simp), hk.cell (by simp)⟩
  have HC0 := hide hc0
  have HK0 := hide hk0
  have HC := hide (hc0.kept hk0)
  have HO := hide hO
  have HR := hide hR
  have HJ := hide hJ
  have hJlt := hJ.lt
  have hblt := hO.lt
  have hJb : J ≠ b := by
    intro e
    subst e
    obtain ⟨es, clock, hb, _⟩ := hO
    have := hJ.cell (i := 0) (by decide)
    simp [World.cell?, hb] at this
  have HP := hide (fun w1 (hk : Keeps w w1) => impl_posting pid a cap P w1 (HC.out.kept hk) hl)
  have HM := hide hM
  clear hc0 hk0 hO hR hJ hM
  cases hp : postB pid P
  · rw [hp] at HP
    have HV : Hid (jcode id M pid P = 1) := by show _ = _; simp [jcode, hp]
    clear hp
    go_enter Try.func42, Try.ntmps42
    go_wp2_with fail
    refine (unhide HP _ HKA.out).mono ?_
    rintro e w1 ⟨rfl, hk1⟩
    go_wp2_with fail
    go_ret
    exact ⟨by rw [HV.out]; rfl, jposted_no (by rw [HV.out]; decide) (HKA.out.trans hk1)⟩
  · rw [hp] at HP
    obtain ⟨hp1, hp2, hp3, hp4, hpl⟩ := post_parts hp
    have HPl := hide hpl
    clear hpl
    go_enter Try.func42, Try.ntmps42
    go_wp2_with fail
    refine (unhide HP _ HKA.out).mono ?_
    rintro e w1 ⟨rfl, hk1⟩
    obtain ⟨d0, d1⟩ := HD.out _ hk1
    have HK1 := hide (HKA.out.trans hk1)
    have HK1a := hide hk1
    have rJ := Keeps.row HK1.out HJ.out
    have j0 := rJ.cell (i := 0) (by decide)
    simp [jf] at j0
    clear hk1 rJ HP
    go_wp2_with fail
    go_quiet (fail)
    by_cases hid : pid ≤ id
    · have HV : Hid (jcode id M pid P = 2) := by show _ = _; simp [jcode, hp, hid]
      clear hp
      go_wp2_with fail
      go_ret
      exact ⟨by rw [HV.out]; rfl, jposted_no (by rw [HV.out]; decide) (HK1.out.drewN _)⟩
    · have HK2 := hide (HK1.out.drewN nq)
      have HK2a := hide (HK1a.out.drewN nq)
      have HG := hide (lines_good HM.out)
      have HGP := hide (lines_good HPl.out)
      have HRM := hide (lines_mem_range HM.out)
      have HRP := hide (lines_mem_range HPl.out)
      have rJ2 := Keeps.row HK2.out HJ.out
      have hj1 := rJ2.cell (i := 1) (by decide)
      simp [jf] at hj1
      have HCar := hide (carries_impl J b n D M P a cap (w1.drewN nq) hj1 (HO.out.kept (HK2.out.grownJ (row := none)) (by simp)) HR.out HG.out HRM.out (HC.out.kept HK2.out) HGP.out HRP.out)
      obtain ⟨e0, e1⟩ := HD.out _ HK2a.out
      clear rJ2 hj1 d0 d1 j0
      cases hcar : carB M P
      · rw [hcar] at HCar
        have HV : Hid (jcode id M pid P = 3) := by show _ = _; simp [jcode, hp, hid, hcar]
        clear hcar hp
        go_wp2_with fail
        refine (unhide HCar).mono ?_
        rintro e w3 ⟨rfl, hk3⟩
        go_wp2_with fail
        go_ret
        exact ⟨by rw [HV.out]; rfl, jposted_no (by rw [HV.out]; decide) (HK2.out.trans hk3)⟩
      · rw [hcar] at HCar
        have HV : Hid (jcode id M pid P = 0) := by show _ = _; simp [jcode, hp, hid, hcar]
        have HCarB := hide hcar
        clear hcar hp
        go_wp2_with fail
        refine (unhide HCar).mono ?_
        rintro e w3 ⟨rfl, hk3⟩
        have HK3 := hide (HK2.out.trans hk3)
        have HK3a := hide (HK2a.out.trans hk3)
        obtain ⟨g0, g1⟩ := HD.out _ HK3a.out
        have HO3 := hide (HO.out.kept (HK3.out.grownJ (row := none)) (by simp))
        clear hk3 e0 e1
        go_wp2_with fail
        go_loopw [25] (fun y wr => ∃ (k : Nat) (D' : DataW Unit), k ≤ P.length ∧ y = .int .i64 (k : Int) ∧ Hid (OwnsJ wr b (n + k) D') ∧ Hid (Rep D' (addAll M (P.take k))) ∧ Hid (w3.grownBy wr (some b))) (fun y _ => P.length - (intOf y).toNat)
        case atStart => exact ⟨0, D, by omega, rfl, HO3, by show Rep _ _; simpa [addAll] using HR.out, ⟨rfl, rfl, rfl, Nat.le_refl _, fun _ _ _ => rfl⟩⟩
        case round =>
          obtain ⟨k, D', hk, rfl, HOk, HRk, HGk⟩ := hrel
          have hz3 := HK3.out.size
          have hzk := HGk.out.size
          have q0 := HGk.out.cell g0 (by simp; omega)
          have q1 := HGk.out.cell g1 (by simp; omega)
          have HJk := hide ((Keeps.row HK3.out HJ.out).of_block (HGk.out.block J (by omega) (by simp; exact hJb)))
          by_cases hlt : k < P.length
          · have HCk : Hid (Cells wr a (flat P)) := by
              rcases HC0.out with h | ⟨bb, off, e, h⟩
              · exact Or.inl h
              · refine Or.inr ⟨bb, off, e, fun j hj => HGk.out.cell (HK3.out.cell (HK0.out.cell (h j hj))) ?_⟩
                have := lt_of_cell (h j hj)
                simp
                omega
            obtain ⟨pb, off, ea, c0, c1, c2⟩ := cells_at HCk.out k hlt
            have hx := HGP.out.2 P[k] (List.getElem_mem hlt)
            have hxr : -1125899906842624 ≤ P[k].a ∧ P[k].a ≤ 1125899906842624 := by simpa [rangeB] using HRP.out P[k] (List.getElem_mem hlt)
            have hgk := addAll_good (good_take HGP.out k).2 HG.out
            have hbr := bal_range HRM.out P[k].k P[k].c
            rw [← addAll_at HGP.out HG.out hlt] at hbr
            have HTake := hide (addAll_take M P k hlt)
            have jr := HJk.out.cell (i := 1) (by decide)
            simp [jf] at jr
            have HAdd := hide (fun (o : Obj) => jadd_impl J b (n + k) D' (addAll M (P.take k)) P[k] (wr.alloc o) ((Keeps.alloc (Keeps.refl wr) o).cell jr) (HOk.out.alloc o) HRk.out hgk (by omega) hx.1 hx.2 hbr.1 hbr.2 hxr.1 hxr.2)
            clear hx hxr hgk hbr jr HCk
            generalize P[k] = x at *
            obtain ⟨xk, xc, xa⟩ := x
            dsimp only at *
            subst ea
            go_wp2_with fail
            refine (unhide HAdd _).mono ?_
            rintro e w4 ⟨rfl, D2, ho2, hr2, hg2⟩
            rw [← HTake.out] at hr2
            have HO2 := hide ho2
            have HR2 := hide hr2
            have HG2 := hide (HGk.out.trans ((World.grownBy_alloc wr _ _).trans hg2))
            clear ho2 hr2 hg2
            go_wp2_with fail
            go_roundw
            case rel => exact ⟨k + 1, D2, by omega, by go_num, HO2, HR2, HG2⟩
            case measure => simp [intOf]; omega
          · have e : k = P.length := by omega
            have jz := HJk.out.cell (i := 0) (by decide)
            have jfz := HJk.out.frozen 0
            simp [jf] at jz
            go_wp2_with fail
            go_ret
            refine ⟨by rw [HV.out]; rfl, fun _ => ⟨D', ?_, ?_, ?_⟩, fun h => absurd HV.out h, ?_, ?_, ?_, ?_, ?_⟩
            · rw [← e]; exact HOk.out.setCell (a := ⟨J, 0, none⟩) (fun h => hJb h.symm) _
            · have := HRk.out
              rwa [e, List.take_length] at this
            · refine (HJk.out.set 0 (.int .i64 pid)).congr ?_
              intro i hi
              by_cases h0 : i = 0
              · simp [jf, h0]
              · simp [jf, h0]
            · exact (HGk.out.os).trans HK3.out.os
            · exact (HGk.out.tape).trans HK3.out.tape
            · exact (HGk.out.output).trans HK3.out.output
            · have : (wr.setCell ⟨J, 0, none⟩ (.int .i64 pid)).heap.size = wr.heap.size := by simp [World.setCell]
              omega
            · intro i hi hiJ hib
              rw [Deep.blk_setCell_other _ _ _ _ (by simpa using hiJ), HGk.out.block i (by omega) (by simp; omega)]
              exact HK3.out.block i hi
end Go.Proofs.Ytecjjkgdgmjgmaa
