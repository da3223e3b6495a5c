/- Texts of the verifier, joined: Pi, Ps, Pt, Sc, Ch, Mr, Mc. -/
import Derived.Test.YtjdbedlgkngdkaaGreatDoorPMoves8
import Derived.Test.YtjdbedlgkngdkaaGreatDoorPMoves6
import Derived.Test.YtjdbedlgkngdkaaGreatDoorPMoves7
import Derived.Lib.SliceRun
namespace Go.Proofs.YtjdbedlgkngdkaaGreatDoor
open Go.RowKit Go.Deep
set_option linter.unusedVariables false
set_option linter.unusedSimpArgs false
set_option maxRecDepth 10000

set_option maxHeartbeats 4000000 in
theorem least1_k (rb R m : Nat) (a : Arc) (g : Nat → Int) (w : World) (hr : w.rowIs R 3 m (fun id => .int .i64 (g id))) (hc : w.cell? ⟨rb, 0, none⟩ = some (.slice (some ⟨R, 0, none⟩) m m)) (hne : rb ≠ R) (h0 : 0 ≤ a.nm) (h1 : a.nm < (m : Int)) :
    Calls Tryz.prog 123 #[a.v, .pointer (some ⟨rb, 0, none⟩)] w fun e w' => e = .returned (.tuple #[]) ∧ (w'.rowIs R 3 m (fun id => .int .i64 (if a.nm = (id : Int) then a.rs else g id)) ∧ w'.cell? ⟨rb, 0, none⟩ = some (.slice (some ⟨R, 0, none⟩) m m)) ∧ Turn [R] w w' := by
  have HB := hide (arc_box w a 147)
  have HK := hide (Keeps.alloc (Keeps.refl w) (.cells #[.int .i64 a.nm, .int .i64 a.fr, .int .i64 a.to, .int .i64 a.rs, .int .i64 a.co] 147))
  obtain ⟨nm, fr, to, rs, co⟩ := a
  dsimp only [Arc.v] at *
  obtain ⟨p, rfl⟩ : ∃ p : Nat, nm = (p : Int) := ⟨nm.toNat, by omega⟩
  have hp : p < m := by omega
  have hl := hr.lt
  have HR := hide (HK.out.rowK hr)
  have q0 := HK.out.cell hc
  clear hr hc
  go_enter Tryz.func123, Tryz.ntmps123
  go_upto_region 1 with fail
  obtain ⟨v0, v1, v2, v3, v4⟩ := HB.out
  generalize w.alloc (.cells #[.int .i64 (p : Int), .int .i64 fr, .int .i64 to, .int .i64 rs, .int .i64 co] 147) = W1 at *
  have r0 := HR.out.cell (i := p) hp
  have f0 := HR.out.frozen p
  go_wp2_with fail
  have ht : Turn [R] W1 (W1.setCell ⟨R, p, none⟩ (.int .i64 rs)) := Turn.set (by simp) _
  go_end0
  refine ⟨rfl, ⟨(HR.out.set p (.int .i64 rs)).congr (fun i _ => ?_), ht.cell (by simp; omega) q0⟩, (Turn.of_keeps HK.out _).trans' ht⟩
  by_cases e : i = p
  · subst e; simp
  · rw [if_neg e, if_neg (by omega)]
theorem tell_k (n : Nat) (E : List Edg) (f : List Int) (ea : Option Addr) (ec : Nat) (fa : Option Addr) (fc : Nat) (rb R : Nat) (w : World) (hflow : flowB (n : Int) E f = true) (hm : Mem w [(ea, egs E)]) (hf : Cells w fa (its f))
    (hE : ∀ b ∈ fp [(ea, egs E)], b ∉ [R]) (hF : ∀ b ∈ fp [(fa, its f)], b ∉ [R]) (hne : rb ≠ R) (hr : w.rowIs R 3 (2 * E.length) (fun id => .int .i64 0)) (hc : w.cell? ⟨rb, 0, none⟩ = some (.slice (some ⟨R, 0, none⟩) (2 * E.length) (2 * E.length))) :
    Calls Tryz.prog 92 #[.agg #[.int .i64 (n : Int), .slice ea E.length ec], .slice fa E.length fc, .func (Fn.func 123) #[] #[.pointer (some ⟨rb, 0, none⟩)]] w fun e w' => e = .returned (.tuple #[]) ∧ (w'.rowIs R 3 (2 * E.length) (fun id => .int .i64 (restV (arcs E f) id)) ∧ w'.cell? ⟨rb, 0, none⟩ = some (.slice (some ⟨R, 0, none⟩) (2 * E.length) (2 * E.length))) ∧ Turn [R] w w' := by
  have hle := (flowB_true hflow).2.1
  have h := each_least ⟨(n : Int), ea, ec, E⟩ n fa fc f rb (fun j w' => w'.rowIs R 3 (2 * E.length) (fun id => .int .i64 (restTo (arcs E f) j id)) ∧ w'.cell? ⟨rb, 0, none⟩ = some (.slice (some ⟨R, 0, none⟩) (2 * E.length) (2 * E.length))) [R] w rfl hflow hm hf hE hF (by
    have a1 := hr.lt
    intro b hb
    simp at hb
    omega) (fun j w1 w2 h hk => ⟨hk.rowK h.1, hk.cell h.2⟩) (fun j hj w1 hJ => by
      dsimp only at hj ⊢
      have ha := arc_ok hflow (List.getElem_mem hj)
      have h1 := least1_k rb R (2 * E.length) (arcs E f)[j] (restTo (arcs E f) j) w1 hJ.1 hJ.2 hne ha.2.2.2.2.2.2.2.2.2.1 (by omega)
      refine h1.mono ?_
      rintro e w2 ⟨he, hr2, ht⟩
      refine ⟨he, ⟨hr2.1.congr (fun i _ => ?_), hr2.2⟩, ht⟩
      rw [restTo_step hj]) ⟨hr, hc⟩
  rw [hle] at h
  exact h
/-- What is answered of the least rest. -/
def LeastP (E : List Edg) (f Q : List Int) (w : World) (e : Ending) (w' : World) : Prop := ∃ (x : Int) (b : Bool), e = .returned (.tuple #[.int .i64 x, .bool b]) ∧ (b = true ↔ Q ≠ [] ∧ vld (arcs E f) Q Q.length) ∧ (b = true → x = lst (arcs E f) Q Q.length) ∧ Keeps w w'
set_option maxHeartbeats 8000000 in
theorem least_k (n : Nat) (E : List Edg) (f : List Int) (ea : Option Addr) (ec : Nat) (fa : Option Addr) (fc : Nat) (ra : Option Addr) (rc : Nat) (Q : List Int) (w : World) (hflow : flowB (n : Int) E f = true) (hm : Mem w [(ea, egs E)]) (hf : Cells w fa (its f)) (hq : Cells w ra (its Q)) (hql : Q.length ≤ 1048576) :
    Calls Tryz.prog 97 #[.agg #[.int .i64 (n : Int), .slice ea E.length ec], .slice fa E.length fc, .slice ra Q.length rc] w fun e w' => LeastP E f Q w e w' := by
  have HFL := hide hflow
  have HM := hide hm
  have HF := hide hf
  have HQ := hide hq
  obtain ⟨hg, hle, -, -⟩ := flowB_true hflow
  obtain ⟨g1, g2, g3, -⟩ := graphB_true hg
  clear hflow hm hf hq hg hle
  have HB := hide (gr_box ⟨(n : Int), ea, ec, E⟩ w 36)
  have HK := hide (Keeps.alloc (Keeps.refl w) (.cells #[.int .i64 (n : Int), .slice ea E.length ec] 36))
  have HS0 : Hid ((w.alloc (.cells #[.int .i64 (n : Int), .slice ea E.length ec] 36)).heap.size = w.heap.size + 1) := by show _ = _; simp
  have hmk := make_ints (2 * E.length) (by omega)
  have hw2 : IntKind.i64.wrap (2 * (E.length : Int)) = 2 * (E.length : Int) := by rw [IntKind.wrap_i64]; omega
  simp only [Int.natCast_mul, Int.cast_ofNat_Int] at hmk
  go_enter Tryz.func97, Tryz.ntmps97
  go_upto_region 2 with fail
  have HR0 := hide (World.rowIs_made (w.alloc (.cells #[.int .i64 (n : Int), .slice ea E.length ec] 36)) (.int .i64 0) (2 * E.length) 3)
  have HK1 := hide (Keeps.alloc (Keeps.refl (w.alloc (.cells #[.int .i64 (n : Int), .slice ea E.length ec] 36))) (.cells (madeCells #[.int .i64 0] (2 * E.length)) 3))
  have HS1 : Hid (((w.alloc (.cells #[.int .i64 (n : Int), .slice ea E.length ec] 36)).alloc (.cells (madeCells #[.int .i64 0] (2 * E.length)) 3)).heap.size = w.heap.size + 1 + 1) := by show _ = _; simp
  rw [HS0.out] at HR0
  generalize w.alloc (.cells #[.int .i64 (n : Int), .slice ea E.length ec] 36) = W1 at *
  generalize W1.alloc (.cells (madeCells #[.int .i64 0] (2 * E.length)) 3) = W2 at *
  have HK2 := hide (Keeps.alloc (Keeps.refl W2) (.cells #[.slice (some ⟨w.heap.size + 1, 0, none⟩) (2 * E.length) (2 * E.length)] 65))
  have HC0 : Hid ((W2.alloc (.cells #[.slice (some ⟨w.heap.size + 1, 0, none⟩) (2 * E.length) (2 * E.length)] 65)).cell? ⟨w.heap.size + 1 + 1, 0, none⟩ = some (.slice (some ⟨w.heap.size + 1, 0, none⟩) (2 * E.length) (2 * E.length))) := by
    show _ = _; rw [← HS1.out]; simp
  generalize W2.alloc (.cells #[.slice (some ⟨w.heap.size + 1, 0, none⟩) (2 * E.length) (2 * E.length)] 65) = W3 at *
  have HK3 := hide ((HK.out.trans HK1.out).trans HK2.out)
  have HB3 := hide ((HB.out.kept HK1.out).kept HK2.out)
  replace HR0 := hide (HK2.out.rowK HR0.out)
  clear HK HK1 HK2 HB HS0 HS1 hmk hw2
  obtain ⟨R, hR⟩ : ∃ R, R = w.heap.size + 1 := ⟨_, rfl⟩
  obtain ⟨rb, hrb⟩ : ∃ rb, rb = w.heap.size + 1 + 1 := ⟨_, rfl⟩
  have HLE : Hid (w.heap.size < R ∧ R < rb) := ⟨by omega, by omega⟩
  rw [← hrb, ← hR] at HC0
  rw [← hR] at HR0
  rw [← hrb, ← hR]
  clear hR hrb
  have HTL := hide (tell_k n E f ea ec fa fc rb R W3 HFL.out (HM.out.kept HK3.out) (HF.out.kept HK3.out) (fun b hb hx => by have := HM.out.lt b hb; have := HLE.out; simp at hx; omega) (fun b hb hx => by have := Cells.lt (s := (fa, its f)) HF.out b (by simpa [fp] using hb); have := HLE.out; simp at hx; omega) (by have := HLE.out; omega) HR0.out HC0.out)
  obtain ⟨q0, q1⟩ := HB3.out
  dsimp only at q0 q1
  go_wp2_with fail
  refine (unhide HTL).mono ?_
  rintro e w4 ⟨rfl, ⟨hr4, hc4⟩, ht4⟩
  have HR4 := hide hr4
  have HC4 := hide hc4
  have HK4 : Hid (Keeps w w4) := ht4.keeps HK3.out (by have := HLE.out; simp; omega)
  clear hr4 hc4 ht4 HTL HK3 HB3 HR0 HC0 q0 q1
  go_wp2_with fail
  go_loopw [9, 23] (fun l y wr => ∃ i : Nat, i ≤ Q.length ∧ l = .int .i64 (lst (arcs E f) Q i) ∧ y = .int .i64 (i : Int) ∧ Hid (wr.rowIs R 3 (2 * E.length) (fun id => .int .i64 (rstTo (arcs E f) Q i id))) ∧ Hid (wr.cell? ⟨rb, 0, none⟩ = some (.slice (some ⟨R, 0, none⟩) (2 * E.length) (2 * E.length))) ∧ Hid (vld (arcs E f) Q i) ∧ Hid (Keeps w wr)) (fun _ y _ => Q.length - (intOf y).toNat)
  case atStart => exact ⟨0, by omega, rfl, rfl, HR4.out, HC4.out, fun j hj => absurd hj (by omega), HK4.out⟩
  case round =>
    obtain ⟨i, hi, rfl, rfl, HR, HC, HV, HK⟩ := hrel
    clear HR4 HC4 HK4
    by_cases hlt : i < Q.length
    · obtain ⟨qb, qoff, qa, y0⟩ := its_at (HQ.out.kept HK.out) i hlt
      have HGD := hide (getD_at hlt)
      have HNO : Hid (¬ okAt (arcs E f) Q i → (false = true ↔ Q ≠ [] ∧ vld (arcs E f) Q Q.length)) := fun hno => ⟨fun h => Bool.noConfusion h, fun h => absurd (h.2 i hlt) hno⟩
      have HRG := hide (ok_range (R := Q) (i := i) HFL.out)
      have HRO := hide (fun id hid => rst_ok (R := Q) (i := i) (id := id) HFL.out hid)
      have HLS : Hid (lst (arcs E f) Q (i + 1) = min (lst (arcs E f) Q i) (restV (arcs E f) (Q.getD i (-1)).toNat)) := rfl
      have HRS : Hid (∀ id, rstTo (arcs E f) Q (i + 1) id = if Q.getD i (-1) = (id : Int) then 0 else rstTo (arcs E f) Q i id) := fun _ => rfl
      rw [HGD.out] at HRG HRO HLS HRS
      have q := HC.out
      generalize Q[i] = x at *
      obtain rfl := qa
      by_cases hx0 : 0 ≤ x
      rotate_left
      · go_wp2_with fail
        go_ret2
        exact ⟨0, false, rfl, HNO.out (fun ho => by have := (HRG.out ho).1; omega), fun h => Bool.noConfusion h, HK.out⟩
      obtain ⟨p, rfl⟩ : ∃ p : Nat, x = (p : Int) := ⟨x.toNat, by omega⟩
      by_cases hx1 : p < 2 * E.length
      rotate_left
      · go_wp2_with fail
        go_ret2
        exact ⟨0, false, rfl, HNO.out (fun ho => by have := (HRG.out ho).2; omega), fun h => Bool.noConfusion h, HK.out⟩
      obtain ⟨o1, o2, o3, o4⟩ := HRO.out p rfl
      have r0 := HR.out.cell (i := p) hx1
      have f0 := HR.out.frozen p
      have HRX := hide o2
      have HOX := hide o1
      clear o1 o2
      have hlb := lst_bound HFL.out Q i
      have hrl := HLE.out
      simp only [Int.toNat_natCast] at HLS
      by_cases hz : rstTo (arcs E f) Q i p = 0
      · rw [hz] at r0
        have HZ := hide hz
        clear hz o3 o4
        go_wp2_with fail
        go_ret2
        exact ⟨0, false, rfl, HNO.out (fun ho => (HOX.out.2 ho) HZ.out), fun h => Bool.noConfusion h, HK.out⟩
      · have HRV := hide (HRX.out hz)
        have HOK := hide (HOX.out.1 hz)
        clear HRX HOX
        generalize hrz : rstTo (arcs E f) Q i p = z at *
        have hz0 : (z == 0) = false := by simp [hz]
        have HRZ := hide hrz
        clear hrz
        generalize lst (arcs E f) Q i = l at *
        go_wp2_with fail
        have ht : Turn [R] wr (wr.setCell ⟨R, p, none⟩ (.int .i64 0)) := Turn.set (by simp) _
        go_roundw
        case rel =>
          refine ⟨i + 1, by omega, ?_, by go_num, (HR.out.set p (.int .i64 0)).congr (fun j _ => ?_), ht.cell (by simp; omega) HC.out, vld_succ HV.out HOK.out, ht.keeps HK.out (by simp; omega)⟩
          · rw [HLS.out, ← HRV.out]
            first | done | (congr 1; split <;> omega)
          · rw [HRS.out]
            by_cases e : j = p
            · subst e; simp
            · rw [if_neg e, if_neg (by omega)]
        case measure => simp [intOf]; omega
    · have e : i = Q.length := by omega
      subst e
      by_cases hq0 : Q = []
      · have hl0 : ¬ (0 : Int) < (Q.length : Int) := by rw [hq0]; simp
        have HQ0 := hide hq0
        clear hq0
        go_wp2_with fail
        go_ret2
        exact ⟨_, _, rfl, ⟨fun h => absurd h (by simp [HQ0.out]), fun h => absurd HQ0.out h.1⟩, fun _ => rfl, HK.out⟩
      · have hl0 : 0 < Q.length := List.length_pos_iff.2 hq0
        have HQ0 := hide hq0
        clear hq0
        go_wp2_with fail
        go_ret2
        exact ⟨_, _, rfl, ⟨fun _ => ⟨HQ0.out, HV.out⟩, fun _ => by simp <;> omega⟩, fun _ => rfl, HK.out⟩
theorem cells_add_at {w : World} {b off : Nat} {f : List Int} (h : Cells w (some ⟨b, off, none⟩) (its f)) : ∀ j u, (its f)[j]? = some u → w.cell? ((⟨b, off, none⟩ : Addr).add j) = some u := by
  intro j u hj
  rcases h with h | ⟨b', off', e, h⟩
  · rw [h] at hj; simp at hj
  · cases e
    obtain ⟨hj', e'⟩ := List.getElem?_eq_some_iff.1 hj
    have := h j hj'
    rw [e'] at this
    rw [← this, addr_at]
set_option maxHeartbeats 2000000 in
theorem clone_k (fb foff fc : Nat) (f : List Int) (w : World) (hf : Cells w (some ⟨fb, foff, none⟩) (its f)) (hl : f.length ≤ 1000000) :
    Calls Tryz.prog 98 #[.slice (some ⟨fb, foff, none⟩) f.length fc] w fun e w' => ∃ g cap, e = .returned (.slice (some ⟨g, 0, none⟩) f.length cap) ∧ OwnsI w' w.heap.size (.slice (some ⟨g, 0, none⟩) f.length cap) f ∧ Keeps w w' := by
  have HK := hide (Keeps.alloc (Keeps.refl w) (.cells #[] 3))
  have HM := hide (cells_add_at (hf.kept HK.out))
  have HO : Hid (OwnsI (w.alloc (.cells #[] 3)) w.heap.size (.slice (some ⟨w.heap.size, 0, none⟩) 0 0) []) := World.ownsRow_made (base := w.heap.size) (e := 3) (size := 1) w #[] 0 (Nat.le_refl _) (by decide) (by simp)
  have HB : Hid (w.heap.size ≤ (w.alloc (.cells #[] 3)).heap.size) := by show _ ≤ _; simp
  clear hf
  have q22 : ∀ (w : World) (a : Option Addr) (n c : Nat), (binOp .eql 65 (.slice a n c) (.slice none 0 0)).run Tryz.prog w = .ok (.bool a.isNone) w := fun w a n c => Lib.run_eql_slice_nil w _ _ a n c 0 0 underInts
  go_enter Tryz.func98, Tryz.ntmps98
  go_wp2_with (at_builtin; refine app_its rfl (.tmp 5) (.tmp 6) rfl w.heap.size _ [] f rfl ⟨fb, foff, none⟩ fc rfl HM.out HO.out (by simp <;> omega) HB.out ?_; intro v' w' ho hg hnn)
  go_ret
  have hv := hnn (by intro h; cases h)
  rw [List.nil_append] at ho
  obtain ⟨ho1, ho2⟩ := ho
  rcases ho2 with ⟨hz, _⟩ | ⟨g', cap', cur, e, ho3⟩
  · exact absurd hz hv
  · subst e
    exact ⟨g', cap', rfl, ⟨ho1, .inr ⟨g', cap', cur, rfl, ho3⟩⟩, Keeps.grown HK.out hg (fun j hj => (HO.out.lt j hj).1)⟩
end Go.Proofs.YtjdbedlgkngdkaaGreatDoor
namespace Go.Proofs.YtjdbedlgkngdkaaGreatDoor
open Go.RowKit Go.Deep
set_option linter.unusedVariables false
set_option linter.unusedSimpArgs false
set_option maxRecDepth 10000

theorem own_lit {w : World} {base : Nat} {v : Value} {f : List Int} {m : Nat} (h : OwnsI w base v ([] ++ f)) (hv : v ≠ .slice none 0 0) (hl : f.length = m) : ∃ g cap, v = .slice (some ⟨g, 0, none⟩) m cap ∧ Hid (OwnsI w base (.slice (some ⟨g, 0, none⟩) m cap) f) := by
  rw [List.nil_append] at h
  obtain ⟨h1, h2⟩ := h
  rcases h2 with ⟨hz, _⟩ | ⟨g, cap, cur, e, h3⟩
  · exact absurd hz hv
  · subst e hl
    exact ⟨g, cap, rfl, ⟨h1, .inr ⟨g, cap, cur, rfl, h3⟩⟩⟩
set_option maxHeartbeats 16000000 in
theorem push_spec (G : Gf) (fa : Option Addr) (fc : Nat) (f : List Int) (ra : Option Addr) (rc : Nat) (Q : List Int) (w : World) (hm : Mem w G.segs) (hf : Cells w fa (its f)) (hq : Cells w ra (its Q)) (hl : G.len) (hlf : f.length ≤ 1048576) (hlq : Q.length ≤ 1048576) :
    Calls Tryz.prog 67 #[G.v, .slice fa f.length fc, .slice ra Q.length rc] w fun e w' => ∃ a c, e = .returned (.tuple #[.slice a (pushV G.nn G.E f Q).length c, .bool (pushOk G.nn G.E f Q)]) ∧ Born w w' [(a, its (pushV G.nn G.E f Q))] ∧ (a = none → c = 0) ∧ Keeps w w' := by
  have HQ := hide (fun w' (hk : Keeps w w') => flow_spec G fa fc f w' (hm.kept hk) (hf.kept hk) hl hlf)
  have HQ2 := hide (fun g cap (L : List Int) w' (hk : Keeps w w') (hc : Cells w' (some ⟨g, 0, none⟩) (its L)) (hl2 : L.length ≤ 1048576) => flow_spec G (some ⟨g, 0, none⟩) cap L w' (hm.kept hk) hc hl hl2)
  obtain ⟨nn, ea, ec, E⟩ := G
  have HM := hide hm
  have HF := hide hf
  have HR := hide hq
  have HB := hide (gr_box ⟨nn, ea, ec, E⟩ w 36)
  have HK := hide (Keeps.alloc (Keeps.refl w) (.cells #[.int .i64 nn, .slice ea E.length ec] 36))
  dsimp only [Gf.v, Gf.len, Gf.segs] at *
  clear hm hf hq
  cases hb : flowB nn E f
  · obtain ⟨h1, h2⟩ := push_no (R := Q) (show ¬ pushP nn E f Q from fun h => by rw [h.1] at hb; cases hb)
    rw [h1, h2]
    clear h1 h2 HQ2
    go_enter Tryz.func67, Tryz.ntmps67
    go_wp2_with fail
    refine (unhide HQ _ HK.out).mono ?_
    rintro e w1 ⟨rfl, hk⟩
    rw [hb]
    go_wp2_with fail
    go_ret2
    exact ⟨none, 0, rfl, born_none _ _, fun _ => rfl, HK.out.trans hk⟩
  have HFL := hide hb
  obtain ⟨hg, hle, hcap, -⟩ := flowB_true hb
  obtain ⟨g1, g2, g3, g4⟩ := graphB_true hg
  obtain ⟨n, rfl⟩ : ∃ n : Nat, nn = (n : Int) := ⟨nn.toNat, by omega⟩
  have HFB : Hid (∀ j (hj : j < f.length), 0 ≤ f[j] ∧ f[j] ≤ 1000000000) := fun j hj => by
    have a := hcap j (by omega) hj
    have b := edgeB_true (g4 j (by omega))
    omega
  have HL := hide hle
  rw [hle] at HQ hlf ⊢
  clear hg hle hcap g4
  by_cases hq0 : Q = []
  · obtain ⟨h1, h2⟩ := push_no (R := Q) (show ¬ pushP (n : Int) E f Q from fun h => h.2.1 hq0)
    rw [h1, h2]
    have hq1 : ((Q.length : Int) == 0) = true := by rw [hq0]; rfl
    clear h1 h2 HQ2 hq0
    go_enter Tryz.func67, Tryz.ntmps67
    go_wp2_with fail
    refine (unhide HQ _ HK.out).mono ?_
    rintro e w1 ⟨rfl, hk⟩
    rw [hb]
    go_wp2_with fail
    go_ret2
    exact ⟨none, 0, rfl, born_none _ _, fun _ => rfl, HK.out.trans hk⟩
  have hqp : 0 < Q.length := List.length_pos_iff.2 hq0
  have hq1 : ((Q.length : Int) == 0) = false := by simp [hq0]
  have HQ0 := hide hq0
  clear hq0
  go_enter Tryz.func67, Tryz.ntmps67
  go_wp2_with fail
  refine (unhide HQ _ HK.out).mono ?_
  rintro e w1 ⟨rfl, hk⟩
  rw [hb]
  clear hb
  generalize w.alloc (.cells #[.int .i64 (n : Int), .slice ea E.length ec] 36) = W0 at *
  replace HB := hide (HB.out.kept hk)
  replace HK := hide (HK.out.trans hk)
  clear hk HQ
  obtain ⟨q0, q1⟩ := HB.out
  dsimp only at q0 q1
  have HAR := hide (arcs_spec ⟨(n : Int), ea, ec, E⟩ n fa fc f w1 rfl HFL.out (HM.out.kept HK.out) (HF.out.kept HK.out))
  dsimp only [Gf.v] at HAR
  go_wp2_with fail
  refine (unhide HAR).mono ?_
  rintro e w2 ⟨ga, ca, rfl, hb, hk⟩
  replace HB := hide (HB.out.kept hk)
  replace HK := hide (HK.out.trans hk)
  have HGA := hide (hb.toOwn.mem (some ⟨ga, 0, none⟩, ars (arcs E f)) (by simp))
  clear hb hk HAR q0 q1 hq1
  have h120 := (arcs_ok HFL.out).1
  go_wp2_with fail
  go_loopw [9, 33] (fun l y wr => ∃ i : Nat, i ≤ Q.length ∧ l = .int .i64 (lstM (arcs E f) Q i) ∧ y = .int .i64 (i : Int) ∧ Hid (vld (arcs E f) Q i) ∧ Hid (Keeps w2 wr)) (fun _ y _ => Q.length - (intOf y).toNat)
  case atStart => exact ⟨0, by omega, rfl, rfl, fun j hj => absurd hj (by omega), Keeps.refl _⟩
  case round =>
    obtain ⟨i, hi, rfl, rfl, HV, HKo⟩ := hrel
    obtain ⟨wo, hwo⟩ : ∃ wo, wo = wr := ⟨_, rfl⟩
    subst hwo
    by_cases hlt : i < Q.length
    · obtain ⟨qb, qoff, qa, y0⟩ := its_at (HR.out.kept HK.out) i hlt
      have HYQ : Hid (∀ w', Keeps w2 w' → ∀ k (hk : k < Q.length), w'.cell? ⟨qb, qoff + k, none⟩ = some (.int .i64 Q[k])) := fun w' hk' k hk => by
        obtain ⟨qb', qoff', qa', y'⟩ := its_at (HR.out.kept HK.out) k hk
        rw [qa] at qa'
        cases qa'
        exact hk'.cell y'
      replace y0 := HKo.out.cell y0
      have HGD := hide (getD_at hlt)
      have HNO : Hid (¬ okAt (arcs E f) Q i → pushOk (n : Int) E f Q = false ∧ pushV (n : Int) E f Q = []) := fun hno => push_no (fun hp => hno (hp.2.2.1 i hlt))
      have HOI := hide (okAt_iff (A := arcs E f) (Q := Q) (i := i))
      have HLS := hide (fun ho => lstM_step (Q := Q) (i := i) HFL.out ho)
      rw [HGD.out] at HOI HLS
      have HXQ := hide (rfl : Q[i] = Q[i])
      generalize hxx : Q[i] = x at y0 HOI HLS HXQ
      replace HXQ := hide hxx
      clear hxx
      obtain rfl := qa
      have hlb := lstM_bound HFL.out Q i
      go_wp2_with fail
      clear y0
      go_loopw [9, 12, 40] (fun l b y wr => ∃ j : Nat, j ≤ (arcs E f).length ∧ l = .int .i64 (scanL (arcs E f) x (lstM (arcs E f) Q i) j) ∧ b = .bool (scanB (arcs E f) x j) ∧ y = .int .i64 (j : Int) ∧ Hid (Keeps w2 wr)) (fun _ _ y _ => (arcs E f).length - (intOf y).toNat)
      case atStart => exact ⟨0, by omega, rfl, rfl, rfl, HKo.out⟩
      case round =>
        obtain ⟨j, hj, rfl, rfl, rfl, HKi⟩ := hrel
        by_cases hjl : j < (arcs E f).length
        · obtain ⟨gb, goff, hga, c0, c1, c2, c3, c4⟩ := ars_at (HGA.out.kept HKi.out) j hjl
          cases hga
          simp only [Nat.zero_add] at c0 c1 c2 c3 c4
          have HS1 := hide (scanL_step (id := x) (l0 := lstM (arcs E f) Q i) hjl)
          have HS2 := hide (scanB_step (id := x) hjl)
          generalize scanL (arcs E f) x (lstM (arcs E f) Q i) j = l at *
          generalize scanB (arcs E f) x j = b at *
          generalize (arcs E f)[j] = a at *
          obtain ⟨xnm, xfr, xto, xrs, xco⟩ := a
          dsimp only at c0 c1 c2 c3 c4 HS1 HS2
          have HKA := hide (HKi.out.alloc (.cells #[.int .i64 xnm, .int .i64 xfr, .int .i64 xto, .int .i64 xrs, .int .i64 xco] 156))
          by_cases hx : xnm = x
          · rw [if_pos hx] at HS1 HS2
            have hx1 : (xnm == x) = true := by simp [hx]
            clear hx
            by_cases hr : xrs < l
            · rw [if_pos hr] at HS1
              go_wp2_with fail
              go_roundw
              case rel => exact ⟨j + 1, by omega, by rw [HS1.out], by rw [HS2.out], by go_num, HKA.out⟩
              case measure => simp [intOf]; omega
            · rw [if_neg hr] at HS1
              go_wp2_with fail
              go_roundw
              case rel => exact ⟨j + 1, by omega, by rw [HS1.out], by rw [HS2.out], by go_num, HKA.out⟩
              case measure => simp [intOf]; omega
          · rw [if_neg hx] at HS1 HS2
            have hx1 : (xnm == x) = false := by simp [hx]
            clear hx
            go_wp2_with fail
            go_roundw
            case rel => exact ⟨j + 1, by omega, by rw [HS1.out], by rw [HS2.out], by go_num, HKA.out⟩
            case measure => simp [intOf]; omega
        · have e : j = (arcs E f).length := by omega
          subst e
          obtain ⟨wi, hwi⟩ : ∃ wi, wi = wr := ⟨_, rfl⟩
          subst hwi
          generalize scanB (arcs E f) x (arcs E f).length = b at *
          go_wp2_with fail
          go_loop [12, 15] (fun c y => ∃ k : Nat, k ≤ i ∧ c = .bool (b && !dup Q x k) ∧ y = .int .i64 (k : Int)) (fun _ y => i - (intOf y).toNat)
          case atStart => exact ⟨0, by omega, by simp [dup], rfl⟩
          case round =>
            obtain ⟨k, hk, rfl, rfl⟩ := hrel
            by_cases hki : k < i
            · have y0 := HYQ.out _ HKi.out k (by omega)
              have HDU : Hid (dup Q x (k + 1) = if Q.getD k (-1) = x then true else dup Q x k) := rfl
              rw [getD_at (show k < Q.length by omega)] at HDU
              generalize Q[k] = z at y0 HDU
              by_cases hz : z = x
              · rw [if_pos hz] at HDU
                have hz1 : (z == x) = true := by simp [hz]
                clear hz
                go_wp2_with fail
                go_round
                case rel => exact ⟨k + 1, by omega, by rw [HDU.out]; simp, by go_num⟩
                case measure => simp [intOf]; omega
              · rw [if_neg hz] at HDU
                have hz1 : (z == x) = false := by simp [hz]
                clear hz
                go_wp2_with fail
                go_round
                case rel => exact ⟨k + 1, by omega, by rw [HDU.out], by go_num⟩
                case measure => simp [intOf]; omega
            · have e : i = k := by omega
              subst e
              cases hbd : (b && !dup Q x i)
              · obtain ⟨h1, h2⟩ := HNO.out (fun ho => by have := HOI.out.1 ho; rw [hbd] at this; cases this)
                have HO1 := hide h1
                have HO2 := hide h2
                clear h1 h2 hbd
                go_wp2_with fail
                go_ret2
                exact ⟨none, 0, by rw [HO1.out, HO2.out]; rfl, by rw [HO2.out]; exact born_none _ _, fun _ => rfl, HK.out.trans HKi.out⟩
              · have HOK := hide (HOI.out.2 hbd)
                have HLN := hide (HLS.out HOK.out)
                clear hbd
                go_wp2_with fail
                go_roundw
                case rel => exact ⟨i + 1, by omega, by rw [HLN.out], by go_num, vld_succ HV.out HOK.out, HKi.out⟩
                case measure => simp [intOf]; omega
    · have e : i = Q.length := by omega
      subst e
      have hla : lstM (arcs E f) Q Q.length = lst (arcs E f) Q Q.length := by
        obtain ⟨m, hm⟩ : ∃ m, Q.length = m + 1 := ⟨Q.length - 1, by omega⟩
        rw [hm]; rfl
      rw [hla]
      have hab := lst_bound HFL.out Q Q.length
      have HPY : Hid (flowB (n : Int) E (psh f Q (lst (arcs E f) Q Q.length) Q.length) = true → pushOk (n : Int) E f Q = true ∧ pushV (n : Int) E f Q = psh f Q (lst (arcs E f) Q Q.length) Q.length) := fun h => push_yes ⟨HFL.out, HQ0.out, HV.out, h⟩
      have HPN : Hid (flowB (n : Int) E (psh f Q (lst (arcs E f) Q Q.length) Q.length) = false → pushOk (n : Int) E f Q = false ∧ pushV (n : Int) E f Q = []) := fun h => push_no (fun hp => by
        have := hp.2.2.2
        rw [h] at this; cases this)
      have hel : 0 < E.length := by
        have := ok_range HFL.out (HV.out 0 hqp)
        omega
      obtain ⟨fb, foff, hfa, hy0⟩ := its_at HF.out 0 (by rw [HL.out]; exact hel)
      subst hfa
      generalize lst (arcs E f) Q Q.length = amt at *
      have HKA := hide (Keeps.alloc (Keeps.refl wo) (.cells #[] 3))
      have HMF := hide (cells_add_at ((HF.out.kept HK.out).kept (HKo.out.trans HKA.out)))
      have HO0 : Hid (OwnsI (wo.alloc (.cells #[] 3)) wo.heap.size (.slice (some ⟨wo.heap.size, 0, none⟩) 0 0) []) := World.ownsRow_made (base := wo.heap.size) (e := 3) (size := 1) wo #[] 0 (Nat.le_refl _) (by decide) (by simp)
      have HBS : Hid (wo.heap.size ≤ (wo.alloc (.cells #[] 3)).heap.size) := by show _ ≤ _; simp
      have HFE : Hid (f.length = E.length) := HL.out
      have HXX : Hid ((Value.slice (some ⟨fb, foff, none⟩) E.length fc) = .slice (some ⟨fb, foff, none⟩) f.length fc) := by show _ = _; rw [HFE.out]
      clear hy0 hla
      go_wp2_with (at_builtin; refine app_its rfl (.tmp 69) (.tmp 70) rfl wo.heap.size _ [] f rfl ⟨fb, foff, none⟩ fc HXX.out HMF.out HO0.out (by simp; rw [HFE.out]; omega) HBS.out ?_; intro v' W5 ho hg hnn; obtain ⟨g, cap, rfl, HO5⟩ : ∃ g cap, v' = .slice (some ⟨g, 0, none⟩) E.length cap ∧ Hid (OwnsI W5 wo.heap.size (.slice (some ⟨g, 0, none⟩) E.length cap) f) := own_lit ho (hnn (by intro h; cases h)) HFE.out; have HK5 := hide (Keeps.grown HKA.out hg (fun j hj => (HO0.out.lt j hj).1)); clear ho hg hnn)
      go_loopw [74] (fun y wr => ∃ i : Nat, i ≤ Q.length ∧ y = .int .i64 (i : Int) ∧ Hid (OwnsI wr wo.heap.size (.slice (some ⟨g, 0, none⟩) E.length cap) (psh f Q amt i)) ∧ Hid (Turn [g] W5 wr)) (fun y _ => Q.length - (intOf y).toNat)
      case atStart => exact ⟨0, by omega, rfl, HO5.out, Turn.refl _ _⟩
      case round =>
        obtain ⟨i, hi, rfl, HO, HT⟩ := hrel
        have hgb := (HO5.out.lt g rfl).1
        have HKw := hide ((HK.out.trans HKo.out).size)
        have HKr : Hid (Keeps w wr) := HT.out.keeps ((HK.out.trans HKo.out).trans HK5.out) (by have := HKw.out; simp; omega)
        by_cases hlt : i < Q.length
        · obtain ⟨qb, qoff, qa, y0⟩ := its_at (HR.out.kept HKr.out) i hlt
          have hrg := ok_range HFL.out (HV.out i hlt)
          have hgd := getD_at hlt
          have HPS : Hid (psh f Q amt (i + 1) = (psh f Q amt i).set (Q.getD i (-1) / 2).toNat (if Q.getD i (-1) % 2 = 0 then (psh f Q amt i).getD (Q.getD i (-1) / 2).toNat 0 + amt else (psh f Q amt i).getD (Q.getD i (-1) / 2).toNat 0 - amt)) := rfl
          rw [hgd] at hrg HPS
          clear hgd
          generalize Q[i] = x at *
          obtain rfl := qa
          obtain ⟨p, rfl⟩ : ∃ p : Nat, x = (p : Int) := ⟨x.toNat, by omega⟩
          obtain ⟨k, hkp⟩ : ∃ k, k = p / 2 := ⟨_, rfl⟩
          have hkl : k < E.length := by omega
          have HKP := hide hkp
          have hpl := psh_len f Q amt i
          have hkf : k < (psh f Q amt i).length := by rw [hpl, HL.out]; exact hkl
          have e1 : ((p : Int) / 2).toNat = k := by omega
          rw [e1] at HPS
          have e2 : (psh f Q amt i).getD k 0 = (psh f Q amt i)[k] := by rw [List.getD_eq_getElem?_getD, List.getElem?_eq_getElem hkf]; rfl
          rw [e2] at HPS
          have hbd := psh_bound HFB.out hab.1 hab.2 (R := Q) i k hkf
          have hoe : wr.ownsRow wo.heap.size 3 1 (.slice (some ⟨g, 0, none⟩) E.length cap) E.length (its (psh f Q amt i)) := by
            have h := HO.out
            unfold OwnsI at h
            rw [hpl, HL.out] at h
            exact h
          have r0 : wr.cell? ⟨g, k, none⟩ = some (.int .i64 (psh f Q amt i)[k]) := by rw [hoe.cellAt k (by omega)]; simp [its, hkf]
          have f0 : wr.frozen? ⟨g, k, none⟩ = false := hoe.frozenAt k
          have HST := hide (fun u => (hoe.stored k (.int .i64 u)))
          have HIT : Hid (∀ u, (its (psh f Q amt i)).set k (.int .i64 u) = its ((psh f Q amt i).set k u)) := fun u => by simp [its, List.map_set]
          have HLL : Hid (∀ u, ((psh f Q amt i).set k u).length = (psh f Q amt i).length) := fun u => by simp
          generalize hz : (psh f Q amt i)[k] = z at *
          clear hz e1 e2 hoe hkp
          by_cases hpar : (p : Int) % 2 = 0
          · have hm0 : (p : Int) % 2 = 0 := hpar
            have hm1 : ((p : Int) % 2 == 0) = true := by rw [hm0]; rfl
            have hd0 : (p : Int) / 2 = (k : Int) := by have := HKP.out; omega
            clear hpar
            rw [if_pos hm0] at HPS
            have hw : IntKind.i64.wrap (z + amt) = z + amt := by rw [IntKind.wrap_i64]; omega
            have hsv := HST.out (z + amt)
            have HSV := hide hsv.1
            have HTG : Hid (Turn [g] W5 (wr.setCell ⟨g, k, none⟩ (.int .i64 (z + amt)))) := HT.out.trans' (Turn.set (by simp) _)
            clear hsv
            go_wp2_with fail
            go_roundw
            case rel =>
              refine ⟨i + 1, by omega, by go_num, ?_, HTG.out⟩
              show OwnsI _ _ _ _
              unfold OwnsI
              rw [HPS.out, HLL.out, hpl, HL.out, ← HIT.out]
              exact HSV.out
            case measure => simp [intOf]; omega
          · have hm0 : (p : Int) % 2 = 1 := by omega
            have hm1 : ((p : Int) % 2 == 0) = false := by rw [hm0]; rfl
            have hd0 : (p : Int) / 2 = (k : Int) := by have := HKP.out; omega
            clear hpar
            rw [if_neg (by omega)] at HPS
            have hw : IntKind.i64.wrap (z - amt) = z - amt := by rw [IntKind.wrap_i64]; omega
            have hsv := HST.out (z - amt)
            have HSV := hide hsv.1
            have HTG : Hid (Turn [g] W5 (wr.setCell ⟨g, k, none⟩ (.int .i64 (z - amt)))) := HT.out.trans' (Turn.set (by simp) _)
            clear hsv
            go_wp2_with fail
            go_roundw
            case rel =>
              refine ⟨i + 1, by omega, by go_num, ?_, HTG.out⟩
              show OwnsI _ _ _ _
              unfold OwnsI
              rw [HPS.out, HLL.out, hpl, HL.out, ← HIT.out]
              exact HSV.out
            case measure => simp [intOf]; omega
        · have e : i = Q.length := by omega
          subst e
          have hpl := psh_len f Q amt Q.length
          have ho2 : OwnsI wr wo.heap.size (.slice (some ⟨g, 0, none⟩) (psh f Q amt Q.length).length cap) (psh f Q amt Q.length) := by rw [hpl, HL.out]; exact HO.out
          have HBO := hide (born_owns (W := w) ho2 HKw.out)
          have HQF := hide (HQ2.out g cap (psh f Q amt Q.length) wr HKr.out (HBO.out.toOwn.mem (some ⟨g, 0, none⟩, its (psh f Q amt Q.length)) (by simp)) (by rw [hpl, HL.out]; omega))
          rw [hpl, HL.out] at HQF
          have HPL : Hid ((psh f Q amt Q.length).length = E.length) := by show _ = _; rw [hpl, HL.out]
          have HBr : Hid (GrAt wr w.heap.size ⟨(n : Int), ea, ec, E⟩) := by
            have h1 := lt_of_cell HB.out.1
            have h2 := HKo.out.size
            have hb := (HB.out.kept HKo.out).kept HK5.out
            exact ⟨HT.out.cell (by simp; omega) hb.1, HT.out.cell (by simp; omega) hb.2⟩
          obtain ⟨q0, q1⟩ := HBr.out
          dsimp only at q0 q1
          clear hpl ho2
          go_wp2_with fail
          refine (unhide HQF).mono ?_
          rintro e w5 ⟨rfl, hk⟩
          cases hfb : flowB (n : Int) E (psh f Q amt Q.length)
          · obtain ⟨h1, h2⟩ := HPN.out hfb
            have HO1 := hide h1
            have HO2 := hide h2
            clear h1 h2 hfb
            go_wp2_with fail
            go_ret2
            exact ⟨none, 0, by rw [HO1.out, HO2.out]; rfl, by rw [HO2.out]; exact born_none _ _, fun _ => rfl, HKr.out.trans hk⟩
          · obtain ⟨h1, h2⟩ := HPY.out hfb
            have HO1 := hide h1
            have HO2 := hide h2
            clear h1 h2 hfb
            go_wp2_with fail
            go_ret2
            exact ⟨some ⟨g, 0, none⟩, cap, by rw [HO1.out, HO2.out, HPL.out]; rfl, by rw [HO2.out]; exact ⟨HBO.out.toOwn.kept hk, HBO.out.new⟩, fun h => (nomatch h), HKr.out.trans hk⟩
end Go.Proofs.YtjdbedlgkngdkaaGreatDoor
namespace Go.Proofs.YtjdbedlgkngdkaaGreatDoor
open Go.RowKit Go.Deep
set_option linter.unusedVariables false

theorem pushV_60 (N : Int) (E : List Edg) (f Q : List Int) : (pushV N E f Q).length ≤ 60 := by
  unfold pushV
  split
  · next h =>
    have hp : pushP N E f Q := by simp only [pushOk, decide_eq_true_eq] at h; exact h
    obtain ⟨hg, hl, _, _⟩ := flowB_true hp.1
    obtain ⟨_, _, g3, _⟩ := graphB_true hg
    rw [psh_len]; omega
  · simp
end Go.Proofs.YtjdbedlgkngdkaaGreatDoor
namespace Go.Proofs.YtjdbedlgkngdkaaGreatDoor
open Go.RowKit Go.Deep
set_option linter.unusedVariables false

theorem ringV_24 (N : Int) (E : List Edg) (f : List Int) : (ringV N E f).length ≤ 24 := by
  cases h : ringOk N E f
  · simp [ringV, h]
  · have hf : flowB N E f = true := by simp [ringOk] at h; exact h.1
    have he : (turns (arcs E f) N.toNat).e ≠ -1 := by simp [ringOk] at h; exact h.2
    obtain ⟨hg, _, _, _⟩ := flowB_true hf
    obtain ⟨g1, g2, _, _⟩ := graphB_true hg
    obtain ⟨n, rfl⟩ : ∃ n : Nat, N = (n : Int) := ⟨N.toNat, by omega⟩
    simp only [Int.toNat_natCast] at he
    have hsi : SInv (arcs E f) n (arcs E f).length (turns (arcs E f) n) := by have := turns_inv (arcs_ok hf) (n - 1); rw [show n - 1 + 1 = n by omega] at this; exact this
    obtain ⟨_, _, m, hor⟩ := on_ring (arcs_ok hf) (by omega) hsi he
    rw [(ring_yes hf he hor).2, ringL_len]
    have := hor.le
    omega
end Go.Proofs.YtjdbedlgkngdkaaGreatDoor
namespace Go.Proofs.YtjdbedlgkngdkaaGreatDoor
open Go.RowKit Go.Deep
set_option linter.unusedVariables false
set_option linter.unusedSimpArgs false
set_option maxRecDepth 10000

/-- Rings and pushes from f on, at most m pushes. -/
noncomputable def chGo (N : Int) (E : List Edg) : Nat → List Int → Option (List Int)
  | 0, f => if ringOk N E f = true then none else some f
  | m + 1, f => if ringOk N E f = true then chGo N E m (pushV N E f (ringV N E f)) else some f
theorem chGo_no {N : Int} {E : List Edg} {f : List Int} (h : ringOk N E f = false) (m : Nat) : chGo N E m f = some f := by cases m <;> simp [chGo, h]
theorem chGo_end {N : Int} {E : List Edg} {f : List Int} (h : ringOk N E f = true) : chGo N E 0 f = none := by simp [chGo, h]
theorem chGo_on {N : Int} {E : List Edg} {f : List Int} (h : ringOk N E f = true) (m : Nat) : chGo N E (m + 1) f = chGo N E m (pushV N E f (ringV N E f)) := by simp [chGo, h]
noncomputable def chRes (N : Int) (E : List Edg) : Option (List Int) := if graphB N E = true then chGo N E 400 (List.replicate E.length 0) else none
noncomputable def chOk (N : Int) (E : List Edg) : Bool := (chRes N E).isSome
noncomputable def chV (N : Int) (E : List Edg) : List Int := (chRes N E).getD []
theorem ch_no {N : Int} {E : List Edg} (h : chRes N E = none) : chOk N E = false ∧ chV N E = [] := by simp [chOk, chV, h]
theorem ch_yes {N : Int} {E : List Edg} {f : List Int} (h : chRes N E = some f) : chOk N E = true ∧ chV N E = f := by simp [chOk, chV, h]
theorem born_made (w : World) (m : Nat) : Born w (w.alloc (.cells (madeCells #[.int .i64 0] m) 3)) [(some ⟨w.heap.size, 0, none⟩, its (List.replicate m 0))] :=
  born_row (World.rowIs_made w (.int .i64 0) m 3) (its (List.replicate m 0)) (by rw [its_length, List.length_replicate]; exact Nat.le_refl _) (fun j hj => by simp [its]) (Nat.le_refl _)
end Go.Proofs.YtjdbedlgkngdkaaGreatDoor
namespace Go.Proofs.YtjdbedlgkngdkaaGreatDoor
open Go.RowKit Go.Deep
set_option linter.unusedVariables false
set_option linter.unusedSimpArgs false
set_option maxRecDepth 10000

/-- One number of many is another: what goes in and out, and the cost. -/
theorem bal_set (E : List Edg) (f : List Int) (p : Nat) (hp : p < f.length) (hE : p < E.length) (x : Int) (v : Nat) : ∀ k, bal E (f.set p x) k v = bal E f k v + (if p < k then (if E[p].to = (v : Int) then x - f[p] else 0) - (if E[p].fr = (v : Int) then x - f[p] else 0) else 0)
  | 0 => by simp [bal]
  | k + 1 => by
    have ih := bal_set E f p hp hE x v k
    simp only [bal]
    rw [ih]
    by_cases e : k = p
    · subst e
      have h1 : (f.set k x).getD k 0 = x := by simp [List.getD_eq_getElem?_getD, hp]
      have h2 : f.getD k 0 = f[k] := by simp [List.getD_eq_getElem?_getD, hp]
      have h3 : E.getD k ⟨0, 0, 0, 0⟩ = E[k] := by simp [List.getD_eq_getElem?_getD, hE]
      rw [h1, h2, h3, if_neg (show ¬ k < k by omega), if_pos (show k < k + 1 by omega)]
      split <;> split <;> omega
    · have h1 : (f.set p x).getD k 0 = f.getD k 0 := by simp [List.getD_eq_getElem?_getD, List.getElem?_set_ne (Ne.symm e)]
      rw [h1]
      by_cases hk : p < k
      · rw [if_pos hk, if_pos (show p < k + 1 by omega)]; omega
      · rw [if_neg hk, if_neg (show ¬ p < k + 1 by omega)]; omega
theorem cost_set (E : List Edg) (f : List Int) (p : Nat) (hp : p < f.length) (hE : p < E.length) (x : Int) : ∀ k, costTo E (f.set p x) k = costTo E f k + (if p < k then E[p].co * (x - f[p]) else 0)
  | 0 => by simp [costTo]
  | k + 1 => by
    have ih := cost_set E f p hp hE x k
    simp only [costTo]
    rw [ih]
    by_cases e : k = p
    · subst e
      have h1 : (f.set k x).getD k 0 = x := by simp [List.getD_eq_getElem?_getD, hp]
      have h2 : f.getD k 0 = f[k] := by simp [List.getD_eq_getElem?_getD, hp]
      have h3 : E.getD k ⟨0, 0, 0, 0⟩ = E[k] := by simp [List.getD_eq_getElem?_getD, hE]
      rw [h1, h2, h3, if_neg (by omega), if_pos (by omega), Int.mul_sub]
      omega
    · have h1 : (f.set p x).getD k 0 = f.getD k 0 := by simp [List.getD_eq_getElem?_getD, List.getElem?_set_ne (Ne.symm e)]
      rw [h1]
      by_cases hk : p < k
      · rw [if_pos hk, if_pos (by omega)]; omega
      · rw [if_neg hk, if_neg (by omega)]; omega
/-- One step of a push, of an arc. -/
theorem push_step {n : Nat} {E : List Edg} {f : List Int} (h : flowB (n : Int) E f = true) {R : List Int} {amt : Int} {q : Nat} {a : Arc} (ha : a ∈ arcs E f) (hn : R.getD q (-1) = a.nm) :
    (∀ v : Nat, bal E (psh f R amt (q + 1)) E.length v = bal E (psh f R amt q) E.length v + (if a.to = (v : Int) then amt else 0) - (if a.fr = (v : Int) then amt else 0)) ∧ costTo E (psh f R amt (q + 1)) E.length = costTo E (psh f R amt q) E.length + a.co * amt := by
  have hle := (flowB_true h).2.1
  obtain ⟨p, hp, hpf, hc⟩ := arcs_of hle ha
  have hl := psh_len f R amt q
  have hpl : p < (psh f R amt q).length := by omega
  rcases hc with ⟨_, rfl⟩ | ⟨_, rfl⟩
  · dsimp only at hn ⊢
    have e1 : (R.getD q (-1) / 2).toNat = p := by rw [hn]; omega
    have e2 : R.getD q (-1) % 2 = 0 := by rw [hn]; omega
    have e3 : (psh f R amt q).getD p 0 = (psh f R amt q)[p] := by rw [List.getD_eq_getElem?_getD, List.getElem?_eq_getElem hpl]; rfl
    have e4 : psh f R amt (q + 1) = (psh f R amt q).set p ((psh f R amt q)[p] + amt) := by
      show (psh f R amt q).set _ _ = _
      rw [e1, if_pos e2, e3]
    rw [e4]
    refine ⟨fun v => ?_, ?_⟩
    · rw [bal_set E _ p hpl hp _ v E.length, if_pos hp]
      have e5 : (psh f R amt q)[p] + amt - (psh f R amt q)[p] = amt := by omega
      rw [e5]; omega
    · rw [cost_set E _ p hpl hp _ E.length, if_pos hp]
      have e5 : (psh f R amt q)[p] + amt - (psh f R amt q)[p] = amt := by omega
      rw [e5]
  · dsimp only at hn ⊢
    have e1 : (R.getD q (-1) / 2).toNat = p := by rw [hn]; omega
    have e2 : ¬ R.getD q (-1) % 2 = 0 := by rw [hn]; omega
    have e3 : (psh f R amt q).getD p 0 = (psh f R amt q)[p] := by rw [List.getD_eq_getElem?_getD, List.getElem?_eq_getElem hpl]; rfl
    have e4 : psh f R amt (q + 1) = (psh f R amt q).set p ((psh f R amt q)[p] - amt) := by
      show (psh f R amt q).set _ _ = _
      rw [e1, if_neg e2, e3]
    rw [e4]
    refine ⟨fun v => ?_, ?_⟩
    · rw [bal_set E _ p hpl hp _ v E.length, if_pos hp]
      have e5 : (psh f R amt q)[p] - amt - (psh f R amt q)[p] = -amt := by omega
      rw [e5]
      split <;> split <;> omega
    · rw [cost_set E _ p hpl hp _ E.length, if_pos hp]
      have e5 : (psh f R amt q)[p] - amt - (psh f R amt q)[p] = -amt := by omega
      rw [e5, Int.neg_mul, Int.mul_neg]
theorem dup_succ (Q : List Int) (id : Int) (k : Nat) : dup Q id (k + 1) = if Q.getD k (-1) = id then true else dup Q id k := rfl
/-- Each number when q arcs were pushed along. -/
theorem psh_at {n : Nat} {E : List Edg} {f : List Int} (h : flowB (n : Int) E f = true) {R : List Int} {amt : Int} : ∀ q, vld (arcs E f) R q → ∀ i (hi : i < f.length), (psh f R amt q)[i]'(by rw [psh_len]; exact hi) = f[i] + (if dup R (2 * (i : Int)) q = true then amt else 0) - (if dup R (2 * (i : Int) + 1) q = true then amt else 0)
  | 0, _, i, hi => by simp [psh, dup]
  | q + 1, hv, i, hi => by
    have ih := psh_at h (R := R) (amt := amt) q (fun j hj => hv j (by omega)) i hi
    have ho := hv q (by omega)
    have hr := ok_range h ho
    have hd : dup R (R.getD q (-1)) q = false := by
      cases hc : dup R (R.getD q (-1)) q
      · rfl
      · obtain ⟨k, hk, e⟩ := (dup_iff q).1 hc
        exact absurd e (ho.2 k hk)
    have hl := psh_len f R amt q
    have hil : i < (psh f R amt q).length := by omega
    rw [dup_succ, dup_succ]
    generalize hx : R.getD q (-1) = x at *
    have hs : ∀ (hj : i < (psh f R amt (q + 1)).length), (psh f R amt (q + 1))[i] = if (x / 2).toNat = i then (if x % 2 = 0 then (psh f R amt q).getD (x / 2).toNat 0 + amt else (psh f R amt q).getD (x / 2).toNat 0 - amt) else (psh f R amt q)[i] := by
      intro hj
      simp only [psh, List.getElem_set, hx]
    rw [hs]
    by_cases e : (x / 2).toNat = i
    · rw [if_pos e, e]
      have e3 : (psh f R amt q).getD i 0 = (psh f R amt q)[i] := by rw [List.getD_eq_getElem?_getD, List.getElem?_eq_getElem hil]; rfl
      rw [e3, ih]
      by_cases e2 : x % 2 = 0
      · have ex : x = 2 * (i : Int) := by omega
        rw [if_pos e2, if_pos ex, if_neg (show ¬ x = 2 * (i : Int) + 1 by omega)]
        rw [ex] at hd
        rw [hd]
        simp
        omega
      · have ex : x = 2 * (i : Int) + 1 := by omega
        rw [if_neg e2, if_pos ex, if_neg (show ¬ x = 2 * (i : Int) by omega)]
        rw [ex] at hd
        rw [hd]
        simp
    · rw [if_neg e, ih, if_neg (show ¬ x = 2 * (i : Int) by omega), if_neg (show ¬ x = 2 * (i : Int) + 1 by omega)]
theorem lst_le {A : List Arc} {R : List Int} : ∀ q k, k < q → lst A R q ≤ restV A (R.getD k (-1)).toNat
  | 0, k, h => absurd h (by omega)
  | q + 1, k, h => by
    unfold lst
    by_cases e : k = q
    · subst e; omega
    · have := lst_le (A := A) (R := R) q k (by omega); omega
theorem lst_pos {n : Nat} {E : List Edg} {f : List Int} (h : flowB (n : Int) E f = true) {R : List Int} : ∀ q, vld (arcs E f) R q → 1 ≤ lst (arcs E f) R q
  | 0, _ => by simp [lst]
  | q + 1, hv => by
    have ih := lst_pos h (R := R) q (fun j hj => hv j (by omega))
    obtain ⟨⟨a, ha, e⟩, _⟩ := hv q (by omega)
    have h1 := rest_of h ha
    have h2 := arc_ok h ha
    unfold lst
    rw [← e, h1]
    omega
/-- Right names with nothing in or out over all: the push goes. -/
theorem push_fits {n : Nat} {E : List Edg} {f : List Int} (h : flowB (n : Int) E f = true) {R : List Int} (hv : vld (arcs E f) R R.length) : inCap E (psh f R (lst (arcs E f) R R.length) R.length) := by
  intro i hi hif
  have hle := (flowB_true h).2.1
  have hcap := (flowB_true h).2.2.1 i hi (by omega)
  rw [psh_at h R.length hv i (by omega)]
  have hp := lst_pos h R.length hv
  have hA : dup R (2 * (i : Int)) R.length = true → lst (arcs E f) R R.length ≤ E[i].cp - f[i]'(by omega) := fun hd => by
    obtain ⟨k, hk, e⟩ := (dup_iff R.length).1 hd
    have h1 := lst_le (A := arcs E f) (R := R) R.length k hk
    obtain ⟨⟨a, ha, ea⟩, _⟩ := hv k hk
    rw [← ea, rest_of h ha] at h1
    obtain ⟨j, hj, hjf, hc⟩ := arcs_of hle ha
    rcases hc with ⟨_, rfl⟩ | ⟨_, rfl⟩
    · dsimp only at ea h1
      obtain rfl : j = i := by omega
      exact h1
    · dsimp only at ea; omega
  have hZ : dup R (2 * (i : Int) + 1) R.length = true → lst (arcs E f) R R.length ≤ f[i]'(by omega) := fun hd => by
    obtain ⟨k, hk, e⟩ := (dup_iff R.length).1 hd
    have h1 := lst_le (A := arcs E f) (R := R) R.length k hk
    obtain ⟨⟨a, ha, ea⟩, _⟩ := hv k hk
    rw [← ea, rest_of h ha] at h1
    obtain ⟨j, hj, hjf, hc⟩ := arcs_of hle ha
    rcases hc with ⟨_, rfl⟩ | ⟨_, rfl⟩
    · dsimp only at ea; omega
    · dsimp only at ea h1
      obtain rfl : j = i := by omega
      exact h1
  by_cases a : dup R (2 * (i : Int)) R.length = true
  · have := hA a
    rw [if_pos a]
    by_cases z : dup R (2 * (i : Int) + 1) R.length = true
    · have := hZ z; rw [if_pos z]; omega
    · rw [if_neg z]; omega
  · rw [if_neg a]
    by_cases z : dup R (2 * (i : Int) + 1) R.length = true
    · have := hZ z; rw [if_pos z]; omega
    · rw [if_neg z]; omega
/-- The costs of the arcs of a ring. -/
def csum (A : List Arc) (S : Srch) (b : Nat) : Nat → Int
  | 0 => 0
  | q + 1 => csum A S b q + (pa A S (bk A S q b)).co
theorem csum_low {N n j : Nat} {A : List Arc} {S : Srch} {b m : Nat} (h : SInv A n j S) (hr : OnRing N A S b m) : ∀ q, 1 ≤ q → (csum A S b q = S.d b - S.d (bk A S q b) ∧ S.t (bk A S q b) < S.t b) ∨ csum A S b q < S.d b - S.d (bk A S q b)
  | 0, h1 => absurd h1 (by omega)
  | 1, _ => by
    have h1 := (h.set _ (hr.set 0)).2.2.2.2
    show (0 + _ = _ ∧ _) ∨ _
    simp only [csum, bk] at h1 ⊢
    rcases h1 with ⟨a, e⟩ | e
    · exact Or.inl ⟨by omega, a⟩
    · exact Or.inr (by omega)
  | q + 2, _ => by
    have ih := csum_low h hr (q + 1) (by omega)
    have h1 := (h.set _ (hr.set (q + 1))).2.2.2.2
    have e1 : csum A S b (q + 2) = csum A S b (q + 1) + (pa A S (bk A S (q + 1) b)).co := rfl
    have e2 : bk A S (q + 2) b = (pa A S (bk A S (q + 1) b)).fr.toNat := rfl
    rw [e1, e2]
    rcases ih with ⟨a, e⟩ | e <;> rcases h1 with ⟨a', e'⟩ | e'
    · exact Or.inl ⟨by omega, by omega⟩
    · exact Or.inr (by omega)
    · exact Or.inr (by omega)
    · exact Or.inr (by omega)
theorem ring_arc {N n j : Nat} {A : List Arc} {S : Srch} {b m : Nat} (h : SInv A n j S) (hr : OnRing N A S b m) (q : Nat) : pa A S (bk A S q b) ∈ A ∧ (pa A S (bk A S q b)).to.toNat = bk A S q b ∧ (pa A S (bk A S q b)).fr.toNat = bk A S (q + 1) b :=
  ⟨pa_mem (h.set _ (hr.set q)).1, (h.set _ (hr.set q)).2.1, rfl⟩
theorem ringL_getD {A : List Arc} {S : Srch} {b m q : Nat} (hq : q < m) : (ringL A S b m).getD q (-1) = (pa A S (bk A S q b)).nm := by
  simp [ringL, List.getD_eq_getElem?_getD, hq]
/-- Pushing along the ring that is found: it goes, it is a flow, it costs less. -/
theorem ring_push {N : Int} {E : List Edg} {f : List Int} (hro : ringOk N E f = true) : pushP N E f (ringV N E f) ∧ costTo E (psh f (ringV N E f) (lst (arcs E f) (ringV N E f) (ringV N E f).length) (ringV N E f).length) E.length < costTo E f E.length := by
  have hf : flowB N E f = true := by simp [ringOk] at hro; exact hro.1
  have he : (turns (arcs E f) N.toNat).e ≠ -1 := by simp [ringOk] at hro; exact hro.2
  obtain ⟨hg, hle, _, hbal⟩ := flowB_true hf
  obtain ⟨g1, g2, _, _⟩ := graphB_true hg
  obtain ⟨n, rfl⟩ : ∃ n : Nat, N = (n : Int) := ⟨N.toNat, by omega⟩
  simp only [Int.toNat_natCast] at he
  have hsi : SInv (arcs E f) n (arcs E f).length (turns (arcs E f) n) := by have := turns_inv (arcs_ok hf) (n - 1); rw [show n - 1 + 1 = n by omega] at this; exact this
  obtain ⟨_, _, m, hor⟩ := on_ring (arcs_ok hf) (by omega) hsi he
  rw [(ring_yes hf he hor).2]
  generalize hb0 : bk (arcs E f) (turns (arcs E f) n) n (turns (arcs E f) n).e.toNat = b at hor ⊢
  generalize turns (arcs E f) n = S at *
  have hpos := hor.pos
  have hra := fun q => ring_arc hsi hor q
  have hv : vld (arcs E f) (ringL (arcs E f) S b m) (ringL (arcs E f) S b m).length := by
    intro q hq
    rw [ringL_len] at hq
    refine ⟨⟨_, (hra q).1, by rw [ringL_getD hq]⟩, fun k hk e => ?_⟩
    rw [ringL_getD hq, ringL_getD (by omega)] at e
    have e1 := name_inj hle (hra k).1 (hra q).1 e
    have e2 : bk (arcs E f) S k b = bk (arcs E f) S q b := by rw [← (hra k).2.1, ← (hra q).2.1, e1]
    have e3 : bk (arcs E f) S (k + (m - q)) b = b := by
      rw [bk_add, e2, ← bk_add, show q + (m - q) = m by omega]; exact hor.back
    exact hor.first (k + (m - q)) (by omega) (by omega) e3
  have hlen := ringL_len (arcs E f) S b m
  have hall : ∀ q, q ≤ m → ∀ amt, (∀ v : Nat, bal E (psh f (ringL (arcs E f) S b m) amt q) E.length v = bal E f E.length v + (if b = v then amt else 0) - (if bk (arcs E f) S q b = v then amt else 0)) ∧ costTo E (psh f (ringL (arcs E f) S b m) amt q) E.length = costTo E f E.length + csum (arcs E f) S b q * amt := by
    intro q
    induction q with
    | zero =>
      intro _ amt
      refine ⟨fun v => ?_, ?_⟩
      · show bal E f E.length v = bal E f E.length v + _ - (if b = v then amt else 0); omega
      · show costTo E f E.length = costTo E f E.length + 0 * amt; omega
    | succ q ih =>
      intro hq amt
      obtain ⟨ih1, ih2⟩ := ih (by omega) amt
      obtain ⟨s1, s2⟩ := push_step hf (amt := amt) (hra q).1 (ringL_getD (m := m) (by omega))
      have hok := arc_ok hf (hra q).1
      have r1 := (hra q).2.1
      have r2 := (hra q).2.2
      refine ⟨fun v => ?_, ?_⟩
      · rw [s1 v, ih1 v]
        have e1 : ((pa (arcs E f) S (bk (arcs E f) S q b)).to = (v : Int)) ↔ bk (arcs E f) S q b = v := by omega
        have e2 : ((pa (arcs E f) S (bk (arcs E f) S q b)).fr = (v : Int)) ↔ bk (arcs E f) S (q + 1) b = v := by omega
        simp only [e1, e2]
        omega
      · rw [s2, ih2]
        show _ = costTo E f E.length + (csum (arcs E f) S b q + (pa (arcs E f) S (bk (arcs E f) S q b)).co) * amt
        rw [Int.add_mul]
        omega
  obtain ⟨h1, h2⟩ := hall m (Nat.le_refl _) (lst (arcs E f) (ringL (arcs E f) S b m) (ringL (arcs E f) S b m).length)
  have hp := lst_pos hf (ringL (arcs E f) S b m).length hv
  have hc : csum (arcs E f) S b m < 0 := by
    have hc := csum_low hsi hor m hpos
    rw [hor.back] at hc
    rcases hc with ⟨_, ht⟩ | hc
    · omega
    · omega
  refine ⟨⟨hf, fun e => by rw [e] at hlen; simp at hlen; omega, hv, ?_⟩, ?_⟩
  · refine flowB_yes hg (by rw [psh_len]; exact hle) (push_fits hf hv) (fun v hvn => ?_)
    rw [hlen] at h1 ⊢
    rw [h1 v, hbal v hvn, hor.back]
    omega
  · rw [hlen] at h2 hp ⊢
    rw [h2]
    have : csum (arcs E f) S b m * lst (arcs E f) (ringL (arcs E f) S b m) m < 0 := Int.mul_neg_of_neg_of_pos hc (by omega)
    omega
end Go.Proofs.YtjdbedlgkngdkaaGreatDoor
namespace Go.Proofs.YtjdbedlgkngdkaaGreatDoor
open Go.RowKit Go.Deep
set_option linter.unusedVariables false
set_option linter.unusedSimpArgs false
set_option maxRecDepth 10000

def sumV (d : Nat → Int) (b : Nat → Int) : Nat → Int
  | 0 => 0
  | n + 1 => sumV d b n + d n * b n
theorem sumV_add (d b : Nat → Int) (u : Nat) (x : Int) : ∀ n, sumV d (fun v => b v + (if u = v then x else 0)) n = sumV d b n + (if u < n then d u * x else 0)
  | 0 => by simp [sumV]
  | n + 1 => by
    simp only [sumV]
    rw [sumV_add d b u x n]
    by_cases e : u = n
    · subst e
      rw [if_neg (show ¬ u < u by omega), if_pos rfl, if_pos (show u < u + 1 by omega), Int.mul_add]
      omega
    · rw [if_neg e]
      by_cases h : u < n
      · rw [if_pos h, if_pos (show u < n + 1 by omega)]; simp only [Int.add_zero]; omega
      · rw [if_neg h, if_neg (show ¬ u < n + 1 by omega)]; simp only [Int.add_zero]
theorem sumV_zero (d b : Nat → Int) : ∀ n, (∀ v, v < n → b v = 0) → sumV d b n = 0
  | 0, _ => rfl
  | n + 1, h => by simp only [sumV]; rw [sumV_zero d b n (fun v hv => h v (by omega)), h n (by omega)]; simp
/-- What the numbers weigh by the nodes' distances. -/
def pot (d : Nat → Int) (E : List Edg) (f : List Int) : Nat → Int
  | 0 => 0
  | k + 1 => pot d E f k + (d (E.getD k ⟨0, 0, 0, 0⟩).to.toNat - d (E.getD k ⟨0, 0, 0, 0⟩).fr.toNat) * f.getD k 0
theorem pot_sum {n : Nat} {E : List Edg} (hg : ∀ j (hj : j < E.length), edgeB (n : Int) E[j] = true) (d : Nat → Int) (f : List Int) : ∀ k, k ≤ E.length → pot d E f k = sumV d (bal E f k) n
  | 0, _ => (sumV_zero d (bal E f 0) n (fun v _ => rfl)).symm
  | k + 1, hk => by
    have ih := pot_sum hg d f k (by omega)
    have he := edgeB_true (hg k (by omega))
    have hgd : E.getD k ⟨0, 0, 0, 0⟩ = E[k] := by simp [List.getD_eq_getElem?_getD, show k < E.length by omega]
    have hb : bal E f (k + 1) = fun v => (fun v => bal E f k v + (if E[k].fr.toNat = v then -(f.getD k 0) else 0)) v + (if E[k].to.toNat = v then f.getD k 0 else 0) := by
      funext v
      simp only [bal, hgd]
      have e1 : (E[k].fr = (v : Int)) ↔ E[k].fr.toNat = v := by omega
      have e2 : (E[k].to = (v : Int)) ↔ E[k].to.toNat = v := by omega
      simp only [e1, e2]
      split <;> split <;> omega
    rw [hb, sumV_add, sumV_add, if_pos (by omega), if_pos (by omega), ← ih]
    simp only [pot, hgd]
    rw [Int.sub_mul, Int.mul_neg]
    omega
theorem mul_ge {c p x y : Int} (h1 : x < y → p ≤ c) (h2 : y < x → c ≤ p) : p * y - p * x ≤ c * y - c * x := by
  rw [← Int.mul_sub, ← Int.mul_sub]
  rcases Int.lt_trichotomy x y with h | h | h
  · exact Int.mul_le_mul_of_nonneg_right (h1 h) (by omega)
  · subst h; simp
  · have a := Int.mul_le_mul_of_nonneg_right (h2 h) (show 0 ≤ x - y by omega)
    have e1 : p * (y - x) = -(p * (x - y)) := by rw [← Int.mul_neg]; congr 1; omega
    have e2 : c * (y - x) = -(c * (x - y)) := by rw [← Int.mul_neg]; congr 1; omega
    rw [e1, e2]; omega
/-- No flow costs less than one without a ring. -/
theorem least_cost {N : Int} {E : List Edg} {f g : List Int} (hf : flowB N E f = true) (hr : ringOk N E f = false) (hgf : flowB N E g = true) : costTo E f E.length ≤ costTo E g E.length := by
  obtain ⟨hg, hle, hcf, hbf⟩ := flowB_true hf
  obtain ⟨_, hlg, hcg, hbg⟩ := flowB_true hgf
  obtain ⟨g1, g2, _, g4⟩ := graphB_true hg
  obtain ⟨n, rfl⟩ : ∃ n : Nat, N = (n : Int) := ⟨N.toNat, by omega⟩
  have he : (turns (arcs E f) n).e = -1 := by simpa [ringOk, hf] using hr
  have hsi : SInv (arcs E f) n (arcs E f).length (turns (arcs E f) n) := by have := turns_inv (arcs_ok hf) (n - 1); rw [show n - 1 + 1 = n by omega] at this; exact this
  have hsat := hsi.non he
  generalize (turns (arcs E f) n).d = d at hsat
  have hsat' : ∀ a ∈ arcs E f, d a.to.toNat ≤ d a.fr.toNat + a.co := fun a ha => by
    obtain ⟨i, hi, rfl⟩ := List.getElem_of_mem ha
    exact hsat i hi hi
  have hk : ∀ k, k ≤ E.length → pot d E g k - pot d E f k ≤ costTo E g k - costTo E f k := by
    intro k
    induction k with
    | zero => intro _; simp [pot, costTo]
    | succ k ih =>
      intro hk
      have ih' := ih (by omega)
      have hgd : E.getD k ⟨0, 0, 0, 0⟩ = E[k] := by simp [List.getD_eq_getElem?_getD, show k < E.length by omega]
      have hfd : f.getD k 0 = f[k]'(by omega) := by simp [List.getD_eq_getElem?_getD, show k < f.length by omega]
      have hgd2 : g.getD k 0 = g[k]'(by omega) := by simp [List.getD_eq_getElem?_getD, show k < g.length by omega]
      simp only [pot, costTo, hgd, hfd, hgd2]
      have c1 := hcf k (by omega) (by omega)
      have c2 := hcg k (by omega) (by omega)
      have hm := mul_ge (c := E[k].co) (p := d E[k].to.toNat - d E[k].fr.toNat) (x := f[k]'(by omega)) (y := g[k]'(by omega)) (fun h => by
        have := hsat' _ (of_arcs ⟨k, by omega, by omega, Or.inl ⟨by omega, rfl⟩⟩)
        dsimp only at this
        omega) (fun h => by
        have := hsat' _ (of_arcs ⟨k, by omega, by omega, Or.inr ⟨by omega, rfl⟩⟩)
        dsimp only at this
        omega)
      omega
  have h1 := hk E.length (Nat.le_refl _)
  rw [pot_sum g4 d g E.length (Nat.le_refl _), pot_sum g4 d f E.length (Nat.le_refl _), sumV_zero d _ n (fun v hv => hbg v (by omega)), sumV_zero d _ n (fun v hv => hbf v (by omega))] at h1
  omega
theorem zero_flow {N : Int} {E : List Edg} (hg : graphB N E = true) : flowB N E (List.replicate E.length 0) = true ∧ costTo E (List.replicate E.length 0) E.length = 0 := by
  obtain ⟨_, _, _, g4⟩ := graphB_true hg
  have hz : ∀ k, (List.replicate E.length (0 : Int)).getD k 0 = 0 := fun k => by
    rw [List.getD_eq_getElem?_getD]
    by_cases h : k < E.length
    · simp [h]
    · simp [h]
  have hb : ∀ k v, bal E (List.replicate E.length 0) k v = 0 := by
    intro k v
    induction k with
    | zero => rfl
    | succ k ih => simp only [bal, hz, ih]; simp
  have hc : ∀ k, costTo E (List.replicate E.length 0) k = 0 := by
    intro k
    induction k with
    | zero => rfl
    | succ k ih => simp only [costTo, hz, ih]; simp
  refine ⟨flowB_yes hg (by simp) (fun j hj hf => ?_) (fun v _ => hb _ v), hc _⟩
  have := edgeB_true (g4 j hj)
  simp
  omega
theorem chGo_flow {N : Int} {E : List Edg} : ∀ m f g, flowB N E f = true → chGo N E m f = some g → flowB N E g = true ∧ ringOk N E g = false
  | 0, f, g, hf, h => by
    unfold chGo at h
    split at h
    · cases h
    · next hn => cases h; exact ⟨hf, by simpa using hn⟩
  | m + 1, f, g, hf, h => by
    unfold chGo at h
    split at h
    · next hy =>
      obtain ⟨hp, _⟩ := ring_push hy
      have hv := (push_yes hp).2
      refine chGo_flow m _ g ?_ h
      rw [hv]; exact hp.2.2.2
    · next hn => cases h; exact ⟨hf, by simpa using hn⟩
/-- The cheapest flow: a flow, no ring, at most 0, none costs less. -/
theorem cheap_best {N : Int} {E : List Edg} (h : chOk N E = true) : flowB N E (chV N E) = true ∧ ringOk N E (chV N E) = false ∧ costV N E (chV N E) ≤ 0 ∧ ∀ g, flowB N E g = true → costV N E (chV N E) ≤ costV N E g := by
  cases hr : chRes N E with
  | none => rw [(ch_no hr).1] at h; cases h
  | some f =>
    have hv := (ch_yes hr).2
    unfold chRes at hr
    split at hr
    · next hg =>
      obtain ⟨hz1, hz2⟩ := zero_flow hg
      obtain ⟨h1, h2⟩ := chGo_flow 400 _ f hz1 hr
      rw [hv]
      have hcv : ∀ x, flowB N E x = true → costV N E x = costTo E x E.length := fun x hx => by simp [costV, hx]
      refine ⟨h1, h2, ?_, fun g hg' => ?_⟩
      · rw [hcv f h1, ← hz2]; exact least_cost h1 h2 hz1
      · rw [hcv f h1, hcv g hg']; exact least_cost h1 h2 hg'
    · cases hr
end Go.Proofs.YtjdbedlgkngdkaaGreatDoor
