/- Push of the program. -/
import Derived.Test.YtaboogkioehkeaaRh
import Derived.Test.YtaboogkioehkeaaPa
import Derived.Test.YtaboogkioehkeaaRf
import Derived.Test.YtaboogkioehkeaaFfI
import Derived.Test.YtaboogkioehkeaaRg
import Derived.Lib.SliceRun
namespace Go.Proofs.Ytaboogkioehkeaa
open Go.RowKit Go.Deep
set_option linter.unusedVariables false
set_option linter.unusedSimpArgs false
set_option maxRecDepth 10000

set_option maxHeartbeats 4000000 in
theorem least1_k (rb R m : Nat) (a : Arc) (g : Nat → Int) (w : World) (hr : w.rowIs R 3 m (fun id => .int .i64 (g id))) (hc : w.cell? ⟨rb, 0, none⟩ = some (.slice (some ⟨R, 0, none⟩) m m)) (hne : rb ≠ R) (h0 : 0 ≤ a.nm) (h1 : a.nm < (m : Int)) :
    Calls Try.prog 57 #[a.v, .pointer (some ⟨rb, 0, none⟩)] w fun e w' => e = .returned (.tuple #[]) ∧ (w'.rowIs R 3 m (fun id => .int .i64 (if a.nm = (id : Int) then a.rs else g id)) ∧ w'.cell? ⟨rb, 0, none⟩ = some (.slice (some ⟨R, 0, none⟩) m m)) ∧ Turn [R] w w' := by
  have HB := hide (arc_box w a 60)
  have HK := hide (Keeps.alloc (Keeps.refl w) (.cells #[.int .i64 a.nm, .int .i64 a.fr, .int .i64 a.to, .int .i64 a.rs, .int .i64 a.co] 60))
  obtain ⟨nm, fr, to, rs, co⟩ := a
  dsimp only [Arc.v] at *
  obtain ⟨p, rfl⟩ : ∃ p : Nat, nm = (p : Int) := ⟨nm.toNat, by omega⟩
  have hp : p < m := by omega
  have hl := hr.lt
  have HR := hide (HK.out.rowK hr)
  have q0 := HK.out.cell hc
  clear hr hc
  go_enter Try.func57, Try.ntmps57
  go_upto_region 1 with fail
  obtain ⟨v0, v1, v2, v3, v4⟩ := HB.out
  generalize w.alloc (.cells #[.int .i64 (p : Int), .int .i64 fr, .int .i64 to, .int .i64 rs, .int .i64 co] 60) = W1 at *
  have r0 := HR.out.cell (i := p) hp
  have f0 := HR.out.frozen p
  go_wp2_with fail
  have ht : Turn [R] W1 (W1.setCell ⟨R, p, none⟩ (.int .i64 rs)) := Turn.set (by simp) _
  go_end0
  refine ⟨rfl, ⟨(HR.out.set p (.int .i64 rs)).congr (fun i _ => ?_), ht.cell (by simp; omega) q0⟩, (Turn.of_keeps HK.out _).trans' ht⟩
  by_cases e : i = p
  · subst e; simp
  · rw [if_neg e, if_neg (by omega)]
theorem tell_k (n : Nat) (E : List Edg) (f : List Int) (ea : Option Addr) (ec : Nat) (fa : Option Addr) (fc : Nat) (rb R : Nat) (w : World) (hflow : flowB (n : Int) E f = true) (hm : Mem w [(ea, egs E)]) (hf : Cells w fa (its f))
    (hE : ∀ b ∈ fp [(ea, egs E)], b ∉ [R]) (hF : ∀ b ∈ fp [(fa, its f)], b ∉ [R]) (hne : rb ≠ R) (hr : w.rowIs R 3 (2 * E.length) (fun id => .int .i64 0)) (hc : w.cell? ⟨rb, 0, none⟩ = some (.slice (some ⟨R, 0, none⟩) (2 * E.length) (2 * E.length))) :
    Calls Try.prog 36 #[.agg #[.int .i64 (n : Int), .slice ea E.length ec], .slice fa E.length fc, .func (Fn.func 57) #[] #[.pointer (some ⟨rb, 0, none⟩)]] w fun e w' => e = .returned (.tuple #[]) ∧ (w'.rowIs R 3 (2 * E.length) (fun id => .int .i64 (restV (arcs E f) id)) ∧ w'.cell? ⟨rb, 0, none⟩ = some (.slice (some ⟨R, 0, none⟩) (2 * E.length) (2 * E.length))) ∧ Turn [R] w w' := by
  have hle := (flowB_true hflow).2.1
  have h := each_least ⟨(n : Int), ea, ec, E⟩ n fa fc f rb (fun j w' => w'.rowIs R 3 (2 * E.length) (fun id => .int .i64 (restTo (arcs E f) j id)) ∧ w'.cell? ⟨rb, 0, none⟩ = some (.slice (some ⟨R, 0, none⟩) (2 * E.length) (2 * E.length))) [R] w rfl hflow hm hf hE hF (by
    have a1 := hr.lt
    intro b hb
    simp at hb
    omega) (fun j w1 w2 h hk => ⟨hk.rowK h.1, hk.cell h.2⟩) (fun j hj w1 hJ => by
      dsimp only at hj ⊢
      have ha := arc_ok hflow (List.getElem_mem hj)
      have h1 := least1_k rb R (2 * E.length) (arcs E f)[j] (restTo (arcs E f) j) w1 hJ.1 hJ.2 hne ha.2.2.2.2.2.2.2.2.2.1 (by omega)
      refine h1.mono ?_
      rintro e w2 ⟨he, hr2, ht⟩
      refine ⟨he, ⟨hr2.1.congr (fun i _ => ?_), hr2.2⟩, ht⟩
      rw [restTo_step hj]) ⟨hr, hc⟩
  rw [hle] at h
  exact h
/-- What is answered of the least rest. -/
def LeastP (E : List Edg) (f Q : List Int) (w : World) (e : Ending) (w' : World) : Prop := ∃ (x : Int) (b : Bool), e = .returned (.tuple #[.int .i64 x, .bool b]) ∧ (b = true ↔ Q ≠ [] ∧ vld (arcs E f) Q Q.length) ∧ (b = true → x = lst (arcs E f) Q Q.length) ∧ Keeps w w'
set_option maxHeartbeats 8000000 in
theorem least_k (n : Nat) (E : List Edg) (f : List Int) (ea : Option Addr) (ec : Nat) (fa : Option Addr) (fc : Nat) (ra : Option Addr) (rc : Nat) (Q : List Int) (w : World) (hflow : flowB (n : Int) E f = true) (hm : Mem w [(ea, egs E)]) (hf : Cells w fa (its f)) (hq : Cells w ra (its Q)) (hql : Q.length ≤ 1048576) :
    Calls Try.prog 46 #[.agg #[.int .i64 (n : Int), .slice ea E.length ec], .slice fa E.length fc, .slice ra Q.length rc] w fun e w' => LeastP E f Q w e w' := by
  have HFL := hide hflow
  have HM := hide hm
  have HF := hide hf
  have HQ := hide hq
  obtain ⟨hg, hle, -, -⟩ := flowB_true hflow
  obtain ⟨g1, g2, g3, -⟩ := graphB_true hg
  clear hflow hm hf hq hg hle
  have HB := hide (gr_box ⟨(n : Int), ea, ec, E⟩ w 25)
  have HK := hide (Keeps.alloc (Keeps.refl w) (.cells #[.int .i64 (n : Int), .slice ea E.length ec] 25))
  have HS0 : Hid ((w.alloc (.cells #[.int .i64 (n : Int), .slice ea E.length ec] 25)).heap.size = w.heap.size + 1) := by show _ = _; simp
  have hmk := make_ints (2 * E.length) (by omega)
  have hw2 : IntKind.i64.wrap (2 * (E.length : Int)) = 2 * (E.length : Int) := by rw [IntKind.wrap_i64]; omega
  simp only [Int.natCast_mul, Int.cast_ofNat_Int] at hmk
  go_enter Try.func46, Try.ntmps46
  go_upto_region 2 with fail
  have HR0 := hide (World.rowIs_made (w.alloc (.cells #[.int .i64 (n : Int), .slice ea E.length ec] 25)) (.int .i64 0) (2 * E.length) 3)
  have HK1 := hide (Keeps.alloc (Keeps.refl (w.alloc (.cells #[.int .i64 (n : Int), .slice ea E.length ec] 25))) (.cells (madeCells #[.int .i64 0] (2 * E.length)) 3))
  have HS1 : Hid (((w.alloc (.cells #[.int .i64 (n : Int), .slice ea E.length ec] 25)).alloc (.cells (madeCells #[.int .i64 0] (2 * E.length)) 3)).heap.size = w.heap.size + 1 + 1) := by show _ = _; simp
  rw [HS0.out] at HR0
  generalize w.alloc (.cells #[.int .i64 (n : Int), .slice ea E.length ec] 25) = W1 at *
  generalize W1.alloc (.cells (madeCells #[.int .i64 0] (2 * E.length)) 3) = W2 at *
  have HK2 := hide (Keeps.alloc (Keeps.refl W2) (.cells #[.slice (some ⟨w.heap.size + 1, 0, none⟩) (2 * E.length) (2 * E.length)] 27))
  have HC0 : Hid ((W2.alloc (.cells #[.slice (some ⟨w.heap.size + 1, 0, none⟩) (2 * E.length) (2 * E.length)] 27)).cell? ⟨w.heap.size + 1 + 1, 0, none⟩ = some (.slice (some ⟨w.heap.size + 1, 0, none⟩) (2 * E.length) (2 * E.length))) := by
    show _ = _; rw [← HS1.out]; simp
  generalize W2.alloc (.cells #[.slice (some ⟨w.heap.size + 1, 0, none⟩) (2 * E.length) (2 * E.length)] 27) = W3 at *
  have HK3 := hide ((HK.out.trans HK1.out).trans HK2.out)
  have HB3 := hide ((HB.out.kept HK1.out).kept HK2.out)
  replace HR0 := hide (HK2.out.rowK HR0.out)
  clear HK HK1 HK2 HB HS0 HS1 hmk hw2
  obtain ⟨R, hR⟩ : ∃ R, R = w.heap.size + 1 := ⟨_, rfl⟩
  obtain ⟨rb, hrb⟩ : ∃ rb, rb = w.heap.size + 1 + 1 := ⟨_, rfl⟩
  have HLE : Hid (w.heap.size < R ∧ R < rb) := ⟨by omega, by omega⟩
  rw [← hrb, ← hR] at HC0
  rw [← hR] at HR0
  rw [← hrb, ← hR]
  clear hR hrb
  have HTL := hide (tell_k n E f ea ec fa fc rb R W3 HFL.out (HM.out.kept HK3.out) (HF.out.kept HK3.out) (fun b hb hx => by have := HM.out.lt b hb; have := HLE.out; simp at hx; omega) (fun b hb hx => by have := Cells.lt (s := (fa, its f)) HF.out b (by simpa [fp] using hb); have := HLE.out; simp at hx; omega) (by have := HLE.out; omega) HR0.out HC0.out)
  obtain ⟨q0, q1⟩ := HB3.out
  dsimp only at q0 q1
  go_wp2_with fail
  refine (unhide HTL).mono ?_
  rintro e w4 ⟨rfl, ⟨hr4, hc4⟩, ht4⟩
  have HR4 := hide hr4
  have HC4 := hide hc4
  have HK4 : Hid (Keeps w w4) := ht4.keeps HK3.out (by have := HLE.out; simp; omega)
  clear hr4 hc4 ht4 HTL HK3 HB3 HR0 HC0 q0 q1
  go_wp2_with fail
  go_loopw [9, 23] (fun l y wr => ∃ i : Nat, i ≤ Q.length ∧ l = .int .i64 (lst (arcs E f) Q i) ∧ y = .int .i64 (i : Int) ∧ Hid (wr.rowIs R 3 (2 * E.length) (fun id => .int .i64 (rstTo (arcs E f) Q i id))) ∧ Hid (wr.cell? ⟨rb, 0, none⟩ = some (.slice (some ⟨R, 0, none⟩) (2 * E.length) (2 * E.length))) ∧ Hid (vld (arcs E f) Q i) ∧ Hid (Keeps w wr)) (fun _ y _ => Q.length - (intOf y).toNat)
  case atStart => exact ⟨0, by omega, rfl, rfl, HR4.out, HC4.out, fun j hj => absurd hj (by omega), HK4.out⟩
  case round =>
    obtain ⟨i, hi, rfl, rfl, HR, HC, HV, HK⟩ := hrel
    clear HR4 HC4 HK4
    by_cases hlt : i < Q.length
    · obtain ⟨qb, qoff, qa, y0⟩ := its_at (HQ.out.kept HK.out) i hlt
      have HGD := hide (getD_at hlt)
      have HNO : Hid (¬ okAt (arcs E f) Q i → (false = true ↔ Q ≠ [] ∧ vld (arcs E f) Q Q.length)) := fun hno => ⟨fun h => Bool.noConfusion h, fun h => absurd (h.2 i hlt) hno⟩
      have HRG := hide (ok_range (R := Q) (i := i) HFL.out)
      have HRO := hide (fun id hid => rst_ok (R := Q) (i := i) (id := id) HFL.out hid)
      have HLS : Hid (lst (arcs E f) Q (i + 1) = min (lst (arcs E f) Q i) (restV (arcs E f) (Q.getD i (-1)).toNat)) := rfl
      have HRS : Hid (∀ id, rstTo (arcs E f) Q (i + 1) id = if Q.getD i (-1) = (id : Int) then 0 else rstTo (arcs E f) Q i id) := fun _ => rfl
      rw [HGD.out] at HRG HRO HLS HRS
      have q := HC.out
      generalize Q[i] = x at *
      obtain rfl := qa
      by_cases hx0 : 0 ≤ x
      rotate_left
      · go_wp2_with fail
        go_ret2
        exact ⟨0, false, rfl, HNO.out (fun ho => by have := (HRG.out ho).1; omega), fun h => Bool.noConfusion h, HK.out⟩
      obtain ⟨p, rfl⟩ : ∃ p : Nat, x = (p : Int) := ⟨x.toNat, by omega⟩
      by_cases hx1 : p < 2 * E.length
      rotate_left
      · go_wp2_with fail
        go_ret2
        exact ⟨0, false, rfl, HNO.out (fun ho => by have := (HRG.out ho).2; omega), fun h => Bool.noConfusion h, HK.out⟩
      obtain ⟨o1, o2, o3, o4⟩ := HRO.out p rfl
      have r0 := HR.out.cell (i := p) hx1
      have f0 := HR.out.frozen p
      have HRX := hide o2
      have HOX := hide o1
      clear o1 o2
      have hlb := lst_bound HFL.out Q i
      have hrl := HLE.out
      simp only [Int.toNat_natCast] at HLS
      by_cases hz : rstTo (arcs E f) Q i p = 0
      · rw [hz] at r0
        have HZ := hide hz
        clear hz o3 o4
        go_wp2_with fail
        go_ret2
        exact ⟨0, false, rfl, HNO.out (fun ho => (HOX.out.2 ho) HZ.out), fun h => Bool.noConfusion h, HK.out⟩
      · have HRV := hide (HRX.out hz)
        have HOK := hide (HOX.out.1 hz)
        clear HRX HOX
        generalize hrz : rstTo (arcs E f) Q i p = z at *
        have hz0 : (z == 0) = false := by simp [hz]
        have HRZ := hide hrz
        clear hrz
        generalize lst (arcs E f) Q i = l at *
        go_wp2_with fail
        have ht : Turn [R] wr (wr.setCell ⟨R, p, none⟩ (.int .i64 0)) := Turn.set (by simp) _
        go_roundw
        case rel =>
          refine ⟨i + 1, by omega, ?_, by go_num, (HR.out.set p (.int .i64 0)).congr (fun j _ => ?_), ht.cell (by simp; omega) HC.out, vld_succ HV.out HOK.out, ht.keeps HK.out (by simp; omega)⟩
          · rw [HLS.out, ← HRV.out]
            congr 1
            split <;> omega
          · rw [HRS.out]
            by_cases e : j = p
            · subst e; simp
            · rw [if_neg e, if_neg (by omega)]
        case measure => simp [intOf]; omega
    · have e : i = Q.length := by omega
      subst e
      by_cases hq0 : Q = []
      · have hl0 : ¬ (0 : Int) < (Q.length : Int) := by rw [hq0]; simp
        have HQ0 := hide hq0
        clear hq0
        go_wp2_with fail
        go_ret2
        exact ⟨_, _, rfl, ⟨fun h => absurd h (by simp [HQ0.out]), fun h => absurd HQ0.out h.1⟩, fun _ => rfl, HK.out⟩
      · have hl0 : 0 < Q.length := List.length_pos_iff.2 hq0
        have HQ0 := hide hq0
        clear hq0
        go_wp2_with fail
        go_ret2
        exact ⟨_, _, rfl, ⟨fun _ => ⟨HQ0.out, HV.out⟩, fun _ => by simp <;> omega⟩, fun _ => rfl, HK.out⟩
theorem cells_add_at {w : World} {b off : Nat} {f : List Int} (h : Cells w (some ⟨b, off, none⟩) (its f)) : ∀ j u, (its f)[j]? = some u → w.cell? ((⟨b, off, none⟩ : Addr).add j) = some u := by
  intro j u hj
  rcases h with h | ⟨b', off', e, h⟩
  · rw [h] at hj; simp at hj
  · cases e
    obtain ⟨hj', e'⟩ := List.getElem?_eq_some_iff.1 hj
    have := h j hj'
    rw [e'] at this
    rw [← this, addr_at]
set_option maxHeartbeats 2000000 in
theorem clone_k (fb foff fc : Nat) (f : List Int) (w : World) (hf : Cells w (some ⟨fb, foff, none⟩) (its f)) (hl : f.length ≤ 1000000) :
    Calls Try.prog 47 #[.slice (some ⟨fb, foff, none⟩) f.length fc] w fun e w' => ∃ g cap, e = .returned (.slice (some ⟨g, 0, none⟩) f.length cap) ∧ OwnsI w' w.heap.size (.slice (some ⟨g, 0, none⟩) f.length cap) f ∧ Keeps w w' := by
  have HK := hide (Keeps.alloc (Keeps.refl w) (.cells #[] 3))
  have HM := hide (cells_add_at (hf.kept HK.out))
  have HO : Hid (OwnsI (w.alloc (.cells #[] 3)) w.heap.size (.slice (some ⟨w.heap.size, 0, none⟩) 0 0) []) := World.ownsRow_made (base := w.heap.size) (e := 3) (size := 1) w #[] 0 (Nat.le_refl _) (by decide) (by simp)
  have HB : Hid (w.heap.size ≤ (w.alloc (.cells #[] 3)).heap.size) := by show _ ≤ _; simp
  clear hf
  have q22 : ∀ (w : World) (a : Option Addr) (n c : Nat), (binOp .eql 27 (.slice a n c) (.slice none 0 0)).run Try.prog w = .ok (.bool a.isNone) w := fun w a n c => Lib.run_eql_slice_nil w _ _ a n c 0 0 underInts
  go_enter Try.func47, Try.ntmps47
  go_wp2_with (at_builtin; refine app_its rfl (.tmp 5) (.tmp 6) rfl w.heap.size _ [] f rfl ⟨fb, foff, none⟩ fc rfl HM.out HO.out (by simp <;> omega) HB.out ?_; intro v' w' ho hg hnn)
  go_ret
  have hv := hnn (by intro h; cases h)
  rw [List.nil_append] at ho
  obtain ⟨ho1, ho2⟩ := ho
  rcases ho2 with ⟨hz, _⟩ | ⟨g', cap', cur, e, ho3⟩
  · exact absurd hz hv
  · subst e
    exact ⟨g', cap', rfl, ⟨ho1, .inr ⟨g', cap', cur, rfl, ho3⟩⟩, Keeps.grown HK.out hg (fun j hj => (HO.out.lt j hj).1)⟩
set_option maxHeartbeats 8000000 in
theorem push_impl (G : Gf) (fa : Option Addr) (fc : Nat) (f : List Int) (ra : Option Addr) (rc : Nat) (Q : List Int) (w : World) (hm : Mem w G.segs) (hf : Cells w fa (its f)) (hq : Cells w ra (its Q)) (hl : G.len) (hlf : f.length ≤ 1048576) (hlq : Q.length ≤ 1048576) :
    Calls Try.prog 21 #[G.v, .slice fa f.length fc, .slice ra Q.length rc] w fun e w' => ∃ a c, e = .returned (.tuple #[.slice a (pushV G.nn G.E f Q).length c, .bool (pushOk G.nn G.E f Q)]) ∧ Born w w' [(a, its (pushV G.nn G.E f Q))] ∧ (a = none → c = 0) ∧ Keeps w w' := by
  have HQ := hide (fun w' (hk : Keeps w w') => flow_impl G fa fc f w' (hm.kept hk) (hf.kept hk) hl hlf)
  have HQ2 := hide (fun g cap (L : List Int) w' (hk : Keeps w w') (hc : Cells w' (some ⟨g, 0, none⟩) (its L)) (hl2 : L.length ≤ 1048576) => flow_impl G (some ⟨g, 0, none⟩) cap L w' (hm.kept hk) hc hl hl2)
  obtain ⟨nn, ea, ec, E⟩ := G
  have HM := hide hm
  have HF := hide hf
  have HR := hide hq
  have HB := hide (gr_box ⟨nn, ea, ec, E⟩ w 25)
  have HK := hide (Keeps.alloc (Keeps.refl w) (.cells #[.int .i64 nn, .slice ea E.length ec] 25))
  dsimp only [Gf.v, Gf.len, Gf.segs] at *
  clear hm hf hq
  cases hb : flowB nn E f
  · obtain ⟨h1, h2⟩ := push_no (R := Q) (show ¬ pushP nn E f Q from fun h => by rw [h.1] at hb; cases hb)
    rw [h1, h2]
    clear h1 h2 HQ2
    go_enter Try.func21, Try.ntmps21
    go_wp2_with fail
    refine (unhide HQ _ HK.out).mono ?_
    rintro e w1 ⟨rfl, hk⟩
    rw [hb]
    go_wp2_with fail
    go_ret2
    exact ⟨none, 0, rfl, born_none _ _, fun _ => rfl, HK.out.trans hk⟩
  have HFL := hide hb
  obtain ⟨hg, hle, hcap, -⟩ := flowB_true hb
  obtain ⟨g1, g2, g3, g4⟩ := graphB_true hg
  obtain ⟨n, rfl⟩ : ∃ n : Nat, nn = (n : Int) := ⟨nn.toNat, by omega⟩
  have HFB : Hid (∀ j (hj : j < f.length), 0 ≤ f[j] ∧ f[j] ≤ 1000000000) := fun j hj => by
    have a := hcap j (by omega) hj
    have b := edgeB_true (g4 j (by omega))
    omega
  have HL := hide hle
  rw [hle] at HQ hlf ⊢
  clear hg hle hcap g4
  go_enter Try.func21, Try.ntmps21
  go_wp2_with fail
  refine (unhide HQ _ HK.out).mono ?_
  rintro e w1 ⟨rfl, hk⟩
  rw [hb]
  clear hb
  generalize w.alloc (.cells #[.int .i64 (n : Int), .slice ea E.length ec] 25) = W0 at *
  replace HB := hide (HB.out.kept hk)
  replace HK := hide (HK.out.trans hk)
  clear hk HQ
  have HLK := hide (least_k n E f ea ec fa fc ra rc Q w1 HFL.out (HM.out.kept HK.out) (HF.out.kept HK.out) (HR.out.kept HK.out) hlq)
  obtain ⟨q0, q1⟩ := HB.out
  dsimp only at q0 q1
  go_wp2_with fail
  refine (unhide HLK).mono ?_
  rintro e w2 ⟨amt, b, rfl, hbi, hbx, hk⟩
  replace HB := hide (HB.out.kept hk)
  replace HK := hide (HK.out.trans hk)
  clear hk HLK q0 q1
  cases b
  · obtain ⟨h1, h2⟩ := push_no (show ¬ pushP (n : Int) E f Q from fun h => Bool.noConfusion (hbi.2 ⟨h.2.1, h.2.2.1⟩))
    have HO1 := hide h1
    have HO2 := hide h2
    clear h1 h2 hbi hbx
    go_wp2_with fail
    go_ret2
    exact ⟨none, 0, by rw [HO1.out, HO2.out]; rfl, by rw [HO2.out]; exact born_none _ _, fun _ => rfl, HK.out⟩
  obtain ⟨hq0, hvl⟩ := hbi.1 rfl
  have HVL := hide hvl
  have HQ0 := hide hq0
  have hamt := hbx rfl
  have hab := lst_bound HFL.out Q Q.length
  rw [← hamt] at hab
  have HPY : Hid (flowB (n : Int) E (psh f Q amt Q.length) = true → pushOk (n : Int) E f Q = true ∧ pushV (n : Int) E f Q = psh f Q amt Q.length) := fun h => by
    have := push_yes (N := (n : Int)) (E := E) (f := f) (R := Q) ⟨HFL.out, hq0, hvl, by rw [← hamt]; exact h⟩
    rw [← hamt] at this; exact this
  have HPN : Hid (flowB (n : Int) E (psh f Q amt Q.length) = false → pushOk (n : Int) E f Q = false ∧ pushV (n : Int) E f Q = []) := fun h => push_no (fun hp => by
    have := hp.2.2.2
    rw [← hamt, h] at this; cases this)
  have hel : 0 < E.length := by
    have := ok_range HFL.out (hvl 0 (List.length_pos_iff.2 hq0))
    omega
  clear hbi hbx hvl hq0 hamt
  obtain ⟨fb, foff, hfa, hy0⟩ := its_at HF.out 0 (by rw [HL.out]; exact hel)
  subst hfa
  have HCL := hide (clone_k fb foff fc f w2 (HF.out.kept HK.out) (by rw [HL.out]; omega))
  rw [HL.out] at HCL
  clear hy0
  go_wp2_with fail
  refine (unhide HCL).mono ?_
  rintro e w3 ⟨g, cap, rfl, ho3, hk⟩
  have HKs : Hid (w.heap.size < w2.heap.size) := lt_of_cell HB.out.1
  replace HB := hide (HB.out.kept hk)
  have HKw := hide HK.out.size
  replace HK := hide (HK.out.trans hk)
  have HO3 := hide ho3
  clear hk HCL ho3
  go_wp2_with fail
  go_loopw [30] (fun y wr => ∃ i : Nat, i ≤ Q.length ∧ y = .int .i64 (i : Int) ∧ Hid (OwnsI wr w2.heap.size (.slice (some ⟨g, 0, none⟩) E.length cap) (psh f Q amt i)) ∧ Hid (Turn [g] w3 wr)) (fun y _ => Q.length - (intOf y).toNat)
  case atStart => exact ⟨0, by omega, rfl, HO3.out, Turn.refl _ _⟩
  case round =>
    obtain ⟨i, hi, rfl, HO, HT⟩ := hrel
    have hgb := (HO3.out.lt g rfl).1
    have HKr : Hid (Keeps w wr) := HT.out.keeps HK.out (by have := HKw.out; simp; omega)
    by_cases hlt : i < Q.length
    · obtain ⟨qb, qoff, qa, y0⟩ := its_at (HR.out.kept HKr.out) i hlt
      have hrg := ok_range HFL.out (HVL.out i hlt)
      have hgd := getD_at hlt
      have HPS : Hid (psh f Q amt (i + 1) = (psh f Q amt i).set (Q.getD i (-1) / 2).toNat (if Q.getD i (-1) % 2 = 0 then (psh f Q amt i).getD (Q.getD i (-1) / 2).toNat 0 + amt else (psh f Q amt i).getD (Q.getD i (-1) / 2).toNat 0 - amt)) := rfl
      rw [hgd] at hrg HPS
      clear hgd
      generalize Q[i] = x at *
      obtain rfl := qa
      obtain ⟨p, rfl⟩ : ∃ p : Nat, x = (p : Int) := ⟨x.toNat, by omega⟩
      obtain ⟨k, hkp⟩ : ∃ k, k = p / 2 := ⟨_, rfl⟩
      have hkl : k < E.length := by omega
      have HKP := hide hkp
      have hpl := psh_len f Q amt i
      have hkf : k < (psh f Q amt i).length := by rw [hpl, HL.out]; exact hkl
      have e1 : ((p : Int) / 2).toNat = k := by omega
      rw [e1] at HPS
      have e2 : (psh f Q amt i).getD k 0 = (psh f Q amt i)[k] := by rw [List.getD_eq_getElem?_getD, List.getElem?_eq_getElem hkf]; rfl
      rw [e2] at HPS
      have hbd := psh_bound HFB.out hab.1 hab.2 (R := Q) i k hkf
      have hoe : wr.ownsRow w2.heap.size 3 1 (.slice (some ⟨g, 0, none⟩) E.length cap) E.length (its (psh f Q amt i)) := by
        have h := HO.out
        unfold OwnsI at h
        rw [hpl, HL.out] at h
        exact h
      have r0 : wr.cell? ⟨g, k, none⟩ = some (.int .i64 (psh f Q amt i)[k]) := by rw [hoe.cellAt k (by omega)]; simp [its, hkf]
      have f0 : wr.frozen? ⟨g, k, none⟩ = false := hoe.frozenAt k
      have HST := hide (fun u => (hoe.stored k (.int .i64 u)))
      have HIT : Hid (∀ u, (its (psh f Q amt i)).set k (.int .i64 u) = its ((psh f Q amt i).set k u)) := fun u => by simp [its, List.map_set]
      have HLL : Hid (∀ u, ((psh f Q amt i).set k u).length = (psh f Q amt i).length) := fun u => by simp
      generalize hz : (psh f Q amt i)[k] = z at *
      clear hz e1 e2 hoe hkp
      by_cases hpar : (p : Int) % 2 = 0
      · have hm0 : (p : Int) % 2 = 0 := hpar
        have hm1 : ((p : Int) % 2 == 0) = true := by rw [hm0]; rfl
        have hd0 : (p : Int) / 2 = (k : Int) := by have := HKP.out; omega
        clear hpar
        rw [if_pos hm0] at HPS
        have hw : IntKind.i64.wrap (z + amt) = z + amt := by rw [IntKind.wrap_i64]; omega
        have hsv := HST.out (z + amt)
        have HSV := hide hsv.1
        have HTG : Hid (Turn [g] w3 (wr.setCell ⟨g, k, none⟩ (.int .i64 (z + amt)))) := HT.out.trans' (Turn.set (by simp) _)
        clear hsv
        go_wp2_with fail
        go_roundw
        case rel =>
          refine ⟨i + 1, by omega, by go_num, ?_, HTG.out⟩
          show OwnsI _ _ _ _
          unfold OwnsI
          rw [HPS.out, HLL.out, hpl, HL.out, ← HIT.out]
          exact HSV.out
        case measure => simp [intOf]; omega
      · have hm0 : (p : Int) % 2 = 1 := by omega
        have hm1 : ((p : Int) % 2 == 0) = false := by rw [hm0]; rfl
        have hd0 : (p : Int) / 2 = (k : Int) := by have := HKP.out; omega
        clear hpar
        rw [if_neg (by omega)] at HPS
        have hw : IntKind.i64.wrap (z - amt) = z - amt := by rw [IntKind.wrap_i64]; omega
        have hsv := HST.out (z - amt)
        have HSV := hide hsv.1
        have HTG : Hid (Turn [g] w3 (wr.setCell ⟨g, k, none⟩ (.int .i64 (z - amt)))) := HT.out.trans' (Turn.set (by simp) _)
        clear hsv
        go_wp2_with fail
        go_roundw
        case rel =>
          refine ⟨i + 1, by omega, by go_num, ?_, HTG.out⟩
          show OwnsI _ _ _ _
          unfold OwnsI
          rw [HPS.out, HLL.out, hpl, HL.out, ← HIT.out]
          exact HSV.out
        case measure => simp [intOf]; omega
    · have e : i = Q.length := by omega
      subst e
      have hpl := psh_len f Q amt Q.length
      have ho2 : OwnsI wr w2.heap.size (.slice (some ⟨g, 0, none⟩) (psh f Q amt Q.length).length cap) (psh f Q amt Q.length) := by rw [hpl, HL.out]; exact HO.out
      have HBO := hide (born_owns (W := w) ho2 HKw.out)
      have HQF := hide (HQ2.out g cap (psh f Q amt Q.length) wr HKr.out (HBO.out.toOwn.mem (some ⟨g, 0, none⟩, its (psh f Q amt Q.length)) (by simp)) (by rw [hpl, HL.out]; omega))
      rw [hpl, HL.out] at HQF
      have HPL : Hid ((psh f Q amt Q.length).length = E.length) := by show _ = _; rw [hpl, HL.out]
      have HBr : Hid (GrAt wr w.heap.size ⟨(n : Int), ea, ec, E⟩) := by
        have h1 := HKs.out
        exact ⟨HT.out.cell (by simp; omega) HB.out.1, HT.out.cell (by simp; omega) HB.out.2⟩
      obtain ⟨q0, q1⟩ := HBr.out
      dsimp only at q0 q1
      clear hpl ho2
      go_wp2_with fail
      refine (unhide HQF).mono ?_
      rintro e w5 ⟨rfl, hk⟩
      cases hfb : flowB (n : Int) E (psh f Q amt Q.length)
      · obtain ⟨h1, h2⟩ := HPN.out hfb
        have HO1 := hide h1
        have HO2 := hide h2
        clear h1 h2 hfb
        go_wp2_with fail
        go_ret2
        exact ⟨none, 0, by rw [HO1.out, HO2.out]; rfl, by rw [HO2.out]; exact born_none _ _, fun _ => rfl, HKr.out.trans hk⟩
      · obtain ⟨h1, h2⟩ := HPY.out hfb
        have HO1 := hide h1
        have HO2 := hide h2
        clear h1 h2 hfb
        go_wp2_with fail
        go_ret2
        exact ⟨some ⟨g, 0, none⟩, cap, by rw [HO1.out, HO2.out, HPL.out]; rfl, by rw [HO2.out]; exact ⟨HBO.out.toOwn.kept hk, HBO.out.new⟩, fun h => (nomatch h), HKr.out.trans hk⟩
end Go.Proofs.Ytaboogkioehkeaa
