/- Texts of the verifier, joined: Ft, Et. -/
import Derived.Test.YtkgpoghoilffhaaGreatDoorSC17
import Derived.Deep.RegionLaw
import Derived.Maps.AppendAt
import Derived.Lib.AppendZeros
import Derived.Deep.MidRow
import Derived.Test.YtkgpoghoilffhaaGreatDoorSC1
import Derived.Deep.OwnRows
import Derived.Deep.DrawnRows
import Derived.Laws.MakeOwn
namespace Go.Proofs.YtkgpoghoilffhaaGreatDoor
open Go.RowKit Go.Deep
set_option linter.unusedVariables false
set_option linter.unusedSimpArgs false
set_option maxRecDepth 10000
theorem turn_setCellsF (b : Nat) : ∀ (vs : List Value) (o : Nat) (w : World), Turn [b] w (w.setCells b o vs)
  | [], _, w => Turn.refl _ w
  | v :: r, o, w => (Turn.set (by simp) _).trans' (turn_setCellsF b r (o + 1) _)
theorem there_rowF {w : World} {B : Nat} {ty : TypeId} {m : Nat} {f : Nat → Value} (hr : w.rowIs B ty m f) : w.there B 0 m := fun j hj => ⟨by rw [Nat.zero_add, hr.cell hj]; rfl, by rw [Nat.zero_add]; exact hr.frozen j⟩
theorem info_s : (Tryz.prog.info? 33).map (·.size) = some 14 := by kernel_rfl
theorem under_s : ∃ d, Tryz.prog.underlying 33 = some d ∧ d.isRow = true := ⟨_, Tryz.underlying33, rfl⟩
theorem range_rowF {W : World} {E : Nat} {ty : TypeId} {f : Nat → Value} (h : W.rowIs E ty 14 f) {A : Array Value} (hs : A.size = 14) (hf : ∀ i v, A[i]? = some v → f i = v) : W.rangeAt E 0 A.toList := fun j v hv => by
  have h1 : A[j]? = some v := by simpa using hv
  have hj : j < 14 := by rw [← hs]; exact (Array.getElem?_eq_some_iff.1 h1).1
  rw [Nat.zero_add, h.cell hj, hf j v h1]
theorem wp_loadS {ops : Array Oper} {rest : List Oper} {o : Oper} {a : Act} {w : World} {Q : Exit → Act → World → Prop} (hg : o.guard = none) (x : Operand) (ho : o.op = .load 33 x) (b : Nat) (A : Array Value) (hx : a.eval x = .pointer (some ⟨b, 0, none⟩)) (hs : A.size = 14) (hr : w.rangeAt b 0 A.toList)
    (h : wpList Tryz.prog ops Q rest (a.put o.dst (.agg A)) w) : wpList Tryz.prog ops Q (o :: rest) a w := by
  obtain ⟨d, hu, hd⟩ := under_s
  refine wpList_load_mid hg 33 x ho b 0 hx A.toList d hr hu hd (by rw [info_s]; simp [hs]) ?_
  simpa using h
theorem wp_storeS {ops : Array Oper} {rest : List Oper} {o : Oper} {a : Act} {w : World} {Q : Exit → Act → World → Prop} (hg : o.guard = none) (x y : Operand) (ho : o.op = .store 33 x y) (b : Nat) (A : Array Value) (hx : a.eval x = .pointer (some ⟨b, 0, none⟩)) (hy : a.eval y = .agg A) (hs : A.size = 14) (h1 : A.all (·.oneCell') = true) (ht : w.there b 0 14)
    (h : wpList Tryz.prog ops Q rest (a.put o.dst undef) (w.setCells b 0 A.toList)) : wpList Tryz.prog ops Q (o :: rest) a w :=
  wpList_store_mid hg 33 x y ho b 0 A hx hy (by rw [hs]; exact ht) (by rw [info_s, hs]) h1 h
theorem Ds.turn {w W W' : World} {B0 B : Nat} {a : Option Addr} {len cap R : Nat} (h : Ds w B0 B a len cap W) (ht : Turn [R] W W') (hR : w.heap.size ≤ R) : Ds w B0 B a len cap W' :=
  h.grow (row := some R) ⟨ht.os, ht.tape, ht.output, ht.size, fun k hk hn => ht.block k hk (by simp; exact fun e => hn (by rw [e]))⟩ (fun r hr => by injection hr with hr; omega)
/-- What stands behind the stores of a whole value into the result. -/
theorem Ds.finS {w W : World} {B0 B : Nat} {a : Option Addr} {len cap : Nat} {f : Nat → Value} {A : Array Value} (h : Ds w B0 B a len cap W) (hr : W.rowIs w.heap.size 33 14 f) (hs : A.size = 14) :
    (loadVar 33 ⟨w.heap.size, 0, none⟩).run Tryz.prog (W.setCells w.heap.size 0 A.toList) = .ok (.agg A) (W.setCells w.heap.size 0 A.toList) ∧ Ds w B0 B a len cap (W.setCells w.heap.size 0 A.toList) ∧ Turn [w.heap.size] W (W.setCells w.heap.size 0 A.toList) := by
  obtain ⟨d, hu, hd⟩ := under_s
  have ht := turn_setCellsF w.heap.size A.toList 0 W
  have hrg := World.rangeAt_setCells_same W w.heap.size 0 A.toList (by simpa [hs] using there_rowF hr)
  have := run_loadVar_mid (P := Tryz.prog) _ w.heap.size 0 33 A.toList d hrg hu hd (by rw [info_s]; simp [hs])
  exact ⟨by simpa using this, h.turn ht (Nat.le_refl _), ht⟩
theorem one_cell (w : World) (x : Int) : ∀ j u, (its [x])[j]? = some u → (w.alloc (.cells #[.int .i64 x] 3)).cell? ((⟨w.heap.size, 0, none⟩ : Addr).add j) = some u := fun j u hj => by
  match j, hj with
  | 0, hj => simp [its] at hj; subst hj; simp [Addr.add]
  | q + 1, hj => simp [its] at hj
theorem owns_drew {W : World} {base : Nat} {v : Value} {L : List Int} (h : OwnsI W base v L) : OwnsI W.drew base v L := h
theorem step_append_runF {P : Program} {w : World} {ops : Array Oper} {o : Oper} {a : Act} {K : Act → World → Prop} {Q : Exit → Act → World → Prop} {E : Prop} (hgd : o.guard = none) (s x : Operand) (t tn : TypeId)
    (ho : o.op = .call { callee := .builtin .append, args := #[s, x], argTypes := #[t, tn] }) (vs vx : Value) (hs : a.eval s = vs) (hx : a.eval x = vx)
    (v' : Value) (w' : World) (hr : (Builtin.append_ #[t, tn] o.type #[vs, vx]).run P w = .ok v' w') (h : K (a.put o.dst v') w') : if Region.wanted o (yielded ops a.tmps) = true then Oper.wp P o a w K Q else E := by
  have hw : Region.wanted o (yielded ops a.tmps) = true := by simp [Region.wanted, hgd]
  rw [if_pos hw]
  exact Lib.wp_append_run w s x t tn ho vs vx hs hx v' w' hr h
theorem own_ofF {w : World} {base n : Nat} {e : TypeId} {sz : Nat} {v : Value} {xs : List Value} (h : w.ownsRow base e sz v n xs) : ∃ (a : Option Addr) (cap : Nat), v = .slice a n cap ∧ n ≤ cap ∧ Own w [(a, xs)] := by
  obtain ⟨a, cap, h1, h2, _, _, h5, _⟩ := Own.of_owns h
  exact ⟨a, cap, h1, h2, h5⟩
theorem run_int (w : World) (base : Nat) (v : Value) (L : List Int) (d : Int) (ty : TypeId) (h : OwnsI w base v L) (hl : L.length + [d].length ≤ 1048576) (hb : base ≤ w.heap.size) :
    ∃ v' w', (Builtin.append_ #[29, 29] ty #[v, .slice (some ⟨w.heap.size, 0, none⟩) 1 1]).run Tryz.prog (w.alloc (.cells #[.int .i64 d] 3)) = .ok v' w' ∧ OwnsI w' base v' (L ++ [d]) ∧ (w.alloc (.cells #[.int .i64 d] 3)).grownBy w' v.ownBlock ∧ (v'.ownBlock = v.ownBlock ∨ v'.ownBlock = some (w.alloc (.cells #[.int .i64 d] 3)).heap.size) := by
  have hI := infoInt
  cases hi : Tryz.prog.info? 3 with
  | none => rw [hi] at hI; simp at hI
  | some i =>
    rw [hi] at hI
    simp at hI hl
    obtain ⟨hz, hsz, hby⟩ := hI
    obtain ⟨v', w', h1, h2, h3, _, h5⟩ := run_append_own_at (P := Tryz.prog) (w := w.alloc (.cells #[.int .i64 d] 3)) base 29 ty 3 i _ 1 8 underInts hi hz hsz hby rfl (by decide) v L.length (its L) (h.alloc _) ⟨w.heap.size, 0, none⟩ 1 1 [.int .i64 d] rfl (one_cell w d) (by intro u hu; simp at hu; subst hu; rfl) (by simp only [maxLen]; omega) (by omega) (by rw [World.size_alloc]; omega)
    refine ⟨v', w', h1, ?_, h3, h5⟩
    show World.ownsRow _ _ _ _ _ _ _
    rw [List.length_append, its_append]
    exact h2
theorem set_chain (W : World) (E o : Nat) (v : Value) : Turn [E] W (W.setCell ⟨E, o, none⟩ v) := Turn.set (by simp) v
set_option maxHeartbeats 32000000 in
theorem anystep_any {B0 B : Nat} {a : Option Addr} {len cap : Nat} {w : World} (s : Dr B0 B a len cap w) :
    Calls Tryz.prog 32 #[.pointer (some ⟨B, 0, none⟩)] w fun e w' => IsStp w.heap.size 6 e w' ∧ Dr B0 B a len cap w' ∧ w.grownBy w' (some B) := by
  have HD := hide ((Ds.start s).alloc (.cells #[.int .i64 0, .int .i64 0, .int .i64 0, .int .i64 0, .int .i64 0, .int .i64 0, .int .i64 0, .bool false, .slice none 0 0, .int .i64 0, .int .i64 0, .int .i64 0, .int .i64 0, .int .i64 0] 33))
  have HR : Hid ((w.alloc (.cells #[.int .i64 0, .int .i64 0, .int .i64 0, .int .i64 0, .int .i64 0, .int .i64 0, .int .i64 0, .bool false, .slice none 0 0, .int .i64 0, .int .i64 0, .int .i64 0, .int .i64 0, .int .i64 0] 33)).rowIs w.heap.size 33 14 zR14) := row_14 w 33 _ _ _ _ _ _ _ _ _ _ _ _ _ _
  have HN : Hid (w.heap.size ≤ w.heap.size) := Nat.le_refl _
  have hB := s.lt
  clear s
  have HZ0 : Hid ((w.alloc (.cells #[.int .i64 0, .int .i64 0, .int .i64 0, .int .i64 0, .int .i64 0, .int .i64 0, .int .i64 0, .bool false, .slice none 0 0, .int .i64 0, .int .i64 0, .int .i64 0, .int .i64 0, .int .i64 0] 33)).heap.size = w.heap.size + 1) := by show _ = _; simp
  go_enter Tryz.func32, Tryz.ntmps32
  go_wp2_with fail
  generalize w.alloc (.cells #[.int .i64 0, .int .i64 0, .int .i64 0, .int .i64 0, .int .i64 0, .int .i64 0, .int .i64 0, .bool false, .slice none 0 0, .int .i64 0, .int .i64 0, .int .i64 0, .int .i64 0, .int .i64 0] 33) = W0 at *
  refine (step_any HD.out.dr).mono ?_
  rintro _ w1 ⟨⟨⟨k, ⟨ek, ey, ec, et, em, ef, eb⟩, ks, ⟨lo, hi, st, mi, ma⟩⟩, ka, kc, rfl, ho, hks⟩, s1, g1⟩
  rw [HZ0.out] at ho
  dsimp only at ho hks
  replace HR := hide (HD.out.row g1 HR.out HN.out)
  replace HD := hide (HD.out.step s1 g1)
  have hA := Keeps.alloc (Keeps.refl w1) (.cells #[.int .i64 k, .int .i64 ek, .int .i64 ey, .int .i64 ec, .int .i64 et, .int .i64 em, .int .i64 ef, .bool eb, .slice ka ks.length kc, .int .i64 lo, .int .i64 hi, .int .i64 st, .int .i64 mi, .int .i64 ma] 33)
  have HOW := hide (owns_keepI ho hA)
  have HOE : Hid (∀ g, (Value.slice ka ks.length kc).ownBlock = some g → g < w1.heap.size) := fun g hg => (ho.lt g hg).2
  have HKL : Hid (ks.length ≤ 5) := hks
  clear s1 g1 ho hA hks HZ0
  have HE : Hid ((w1.alloc (.cells #[.int .i64 k, .int .i64 ek, .int .i64 ey, .int .i64 ec, .int .i64 et, .int .i64 em, .int .i64 ef, .bool eb, .slice ka ks.length kc, .int .i64 lo, .int .i64 hi, .int .i64 st, .int .i64 mi, .int .i64 ma] 33)).rowIs w1.heap.size 33 14 (fun i => if i = 0 then .int .i64 k else if i = 1 then .int .i64 ek else if i = 2 then .int .i64 ey else if i = 3 then .int .i64 ec else if i = 4 then .int .i64 et else if i = 5 then .int .i64 em else if i = 6 then .int .i64 ef else if i = 7 then .bool eb else if i = 8 then .slice ka ks.length kc else if i = 9 then .int .i64 lo else if i = 10 then .int .i64 hi else if i = 11 then .int .i64 st else if i = 12 then .int .i64 mi else .int .i64 ma)) := row_14 w1 33 (.int .i64 k) (.int .i64 ek) (.int .i64 ey) (.int .i64 ec) (.int .i64 et) (.int .i64 em) (.int .i64 ef) (.bool eb) (.slice ka ks.length kc) (.int .i64 lo) (.int .i64 hi) (.int .i64 st) (.int .i64 mi) (.int .i64 ma)
  have hNR := HR.out.lt
  have HM : Hid (w.heap.size ≤ w1.heap.size) := HD.out.le
  replace HR := hide (HR.out.alloc (.cells #[.int .i64 k, .int .i64 ek, .int .i64 ey, .int .i64 ec, .int .i64 et, .int .i64 em, .int .i64 ef, .bool eb, .slice ka ks.length kc, .int .i64 lo, .int .i64 hi, .int .i64 st, .int .i64 mi, .int .i64 ma] 33))
  replace HD := hide (HD.out.alloc (.cells #[.int .i64 k, .int .i64 ek, .int .i64 ey, .int .i64 ec, .int .i64 et, .int .i64 em, .int .i64 ef, .bool eb, .slice ka ks.length kc, .int .i64 lo, .int .i64 hi, .int .i64 st, .int .i64 mi, .int .i64 ma] 33))
  go_wp2_with fail
  generalize w1.alloc (.cells #[.int .i64 k, .int .i64 ek, .int .i64 ey, .int .i64 ec, .int .i64 et, .int .i64 em, .int .i64 ef, .bool eb, .slice ka ks.length kc, .int .i64 lo, .int .i64 hi, .int .i64 st, .int .i64 mi, .int .i64 ma] 33) = W1 at *
  generalize w1.heap.size = E at *
  refine (below_any 12 HD.out.dr (by omega) (by omega)).mono ?_
  rintro _ w2 ⟨⟨q, q0, q1, rfl⟩, s1, g1⟩
  replace HE := hide (HD.out.row g1 HE.out HM.out)
  replace HR := hide (HD.out.row g1 HR.out HN.out)
  replace HOW := hide (owns_grow HOW.out g1 (fun r hr hb => by
    have h1 := (HOW.out.lt _ hb).1
    have h2 := Option.some.inj hr
    omega))
  replace HD := hide (HD.out.step s1 g1)
  clear s1 g1
  have hzl : ¬ w.heap.size = E := by omega
  by_cases h0 : q = 0
  · subst h0
    go_wp2_with fail
    refine (below_any 8 HD.out.dr (by omega) (by omega)).mono ?_
    rintro _ w3 ⟨⟨x, x0, x1, rfl⟩, s1, g1⟩
    replace HE := hide (HD.out.row g1 HE.out HM.out)
    replace HR := hide (HD.out.row g1 HR.out HN.out)
    replace HOW := hide (owns_grow HOW.out g1 (fun r hr hb => by
      have h1 := (HOW.out.lt _ hb).1
      have h2 := Option.some.inj hr
      omega))
    replace HD := hide (HD.out.step s1 g1)
    clear s1 g1
    obtain ⟨zv, hz⟩ : ∃ zv, IntKind.i64.wrap (x - 1) = zv := ⟨_, rfl⟩
    have hz2 : IntKind.i64.wrap (x - 1) = x - 1 := by simp [IntKind.wrap, IntKind.bits, IntKind.signed]; omega
    rw [hz2] at hz
    have z0 := HE.out.cell (i := 0) (by decide)
    have zf0 := HE.out.frozen 0
    simp at z0
    have zl := HE.out.lt
    replace HE := hide (HE.out.set 0 (.int .i64 zv))
    replace HR := hide (row_other (b := E) (o := 0) (v := .int .i64 zv) HR.out (by omega))
    replace HD := hide (HD.out.set (b := E) (o := 0) (v := .int .i64 zv) HM.out)
    replace HOW := hide (owns_turnZ HOW.out (set_chain _ E 0 (.int .i64 zv)) (fun g hg hx => by have := HOE.out g hg; simp at hx; omega))
    go_upto_region 11 with fail
    generalize (w3.setCell ⟨E, 0, none⟩ (.int .i64 zv)) = W9 at *
    obtain ⟨A, hA⟩ : ∃ A : Array Value, A = #[.int .i64 zv, .int .i64 ek, .int .i64 ey, .int .i64 ec, .int .i64 et, .int .i64 em, .int .i64 ef, .bool eb, .slice ka ks.length kc, .int .i64 lo, .int .i64 hi, .int .i64 st, .int .i64 mi, .int .i64 ma] := ⟨_, rfl⟩
    have hAs : A.size = 14 := by rw [hA]; rfl
    have hA1 : A.all (·.oneCell') = true := by rw [hA]; simp [Value.oneCell']
    have HRG := hide (range_rowF HE.out hAs (fun i v hv => by
      rw [hA] at hv
      match i, hv with
      | 0, hv => simp at hv; simpa using hv
      | 1, hv => simp at hv; simpa using hv
      | 2, hv => simp at hv; simpa using hv
      | 3, hv => simp at hv; simpa using hv
      | 4, hv => simp at hv; simpa using hv
      | 5, hv => simp at hv; simpa using hv
      | 6, hv => simp at hv; simpa using hv
      | 7, hv => simp at hv; simpa using hv
      | 8, hv => simp at hv; simpa using hv
      | 9, hv => simp at hv; simpa using hv
      | 10, hv => simp at hv; simpa using hv
      | 11, hv => simp at hv; simpa using hv
      | 12, hv => simp at hv; simpa using hv
      | 13, hv => simp at hv; simpa using hv
      | m + 14, hv => simp at hv))
    have HTH := hide (there_rowF HR.out)
    have HAV : Hid (Value.agg A = .agg #[.int .i64 zv, .int .i64 ek, .int .i64 ey, .int .i64 ec, .int .i64 et, .int .i64 em, .int .i64 ef, .bool eb, .slice ka ks.length kc, .int .i64 lo, .int .i64 hi, .int .i64 st, .int .i64 mi, .int .i64 ma]) := by show _ = _; rw [hA]
    clear hA
    go_wp2_with (first | (refine wp_loadS rfl (.tmp 3) rfl E A rfl hAs HRG.out ?_) | (refine wp_storeS rfl (.tmp 2) (.tmp 34) rfl w.heap.size A rfl rfl hAs hA1 HTH.out ?_))
    obtain ⟨ql, hd, ht⟩ := HD.out.finS HR.out hAs
    have hof := owns_base (owns_turnZ HOW.out ht (fun g hg hx => by have := (HOW.out.lt g hg).1; simp at hx; omega)) (Nat.le_succ _)
    refine bodyPost_ret (v := .agg A) ?_ rfl ⟨⟨⟨zv, ⟨ek, ey, ec, et, em, ef, eb⟩, ks, ⟨lo, hi, st, mi, ma⟩⟩, ka, kc, by rw [HAV.out], hof, by have := HKL.out; simp <;> omega⟩, hd.dr, hd.gr⟩
    clear hd ht hof HRG HTH HAV
    generalize World.setCells _ _ _ _ = WW at *
    have qa : (asAddr (.pointer (some ⟨w.heap.size, 0, none⟩))).run Tryz.prog WW = .ok ⟨w.heap.size, 0, none⟩ WW := rfl
    simp [results, Tryz.results32, Act.put, qa, ql, Result.andThen]
  have h0' : (q == 0) = false := beq_eq_false_iff_ne.2 h0
  by_cases h1 : q = 1
  · subst h1
    go_wp2_with fail
    refine (anyevent_any HD.out.dr).mono ?_
    rintro _ w3 ⟨⟨xk, xy, xc, xt, xm, xf, xb, rfl⟩, s1, g1⟩
    replace HE := hide (HD.out.row g1 HE.out HM.out)
    replace HR := hide (HD.out.row g1 HR.out HN.out)
    replace HOW := hide (owns_grow HOW.out g1 (fun r hr hb => by
      have h1 := (HOW.out.lt _ hb).1
      have h2 := Option.some.inj hr
      omega))
    replace HD := hide (HD.out.step s1 g1)
    clear s1 g1
    have z1 := HE.out.cell (i := 1) (by decide)
    have zf1 := HE.out.frozen 1
    have z2 := HE.out.cell (i := 2) (by decide)
    have zf2 := HE.out.frozen 2
    have z3 := HE.out.cell (i := 3) (by decide)
    have zf3 := HE.out.frozen 3
    have z4 := HE.out.cell (i := 4) (by decide)
    have zf4 := HE.out.frozen 4
    have z5 := HE.out.cell (i := 5) (by decide)
    have zf5 := HE.out.frozen 5
    have z6 := HE.out.cell (i := 6) (by decide)
    have zf6 := HE.out.frozen 6
    have z7 := HE.out.cell (i := 7) (by decide)
    have zf7 := HE.out.frozen 7
    simp at z1 z2 z3 z4 z5 z6 z7
    have zl := HE.out.lt
    replace HE := hide (HE.out.set 1 (.int .i64 xk))
    replace HR := hide (row_other (b := E) (o := 1) (v := .int .i64 xk) HR.out (by omega))
    replace HD := hide (HD.out.set (b := E) (o := 1) (v := .int .i64 xk) HM.out)
    replace HOW := hide (owns_turnZ HOW.out (set_chain _ E 1 (.int .i64 xk)) (fun g hg hx => by have := HOE.out g hg; simp at hx; omega))
    replace HE := hide (HE.out.set 2 (.int .i64 xy))
    replace HR := hide (row_other (b := E) (o := 2) (v := .int .i64 xy) HR.out (by omega))
    replace HD := hide (HD.out.set (b := E) (o := 2) (v := .int .i64 xy) HM.out)
    replace HOW := hide (owns_turnZ HOW.out (set_chain _ E 2 (.int .i64 xy)) (fun g hg hx => by have := HOE.out g hg; simp at hx; omega))
    replace HE := hide (HE.out.set 3 (.int .i64 xc))
    replace HR := hide (row_other (b := E) (o := 3) (v := .int .i64 xc) HR.out (by omega))
    replace HD := hide (HD.out.set (b := E) (o := 3) (v := .int .i64 xc) HM.out)
    replace HOW := hide (owns_turnZ HOW.out (set_chain _ E 3 (.int .i64 xc)) (fun g hg hx => by have := HOE.out g hg; simp at hx; omega))
    replace HE := hide (HE.out.set 4 (.int .i64 xt))
    replace HR := hide (row_other (b := E) (o := 4) (v := .int .i64 xt) HR.out (by omega))
    replace HD := hide (HD.out.set (b := E) (o := 4) (v := .int .i64 xt) HM.out)
    replace HOW := hide (owns_turnZ HOW.out (set_chain _ E 4 (.int .i64 xt)) (fun g hg hx => by have := HOE.out g hg; simp at hx; omega))
    replace HE := hide (HE.out.set 5 (.int .i64 xm))
    replace HR := hide (row_other (b := E) (o := 5) (v := .int .i64 xm) HR.out (by omega))
    replace HD := hide (HD.out.set (b := E) (o := 5) (v := .int .i64 xm) HM.out)
    replace HOW := hide (owns_turnZ HOW.out (set_chain _ E 5 (.int .i64 xm)) (fun g hg hx => by have := HOE.out g hg; simp at hx; omega))
    replace HE := hide (HE.out.set 6 (.int .i64 xf))
    replace HR := hide (row_other (b := E) (o := 6) (v := .int .i64 xf) HR.out (by omega))
    replace HD := hide (HD.out.set (b := E) (o := 6) (v := .int .i64 xf) HM.out)
    replace HOW := hide (owns_turnZ HOW.out (set_chain _ E 6 (.int .i64 xf)) (fun g hg hx => by have := HOE.out g hg; simp at hx; omega))
    replace HE := hide (HE.out.set 7 (.bool xb))
    replace HR := hide (row_other (b := E) (o := 7) (v := .bool xb) HR.out (by omega))
    replace HD := hide (HD.out.set (b := E) (o := 7) (v := .bool xb) HM.out)
    replace HOW := hide (owns_turnZ HOW.out (set_chain _ E 7 (.bool xb)) (fun g hg hx => by have := HOE.out g hg; simp at hx; omega))
    go_upto_region 11 with fail
    generalize (((((((w3.setCell ⟨E, 1, none⟩ (.int .i64 xk)).setCell ⟨E, 2, none⟩ (.int .i64 xy)).setCell ⟨E, 3, none⟩ (.int .i64 xc)).setCell ⟨E, 4, none⟩ (.int .i64 xt)).setCell ⟨E, 5, none⟩ (.int .i64 xm)).setCell ⟨E, 6, none⟩ (.int .i64 xf)).setCell ⟨E, 7, none⟩ (.bool xb)) = W9 at *
    obtain ⟨A, hA⟩ : ∃ A : Array Value, A = #[.int .i64 k, .int .i64 xk, .int .i64 xy, .int .i64 xc, .int .i64 xt, .int .i64 xm, .int .i64 xf, .bool xb, .slice ka ks.length kc, .int .i64 lo, .int .i64 hi, .int .i64 st, .int .i64 mi, .int .i64 ma] := ⟨_, rfl⟩
    have hAs : A.size = 14 := by rw [hA]; rfl
    have hA1 : A.all (·.oneCell') = true := by rw [hA]; simp [Value.oneCell']
    have HRG := hide (range_rowF HE.out hAs (fun i v hv => by
      rw [hA] at hv
      match i, hv with
      | 0, hv => simp at hv; simpa using hv
      | 1, hv => simp at hv; simpa using hv
      | 2, hv => simp at hv; simpa using hv
      | 3, hv => simp at hv; simpa using hv
      | 4, hv => simp at hv; simpa using hv
      | 5, hv => simp at hv; simpa using hv
      | 6, hv => simp at hv; simpa using hv
      | 7, hv => simp at hv; simpa using hv
      | 8, hv => simp at hv; simpa using hv
      | 9, hv => simp at hv; simpa using hv
      | 10, hv => simp at hv; simpa using hv
      | 11, hv => simp at hv; simpa using hv
      | 12, hv => simp at hv; simpa using hv
      | 13, hv => simp at hv; simpa using hv
      | m + 14, hv => simp at hv))
    have HTH := hide (there_rowF HR.out)
    have HAV : Hid (Value.agg A = .agg #[.int .i64 k, .int .i64 xk, .int .i64 xy, .int .i64 xc, .int .i64 xt, .int .i64 xm, .int .i64 xf, .bool xb, .slice ka ks.length kc, .int .i64 lo, .int .i64 hi, .int .i64 st, .int .i64 mi, .int .i64 ma]) := by show _ = _; rw [hA]
    clear hA
    go_wp2_with (first | (refine wp_loadS rfl (.tmp 3) rfl E A rfl hAs HRG.out ?_) | (refine wp_storeS rfl (.tmp 2) (.tmp 34) rfl w.heap.size A rfl rfl hAs hA1 HTH.out ?_))
    obtain ⟨ql, hd, ht⟩ := HD.out.finS HR.out hAs
    have hof := owns_base (owns_turnZ HOW.out ht (fun g hg hx => by have := (HOW.out.lt g hg).1; simp at hx; omega)) (Nat.le_succ _)
    refine bodyPost_ret (v := .agg A) ?_ rfl ⟨⟨⟨k, ⟨xk, xy, xc, xt, xm, xf, xb⟩, ks, ⟨lo, hi, st, mi, ma⟩⟩, ka, kc, by rw [HAV.out], hof, by have := HKL.out; simp <;> omega⟩, hd.dr, hd.gr⟩
    clear hd ht hof HRG HTH HAV
    generalize World.setCells _ _ _ _ = WW at *
    have qa : (asAddr (.pointer (some ⟨w.heap.size, 0, none⟩))).run Tryz.prog WW = .ok ⟨w.heap.size, 0, none⟩ WW := rfl
    simp [results, Tryz.results32, Act.put, qa, ql, Result.andThen]
  have h1' : (q == 1) = false := beq_eq_false_iff_ne.2 h1
  by_cases h3 : q = 3
  · subst h3
    go_wp2_with fail
    refine (anyrule_any HD.out.dr).mono ?_
    rintro _ w3 ⟨⟨⟨xl, xh, xs, xm, xa⟩, rfl⟩, s1, g1⟩
    replace HE := hide (HD.out.row g1 HE.out HM.out)
    replace HR := hide (HD.out.row g1 HR.out HN.out)
    replace HOW := hide (owns_grow HOW.out g1 (fun r hr hb => by
      have h1 := (HOW.out.lt _ hb).1
      have h2 := Option.some.inj hr
      omega))
    replace HD := hide (HD.out.step s1 g1)
    clear s1 g1
    simp only [Rul.v]
    have z9 := HE.out.cell (i := 9) (by decide)
    have zf9 := HE.out.frozen 9
    have z10 := HE.out.cell (i := 10) (by decide)
    have zf10 := HE.out.frozen 10
    have z11 := HE.out.cell (i := 11) (by decide)
    have zf11 := HE.out.frozen 11
    have z12 := HE.out.cell (i := 12) (by decide)
    have zf12 := HE.out.frozen 12
    have z13 := HE.out.cell (i := 13) (by decide)
    have zf13 := HE.out.frozen 13
    simp at z9 z10 z11 z12 z13
    have zl := HE.out.lt
    replace HE := hide (HE.out.set 9 (.int .i64 xl))
    replace HR := hide (row_other (b := E) (o := 9) (v := .int .i64 xl) HR.out (by omega))
    replace HD := hide (HD.out.set (b := E) (o := 9) (v := .int .i64 xl) HM.out)
    replace HOW := hide (owns_turnZ HOW.out (set_chain _ E 9 (.int .i64 xl)) (fun g hg hx => by have := HOE.out g hg; simp at hx; omega))
    replace HE := hide (HE.out.set 10 (.int .i64 xh))
    replace HR := hide (row_other (b := E) (o := 10) (v := .int .i64 xh) HR.out (by omega))
    replace HD := hide (HD.out.set (b := E) (o := 10) (v := .int .i64 xh) HM.out)
    replace HOW := hide (owns_turnZ HOW.out (set_chain _ E 10 (.int .i64 xh)) (fun g hg hx => by have := HOE.out g hg; simp at hx; omega))
    replace HE := hide (HE.out.set 11 (.int .i64 xs))
    replace HR := hide (row_other (b := E) (o := 11) (v := .int .i64 xs) HR.out (by omega))
    replace HD := hide (HD.out.set (b := E) (o := 11) (v := .int .i64 xs) HM.out)
    replace HOW := hide (owns_turnZ HOW.out (set_chain _ E 11 (.int .i64 xs)) (fun g hg hx => by have := HOE.out g hg; simp at hx; omega))
    replace HE := hide (HE.out.set 12 (.int .i64 xm))
    replace HR := hide (row_other (b := E) (o := 12) (v := .int .i64 xm) HR.out (by omega))
    replace HD := hide (HD.out.set (b := E) (o := 12) (v := .int .i64 xm) HM.out)
    replace HOW := hide (owns_turnZ HOW.out (set_chain _ E 12 (.int .i64 xm)) (fun g hg hx => by have := HOE.out g hg; simp at hx; omega))
    replace HE := hide (HE.out.set 13 (.int .i64 xa))
    replace HR := hide (row_other (b := E) (o := 13) (v := .int .i64 xa) HR.out (by omega))
    replace HD := hide (HD.out.set (b := E) (o := 13) (v := .int .i64 xa) HM.out)
    replace HOW := hide (owns_turnZ HOW.out (set_chain _ E 13 (.int .i64 xa)) (fun g hg hx => by have := HOE.out g hg; simp at hx; omega))
    go_upto_region 11 with fail
    generalize (((((w3.setCell ⟨E, 9, none⟩ (.int .i64 xl)).setCell ⟨E, 10, none⟩ (.int .i64 xh)).setCell ⟨E, 11, none⟩ (.int .i64 xs)).setCell ⟨E, 12, none⟩ (.int .i64 xm)).setCell ⟨E, 13, none⟩ (.int .i64 xa)) = W9 at *
    obtain ⟨A, hA⟩ : ∃ A : Array Value, A = #[.int .i64 k, .int .i64 ek, .int .i64 ey, .int .i64 ec, .int .i64 et, .int .i64 em, .int .i64 ef, .bool eb, .slice ka ks.length kc, .int .i64 xl, .int .i64 xh, .int .i64 xs, .int .i64 xm, .int .i64 xa] := ⟨_, rfl⟩
    have hAs : A.size = 14 := by rw [hA]; rfl
    have hA1 : A.all (·.oneCell') = true := by rw [hA]; simp [Value.oneCell']
    have HRG := hide (range_rowF HE.out hAs (fun i v hv => by
      rw [hA] at hv
      match i, hv with
      | 0, hv => simp at hv; simpa using hv
      | 1, hv => simp at hv; simpa using hv
      | 2, hv => simp at hv; simpa using hv
      | 3, hv => simp at hv; simpa using hv
      | 4, hv => simp at hv; simpa using hv
      | 5, hv => simp at hv; simpa using hv
      | 6, hv => simp at hv; simpa using hv
      | 7, hv => simp at hv; simpa using hv
      | 8, hv => simp at hv; simpa using hv
      | 9, hv => simp at hv; simpa using hv
      | 10, hv => simp at hv; simpa using hv
      | 11, hv => simp at hv; simpa using hv
      | 12, hv => simp at hv; simpa using hv
      | 13, hv => simp at hv; simpa using hv
      | m + 14, hv => simp at hv))
    have HTH := hide (there_rowF HR.out)
    have HAV : Hid (Value.agg A = .agg #[.int .i64 k, .int .i64 ek, .int .i64 ey, .int .i64 ec, .int .i64 et, .int .i64 em, .int .i64 ef, .bool eb, .slice ka ks.length kc, .int .i64 xl, .int .i64 xh, .int .i64 xs, .int .i64 xm, .int .i64 xa]) := by show _ = _; rw [hA]
    clear hA
    go_wp2_with (first | (refine wp_loadS rfl (.tmp 3) rfl E A rfl hAs HRG.out ?_) | (refine wp_storeS rfl (.tmp 2) (.tmp 34) rfl w.heap.size A rfl rfl hAs hA1 HTH.out ?_))
    obtain ⟨ql, hd, ht⟩ := HD.out.finS HR.out hAs
    have hof := owns_base (owns_turnZ HOW.out ht (fun g hg hx => by have := (HOW.out.lt g hg).1; simp at hx; omega)) (Nat.le_succ _)
    refine bodyPost_ret (v := .agg A) ?_ rfl ⟨⟨⟨k, ⟨ek, ey, ec, et, em, ef, eb⟩, ks, ⟨xl, xh, xs, xm, xa⟩⟩, ka, kc, by rw [HAV.out], hof, by have := HKL.out; simp <;> omega⟩, hd.dr, hd.gr⟩
    clear hd ht hof HRG HTH HAV
    generalize World.setCells _ _ _ _ = WW at *
    have qa : (asAddr (.pointer (some ⟨w.heap.size, 0, none⟩))).run Tryz.prog WW = .ok ⟨w.heap.size, 0, none⟩ WW := rfl
    simp [results, Tryz.results32, Act.put, qa, ql, Result.andThen]
  have h3' : (q == 3) = false := beq_eq_false_iff_ne.2 h3
  by_cases h2 : q = 2
  · subst h2
    have y8 := HE.out.cell (i := 8) (by decide)
    have yf8 := HE.out.frozen 8
    simp at y8
    have zl := HE.out.lt
    have HLn : Hid (∀ x : Int, ks.length + [x].length ≤ 1048576) := fun x => by have := HKL.out; simp; omega
    go_upto_region 8 with fail
    go_region_law (first
      | (refine step_append_runF (by rfl) (.tmp 23) (.tmp 26) _ _ (by rfl) _ _ (by rfl) (by rfl) _ w7 HR7.out ?_)
      | (go_simp
         refine (raw_any HD.out.drew.dr).mono ?_
         rintro _ w3 ⟨⟨x, rfl⟩, s1, g1⟩
         dsimp only
         have HE3 := hide (HD.out.drew.row g1 (row_drew HE.out) HM.out)
         have HR3 := hide (HD.out.drew.row g1 (row_drew HR.out) HN.out)
         have HO3 := hide (owns_grow (owns_drew HOW.out) g1 (fun r hr hb => by have h1 := (HOW.out.lt _ hb).1; have h2 := Option.some.inj hr; omega))
         have HD3 := hide (HD.out.drew.step s1 g1)
         have hEw : E < w3.heap.size := HE3.out.lt
         obtain ⟨v7, w7, hr7, ho7, hg7, hoa⟩ := run_int w3 (w.heap.size + 1) (.slice ka ks.length kc) ks x 29 HO3.out (HLn.out x) (by have := HR3.out.lt; omega)
         obtain ⟨na, nc, hv7, _, _⟩ := own_ofF ho7
         have HE7 : Hid (w7.rowIs E 33 14 (fun i => if i = 0 then .int .i64 k else if i = 1 then .int .i64 ek else if i = 2 then .int .i64 ey else if i = 3 then .int .i64 ec else if i = 4 then .int .i64 et else if i = 5 then .int .i64 em else if i = 6 then .int .i64 ef else if i = 7 then .bool eb else if i = 8 then .slice ka ks.length kc else if i = 9 then .int .i64 lo else if i = 10 then .int .i64 hi else if i = 11 then .int .i64 st else if i = 12 then .int .i64 mi else .int .i64 ma)) := grown_row hg7 (fun e => by have := HOE.out _ e.symm; omega) (HE3.out.alloc _)
         have HR9 : Hid (w7.rowIs w.heap.size 33 14 zR14) := grown_row hg7 (fun e => by have := (HO3.out.lt _ e.symm).1; omega) (HR3.out.alloc _)
         have HD7 := hide ((HD3.out.alloc (.cells #[.int .i64 x] 3)).grow hg7 (fun r hr => by have := (HO3.out.lt _ hr).1; omega))
         have HV9 : Hid (∀ g, v7.ownBlock = some g → g ≠ E) := fun g hg => by
           rcases hoa with e | e
           · have := HOE.out g (by rw [← e]; exact hg); omega
           · rw [e] at hg; have h2 := Option.some.inj hg; rw [World.size_alloc] at h2; omega
         have hLx : (ks ++ [x]).length = ks.length + 1 := by simp
         have yb8 := HE3.out.cell (i := 8) (by decide)
         have yc8 := (HE3.out.alloc (.cells #[.int .i64 x] 3)).cell (i := 8) (by decide)
         simp at yb8 yc8
         have HO7 := hide ho7
         have HR7 := hide hr7
         rw [hv7] at HR7 HO7 HV9
         have z8 := HE7.out.cell (i := 8) (by decide)
         have zf8 := HE7.out.frozen 8
         have zl7 := HE7.out.lt
         simp at z8
         clear s1 g1 hr7 ho7 hg7 hv7 hoa HE3 HR3 HO3 HD3))
    all_goals
      obtain ⟨kx, hkx⟩ : ∃ kx, ks ++ [x] = kx := ⟨_, rfl⟩
      rw [hkx] at HO7 HV9 hLx
      rw [← hLx]
      replace HKL : Hid (kx.length ≤ 6) := by have := HKL.out; show _ ≤ _; omega
      replace HE := hide (HE7.out.set 8 (.slice na kx.length nc))
      replace HR := hide (row_other (b := E) (o := 8) (v := .slice na kx.length nc) HR9.out (by omega))
      replace HD := hide (HD7.out.set (b := E) (o := 8) (v := .slice na kx.length nc) HM.out)
      replace HOW := hide (owns_turnZ HO7.out (set_chain _ E 8 (.slice na kx.length nc)) (fun g hg hx => HV9.out g hg (by simpa using hx)))
      clear HE7 HR9 HD7 HO7 HV9 HR7 z8 zf8 zl7 yb8 yc8 y8 yf8 zl hkx hLx
      go_upto_region 11 with fail
      generalize (w7.setCell ⟨E, 8, none⟩ (.slice na kx.length nc)) = W9 at *
      obtain ⟨A, hA⟩ : ∃ A : Array Value, A = #[.int .i64 k, .int .i64 ek, .int .i64 ey, .int .i64 ec, .int .i64 et, .int .i64 em, .int .i64 ef, .bool eb, .slice na kx.length nc, .int .i64 lo, .int .i64 hi, .int .i64 st, .int .i64 mi, .int .i64 ma] := ⟨_, rfl⟩
      have hAs : A.size = 14 := by rw [hA]; rfl
      have hA1 : A.all (·.oneCell') = true := by rw [hA]; simp [Value.oneCell']
      have HRG := hide (range_rowF HE.out hAs (fun i v hv => by
        rw [hA] at hv
        match i, hv with
        | 0, hv => simp at hv; simpa using hv
        | 1, hv => simp at hv; simpa using hv
        | 2, hv => simp at hv; simpa using hv
        | 3, hv => simp at hv; simpa using hv
        | 4, hv => simp at hv; simpa using hv
        | 5, hv => simp at hv; simpa using hv
        | 6, hv => simp at hv; simpa using hv
        | 7, hv => simp at hv; simpa using hv
        | 8, hv => simp at hv; simpa using hv
        | 9, hv => simp at hv; simpa using hv
        | 10, hv => simp at hv; simpa using hv
        | 11, hv => simp at hv; simpa using hv
        | 12, hv => simp at hv; simpa using hv
        | 13, hv => simp at hv; simpa using hv
        | m + 14, hv => simp at hv))
      have HTH := hide (there_rowF HR.out)
      have HAV : Hid (Value.agg A = .agg #[.int .i64 k, .int .i64 ek, .int .i64 ey, .int .i64 ec, .int .i64 et, .int .i64 em, .int .i64 ef, .bool eb, .slice na kx.length nc, .int .i64 lo, .int .i64 hi, .int .i64 st, .int .i64 mi, .int .i64 ma]) := by show _ = _; rw [hA]
      clear hA
      go_wp2_with (first | (refine wp_loadS rfl (.tmp 3) rfl E A rfl hAs HRG.out ?_) | (refine wp_storeS rfl (.tmp 2) (.tmp 34) rfl w.heap.size A rfl rfl hAs hA1 HTH.out ?_))
      obtain ⟨ql, hd, ht⟩ := HD.out.finS HR.out hAs
      have hof := owns_base (owns_turnZ HOW.out ht (fun g hg hx => by have := (HOW.out.lt g hg).1; simp at hx; omega)) (Nat.le_succ _)
      refine bodyPost_ret (v := .agg A) ?_ rfl ⟨⟨⟨k, ⟨ek, ey, ec, et, em, ef, eb⟩, kx, ⟨lo, hi, st, mi, ma⟩⟩, na, nc, by rw [HAV.out], hof, by have := HKL.out; simp <;> omega⟩, hd.dr, hd.gr⟩
      clear hd ht hof HRG HTH HAV
      generalize World.setCells _ _ _ _ = WW at *
      have qa : (asAddr (.pointer (some ⟨w.heap.size, 0, none⟩))).run Tryz.prog WW = .ok ⟨w.heap.size, 0, none⟩ WW := rfl
      simp [results, Tryz.results32, Act.put, qa, ql, Result.andThen]
  have h2' : (q == 2) = false := beq_eq_false_iff_ne.2 h2
  go_upto_region 11 with fail
  obtain ⟨A, hA⟩ : ∃ A : Array Value, A = #[.int .i64 k, .int .i64 ek, .int .i64 ey, .int .i64 ec, .int .i64 et, .int .i64 em, .int .i64 ef, .bool eb, .slice ka ks.length kc, .int .i64 lo, .int .i64 hi, .int .i64 st, .int .i64 mi, .int .i64 ma] := ⟨_, rfl⟩
  have hAs : A.size = 14 := by rw [hA]; rfl
  have hA1 : A.all (·.oneCell') = true := by rw [hA]; simp [Value.oneCell']
  have HRG := hide (range_rowF HE.out hAs (fun i v hv => by
    rw [hA] at hv
    match i, hv with
    | 0, hv => simp at hv; simpa using hv
    | 1, hv => simp at hv; simpa using hv
    | 2, hv => simp at hv; simpa using hv
    | 3, hv => simp at hv; simpa using hv
    | 4, hv => simp at hv; simpa using hv
    | 5, hv => simp at hv; simpa using hv
    | 6, hv => simp at hv; simpa using hv
    | 7, hv => simp at hv; simpa using hv
    | 8, hv => simp at hv; simpa using hv
    | 9, hv => simp at hv; simpa using hv
    | 10, hv => simp at hv; simpa using hv
    | 11, hv => simp at hv; simpa using hv
    | 12, hv => simp at hv; simpa using hv
    | 13, hv => simp at hv; simpa using hv
    | m + 14, hv => simp at hv))
  have HTH := hide (there_rowF HR.out)
  have HAV : Hid (Value.agg A = .agg #[.int .i64 k, .int .i64 ek, .int .i64 ey, .int .i64 ec, .int .i64 et, .int .i64 em, .int .i64 ef, .bool eb, .slice ka ks.length kc, .int .i64 lo, .int .i64 hi, .int .i64 st, .int .i64 mi, .int .i64 ma]) := by show _ = _; rw [hA]
  clear hA
  go_wp2_with (first | (refine wp_loadS rfl (.tmp 3) rfl E A rfl hAs HRG.out ?_) | (refine wp_storeS rfl (.tmp 2) (.tmp 34) rfl w.heap.size A rfl rfl hAs hA1 HTH.out ?_))
  obtain ⟨ql, hd, ht⟩ := HD.out.finS HR.out hAs
  have hof := owns_base (owns_turnZ HOW.out ht (fun g hg hx => by have := (HOW.out.lt g hg).1; simp at hx; omega)) (Nat.le_succ _)
  refine bodyPost_ret (v := .agg A) ?_ rfl ⟨⟨⟨k, ⟨ek, ey, ec, et, em, ef, eb⟩, ks, ⟨lo, hi, st, mi, ma⟩⟩, ka, kc, by rw [HAV.out], hof, by have := HKL.out; simp <;> omega⟩, hd.dr, hd.gr⟩
  clear hd ht hof HRG HTH HAV
  generalize World.setCells _ _ _ _ = WW at *
  have qa : (asAddr (.pointer (some ⟨w.heap.size, 0, none⟩))).run Tryz.prog WW = .ok ⟨w.heap.size, 0, none⟩ WW := rfl
  simp [results, Tryz.results32, Act.put, qa, ql, Result.andThen]
end Go.Proofs.YtkgpoghoilffhaaGreatDoor
namespace Go.Proofs.YtkgpoghoilffhaaGreatDoor
open Go.RowKit Go.Deep
set_option linter.unusedVariables false
set_option linter.unusedSimpArgs false
set_option maxRecDepth 10000

structure Et where
  k : Int
  y : Int
  c : Int
  t : Int
  m : Int
  f : Int
  b : Bool
def Et.cells (x : Et) : List Value := [.int .i64 x.k, .int .i64 x.y, .int .i64 x.c, .int .i64 x.t, .int .i64 x.m, .int .i64 x.f, .bool x.b]
def ets (xs : List Et) : List Value := xs.flatMap Et.cells
theorem ets_append (xs ys : List Et) : ets (xs ++ ys) = ets xs ++ ets ys := by simp [ets]
theorem ets_at {w : World} {a : Option Addr} {xs : List Et} (h : Cells w a (ets xs)) (k : Nat) (hk : k < xs.length) :
    ∃ b off, a = some ⟨b, off, none⟩ ∧ w.cell? ⟨b, off + k * 7, none⟩ = some (.int .i64 xs[k].k) ∧ w.cell? ⟨b, off + k * 7 + 1, none⟩ = some (.int .i64 xs[k].y) ∧ w.cell? ⟨b, off + k * 7 + 2, none⟩ = some (.int .i64 xs[k].c) ∧ w.cell? ⟨b, off + k * 7 + 3, none⟩ = some (.int .i64 xs[k].t) ∧ w.cell? ⟨b, off + k * 7 + 4, none⟩ = some (.int .i64 xs[k].m) ∧ w.cell? ⟨b, off + k * 7 + 5, none⟩ = some (.int .i64 xs[k].f) ∧ w.cell? ⟨b, off + k * 7 + 6, none⟩ = some (.bool xs[k].b) := by
  obtain ⟨b, off, e, h⟩ := elem_at (f := Et.cells) (sz := 7) (fun _ => rfl) h k hk (by decide)
  exact ⟨b, off, e, h 0 (by simp [Et.cells]), h 1 (by simp [Et.cells]), h 2 (by simp [Et.cells]), h 3 (by simp [Et.cells]), h 4 (by simp [Et.cells]), h 5 (by simp [Et.cells]), h 6 (by simp [Et.cells])⟩
end Go.Proofs.YtkgpoghoilffhaaGreatDoor
