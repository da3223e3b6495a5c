/- The model's Post. -/
import Derived.Test.YtecjjkgdgmjgmaaPostMath
import Derived.Test.YtecjjkgdgmjgmaaMem
import Derived.Laws.AppendOwnNone
import Derived.Deep.RegionLaw
import Derived.Deep.RegionHeld3
import Derived.Deep.DrawnRows
import Derived.Lib.AppendZeros
namespace Go.Proofs.Ytecjjkgdgmjgmaa
open Go.RowKit Go.Deep
set_option linter.unusedVariables false
attribute [local go_sem ↓] Go.wp_at_zero Go.wp_at_succ

/-- What Post answers: the code, the number, the lines. -/
def pcode (id : Int) (L : List Ln) (pid : Int) (P : List Ln) : Int := if ledgB id L = false ∨ postB pid P = false then 1 else if pid ≤ id then 2 else if ledgB pid (addAll L P) = false then 3 else 0
def pid' (id : Int) (L : List Ln) (pid : Int) (P : List Ln) : Int := if pcode id L pid P = 0 then pid else 0
def pL (id : Int) (L : List Ln) (pid : Int) (P : List Ln) : List Ln := if pcode id L pid P = 0 then addAll L P else []
/-- A ledger and a code, the lines of the call's own. -/
def PostO (id : Int) (M : List Ln) (code : Int) (w w' : World) (e : Ending) : Prop := ∃ a cap, e = .returned (.tuple #[.agg #[.int .i64 id, .slice a M.length cap], .int .i64 code]) ∧ (a = none → cap = 0) ∧ Born w w' [(a, flat M)]
/-- The same, and the list has room for its lines. -/
def PostC (id : Int) (M : List Ln) (code : Int) (w w' : World) (e : Ending) : Prop := ∃ a cap, e = .returned (.tuple #[.agg #[.int .i64 id, .slice a M.length cap], .int .i64 code]) ∧ (a = none → cap = 0) ∧ Born w w' [(a, flat M)] ∧ M.length ≤ cap
theorem born_none (w w' : World) : Born w w' [((none : Option Addr), ([] : List Value))] :=
  ⟨⟨fun s hs => by rw [List.mem_singleton.1 hs]; exact Cells.nil _ _, by simp [fp, fpS], fun b hb => absurd hb (by simp [fp, fpS])⟩, fun b hb => absurd hb (by simp [fp, fpS])⟩
theorem postO_none {code : Int} {w w' : World} : PostO 0 [] code w w' (.returned (.tuple #[.agg #[.int .i64 0, .slice none 0 0], .int .i64 code])) := ⟨none, 0, rfl, fun _ => rfl, born_none _ _⟩
theorem postC_none {code : Int} {w w' : World} : PostC 0 [] code w w' (.returned (.tuple #[.agg #[.int .i64 0, .slice none 0 0], .int .i64 code])) := ⟨none, 0, rfl, fun _ => rfl, born_none _ _, Nat.le_refl _⟩
theorem step_app {P : Program} {w : World} {ops : Array Oper} {o : Oper} {a : Act} {K : Act → World → Prop} {Q : Exit → Act → World → Prop} {E : Prop} (hgd : o.guard = none) (s x : Operand) (t tn : TypeId)
    (ho : o.op = .call { callee := .builtin .append, args := #[s, x], argTypes := #[t, tn] }) (vs vx : Value) (hs : a.eval s = vs) (hx : a.eval x = vx)
    (v' : Value) (w' : World) (hr : (Builtin.append_ #[t, tn] o.type #[vs, vx]).run P w = .ok v' w') (h : K (a.put o.dst v') w') : if Region.wanted o (yielded ops a.tmps) = true then Oper.wp P o a w K Q else E := by
  have hw : Region.wanted o (yielded ops a.tmps) = true := by simp [Region.wanted, hgd]
  rw [if_pos hw]
  exact Lib.wp_append_run w s x t tn ho vs vx hs hx v' w' hr h
theorem flat_one {M : List Ln} {u : Value} (h : u ∈ flat M) : u.oneCell' = true := by
  unfold flat at h
  obtain ⟨x, _, hx⟩ := List.mem_flatMap.1 h
  simp [Ln.cells] at hx
  rcases hx with rfl | rfl | rfl <;> rfl
theorem flat_nil {M : List Ln} : flat M = [] ↔ M = [] := by
  constructor
  · intro h
    have := flat_length M
    rw [h] at this
    exact List.length_eq_zero_iff.1 (by simp at this; omega)
  · rintro rfl; rfl
abbrev OwnsL (w : World) (base : Nat) (v : Value) (M : List Ln) : Prop := w.ownsRow base 35 3 v M.length (flat M)
/-- A copy of lines by append to an empty list, which lies at the world's end or was made behind. -/
theorem run_lines (W : World) (g : Nat) (base : Nat) (xa : Option Addr) (xc : Nat) (M : List Ln) (ty : TypeId) (hown : OwnsL W base (.slice (some ⟨g, 0, none⟩) 0 0) []) (hc : Cells W xa (flat M)) (hn : xa = none → xc = 0) (hl : M.length ≤ 1048576) (hb : base ≤ W.heap.size) :
    ∃ (a' : Option Addr) (c' : Nat) (w' : World), (Builtin.append_ #[23, 23] ty #[.slice (some ⟨g, 0, none⟩) 0 0, .slice xa M.length xc]).run Try.prog W = .ok (.slice a' M.length c') w' ∧ OwnsL w' base (.slice a' M.length c') M ∧ W.grownBy w' (some g) := by
  have hI := infoLine
  cases hi : Try.prog.info? 35 with
  | none => rw [hi] at hI; simp at hI
  | some i =>
    rw [hi] at hI
    simp at hI
    obtain ⟨hz, hsz, hby⟩ := hI
    cases xa with
    | none =>
      obtain rfl := hn rfl
      have hM0 : M = [] := by
        rcases hc with hM | ⟨_, _, e, _⟩
        · exact flat_nil.1 hM
        · cases e
      subst hM0
      exact ⟨some ⟨g, 0, none⟩, 0, W, run_append_owned_none (P := Try.prog) (w := W) base 23 ty 35 i 3 underLines hi _ 0 [] hown, hown, ⟨rfl, rfl, rfl, Nat.le_refl _, fun _ _ _ => rfl⟩⟩
    | some p =>
      obtain ⟨v', w', h1, h2, h3, _⟩ := run_append_own (P := Try.prog) W base 23 ty 35 i _ 3 24 underLines hi hz hsz hby rfl (by decide) (.slice (some ⟨g, 0, none⟩) 0 0) 0 [] hown p M.length xc (flat M) (by rw [flat_length]; omega) (by
        intro j u hj
        rcases hc with hM | ⟨b, off, e, hM⟩
        · rw [hM] at hj; simp at hj
        · obtain rfl := Option.some.inj e
          obtain ⟨hj', e'⟩ := List.getElem?_eq_some_iff.1 hj
          have := hM j hj'
          rw [e'] at this
          rw [← this]
          by_cases h0 : j = 0 <;> simp [Addr.add, h0]) (fun u hu => flat_one hu) (by simp only [maxLen]; omega) (by omega) hb
      rw [List.nil_append, Nat.zero_add] at h2
      obtain ⟨a', c', rfl, _⟩ := Own.of_owns h2
      exact ⟨a', c', w', h1, h2, h3⟩
theorem step_lines {W : World} {ops : Array Oper} {o : Oper} {a : Act} {K : Act → World → Prop} {Q : Exit → Act → World → Prop} {E : Prop} (hgd : o.guard = none) (s x : Operand)
    (ho : o.op = .call { callee := .builtin .append, args := #[s, x], argTypes := #[23, 23] }) (g base : Nat) (xa : Option Addr) (xc : Nat) (M : List Ln) (hs : a.eval s = .slice (some ⟨g, 0, none⟩) 0 0) (hx : a.eval x = .slice xa M.length xc)
    (hown : OwnsL W base (.slice (some ⟨g, 0, none⟩) 0 0) []) (hc : Cells W xa (flat M)) (hn : xa = none → xc = 0) (hl : M.length ≤ 1048576) (hb : base ≤ W.heap.size)
    (h : ∀ a' c' w', OwnsL w' base (.slice a' M.length c') M → W.grownBy w' (some g) → K (a.put o.dst (.slice a' M.length c')) w') : if Region.wanted o (yielded ops a.tmps) = true then Oper.wp Try.prog o a W K Q else E := by
  obtain ⟨a', c', w', hr, ho', hg⟩ := run_lines W g base xa xc M o.type hown hc hn hl hb
  exact step_app hgd s x 23 23 ho _ _ hs hx _ _ hr (h a' c' w' ho' hg)
theorem two_row' (x y : Value) : ∀ i, i < (#[x, y] : Array Value).size → (#[x, y] : Array Value)[i]? = some ((fun i : Nat => if i = 0 then x else y) i)
  | 0, _ => rfl
  | 1, _ => rfl
  | n + 2, h => absurd h (by simp)
theorem addAll_bound {L P : List Ln} (hL : ∀ x ∈ L, rangeB x.a = true) (hP : ∀ x ∈ P, rangeB x.a = true) : ∀ k, k ≤ P.length → (∀ y ∈ addAll L (P.take k), -(1125899906842624 * ((k : Int) + 1)) ≤ y.a ∧ y.a ≤ 1125899906842624 * ((k : Int) + 1)) ∧ (addAll L (P.take k)).length ≤ L.length + k
  | 0, _ => by
    refine ⟨fun y hy => ?_, by simp [addAll]⟩
    have := hL y (by simpa [addAll] using hy)
    simp [rangeB] at this
    omega
  | k + 1, h => by
    obtain ⟨h1, h2⟩ := addAll_bound hL hP k (by omega)
    rw [addAll_take L P k (by omega)]
    have hx := hP P[k] (List.getElem_mem _)
    simp [rangeB] at hx
    refine ⟨fun y hy => ?_, Nat.le_trans (addG_len _ _ _) (by omega)⟩
    have := addG_bound P[k] (1125899906842624 * ((k : Int) + 1)) 1125899906842624 (by omega) (by omega) (by omega) (by omega) false _ h1 y hy
    push_cast
    omega
/-- While the lines are added: the variable's block, the lines of the call's own. -/
structure PSt (w2 : World) (Ob : Nat) (pid : Int) (v : Value) (M : List Ln) (W : World) : Prop where
  row : W.rowIs Ob 25 2 (fun i : Nat => if i = 0 then .int .i64 pid else v)
  own : OwnsL W w2.heap.size v M
  new : w2.heap.size ≤ Ob
  keeps : Keeps w2 W
theorem PSt.ne {w2 : World} {Ob : Nat} {pid : Int} {v : Value} {M : List Ln} {W : World} (s : PSt w2 Ob pid v M W) : v.ownBlock ≠ some Ob := by
  intro e
  obtain ⟨c, hc, _⟩ := s.row
  rcases s.own.2 with ⟨rfl, _⟩ | ⟨g, cap, cur, rfl, hb, hg, _⟩
  · simp [Value.ownBlock] at e
  · simp [Value.ownBlock] at e
    subst e
    rw [hc] at hg
    simp at hg
theorem OwnsL.other {w : World} {base b o : Nat} {v x : Value} {M : List Ln} (h : OwnsL w base v M) (hb : v.ownBlock ≠ some b) : OwnsL (w.setCell ⟨b, o, none⟩ x) base v M :=
  World.ownsRow.kept h (⟨rfl, rfl, rfl, by simp [World.setCell], fun k hk hne => Deep.blk_setCell_other _ _ _ _ (fun e => hne (by rw [e]))⟩ : w.grownBy (w.setCell ⟨b, o, none⟩ x) (some b)) (.inr hb)
theorem row_ne_own {W : World} {Ob base n : Nat} {f : Nat → Value} {v : Value} {M : List Ln} (hr : W.rowIs Ob 25 n f) (ho : OwnsL W base v M) : v.ownBlock ≠ some Ob := by
  intro e
  obtain ⟨c, hc, _⟩ := hr
  rcases ho.2 with ⟨rfl, _⟩ | ⟨g, cap, cur, rfl, hb, hg, _⟩
  · simp [Value.ownBlock] at e
  · simp [Value.ownBlock] at e
    subst e
    rw [hc] at hg
    simp at hg
theorem row_two {W : World} {b : Nat} {t : TypeId} {f : Nat → Value} (h : W.rowIs b t 2 f) (x y : Value) : ((W.setCell ⟨b, 0, none⟩ x).setCell ⟨b, 1, none⟩ y).rowIs b t 2 (fun i : Nat => if i = 0 then x else y) :=
  ((h.set 0 x).set 1 y).congr (fun i hi => by
    match i, hi with
    | 0, _ => simp
    | 1, _ => simp)
theorem pst_set {w2 w3 : World} {Ob : Nat} {pid : Int} {v : Value} {M : List Ln} {f : Nat → Value} (hr : w3.rowIs Ob 25 2 f) (ho : OwnsL w3 w2.heap.size v M) (hk : Keeps w2 w3) (hn : w2.heap.size ≤ Ob) : PSt w2 Ob pid v M ((w3.setCell ⟨Ob, 0, none⟩ (.int .i64 pid)).setCell ⟨Ob, 1, none⟩ v) :=
  ⟨row_two hr _ _, (ho.other (row_ne_own hr ho)).other (row_ne_own hr ho), hn, Keeps.setCell (Keeps.setCell hk hn _) hn _⟩
theorem pst_new {w2 w3 : World} {pid : Int} {v : Value} {M : List Ln} (ho : OwnsL w3 w2.heap.size v M) (hk : Keeps w2 w3) : PSt w2 w3.heap.size pid v M (w3.alloc (.cells #[.int .i64 pid, v] 25)) :=
  ⟨World.rowIs_alloc w3 #[.int .i64 pid, v] 25 _ (two_row' _ _), ho.alloc _, hk.size, Keeps.alloc hk _⟩
/-- A new list is laid into the variable. -/
theorem PSt.put {w2 : World} {Ob : Nat} {pid : Int} {v v' : Value} {M M' : List Ln} {W W' : World} (s : PSt w2 Ob pid v M W) (hk : Keeps W W') (ho : OwnsL W' W.heap.size v' M') : PSt w2 Ob pid v' M' (W'.setCell ⟨Ob, 1, none⟩ v') := by
  have hr := Keeps.row hk s.row
  have ho' : OwnsL W' w2.heap.size v' M' := owns_mono ho s.keeps.size
  refine ⟨(hr.set 1 v').congr (fun i hi => ?_), ho'.other (row_ne_own hr ho'), s.new, Keeps.setCell (s.keeps.trans hk) s.new _⟩
  match i, hi with
  | 0, _ => simp
  | 1, _ => simp
theorem PSt.kept {w2 : World} {Ob : Nat} {pid : Int} {v : Value} {M : List Ln} {W W' : World} (s : PSt w2 Ob pid v M W) (hk : Keeps W W') : PSt w2 Ob pid v M W' :=
  ⟨Keeps.row hk s.row, Keeps.owns hk s.own, s.new, s.keeps.trans hk⟩
theorem keeps_by {w w1 w2 : World} {g : Nat} (hk : Keeps w w1) (hg : w1.grownBy w2 (some g)) (h : w.heap.size ≤ g) : Keeps w w2 := 
  ⟨hg.os.trans hk.os, hg.tape.trans hk.tape, hg.output.trans hk.output, Nat.le_trans hk.size hg.size, fun i hi => (hg.block i (Nat.lt_of_lt_of_le hi hk.size) (fun e => by injection e with e; omega)).trans (hk.block i hi)⟩
theorem post_all {pid : Int} {P : List Ln} (h : postB pid P = true) : 1 ≤ pid ∧ pid ≤ 1125899906842624 ∧ 2 ≤ P.length ∧ P.length ≤ 8 ∧ linesB P = true := by
  unfold postB at h
  simp only [Bool.and_eq_true, decide_eq_true_eq] at h
  exact ⟨h.1.1.1.1, h.1.1.1.2, h.1.1.2, h.1.2, h.2⟩
theorem row2_out' {W : World} {b : Nat} {t : TypeId} {f : Nat → Value} (h : W.rowIs b t 2 f) (x y : Value) : ((W.setCell ⟨b, 0, none⟩ x).setCell ⟨b, 1, none⟩ y).cell? ⟨b, 0, none⟩ = some x ∧ ((W.setCell ⟨b, 0, none⟩ x).setCell ⟨b, 1, none⟩ y).cell? ⟨b, 1, none⟩ = some y := by
  have r := (h.set 0 x).set 1 y
  have c0 := r.cell (i := 0) (by decide)
  have c1 := r.cell (i := 1) (by decide)
  simp at c0 c1
  exact ⟨c0, c1⟩
set_option maxRecDepth 100000 in
set_option maxHeartbeats 4000000 in
theorem post_specC (id pid : Int) (a a' : Option Addr) (cap cap' : Nat) (L P : List Ln) (w : World) (hc : Cells w a (flat L)) (hc' : Cells w a' (flat P)) (hn : a = none → cap = 0) (hl : L.length ≤ 1048576) (hl' : P.length ≤ 1048576) :
    Calls Try.prog 10 #[.agg #[.int .i64 id, .slice a L.length cap], .agg #[.int .i64 pid, .slice a' P.length cap']] w fun e w' => PostC (pid' id L pid P) (pL id L pid P) (pcode id L pid P) w w' e ∧ Keeps w w' := by
  have HKA := hide (Keeps.alloc (Keeps.alloc (Keeps.alloc (Keeps.refl w) (.cells #[.int .i64 id, .slice a L.length cap] 25)) (.cells #[.int .i64 pid, .slice a' P.length cap'] 27)) (.cells #[.int .i64 0, .slice none 0 0] 25))
  have HD : Hid (∀ w', Keeps (((w.alloc (.cells #[.int .i64 id, .slice a L.length cap] 25)).alloc (.cells #[.int .i64 pid, .slice a' P.length cap'] 27)).alloc (.cells #[.int .i64 0, .slice none 0 0] 25)) w' →
      w'.cell? ⟨w.heap.size, 0, none⟩ = some (.int .i64 id) ∧ w'.cell? ⟨w.heap.size, 1, none⟩ = some (.slice a L.length cap) ∧ w'.cell? ⟨w.heap.size + 1, 0, none⟩ = some (.int .i64 pid) ∧ w'.cell? ⟨w.heap.size + 1, 1, none⟩ = some (.slice a' P.length cap')) :=
    fun w' hk => ⟨hk.cell ((Keeps.alloc (Keeps.refl _) _).cell (by simp)), hk.cell ((Keeps.alloc (Keeps.refl _) _).cell (by simp)), hk.cell ((Keeps.alloc (Keeps.refl _) _).cell (by simp)), hk.cell ((Keeps.alloc (Keeps.refl _) _).cell (by simp))⟩
  have r0 := World.rowIs_alloc ((w.alloc (.cells #[.int .i64 id, .slice a L.length cap] 25)).alloc (.cells #[.int .i64 pid, .slice a' P.length cap'] 27)) #[.int .i64 0, .slice none 0 0] 25 _ (two_row' _ _)
  simp only [World.size_alloc] at r0
  have HR0 := hide r0
  have HC := hide hc
  have HC' := hide hc'
  have HS := hide (fun w1 (hk : Keeps w w1) => ledger_spec id a cap L w1 (HC.out.kept hk) hl)
  have HP := hide (fun w1 (hk : Keeps w w1) => posting_spec pid a' cap' P w1 (HC'.out.kept hk) hl')
  clear hc hc' r0
  cases hb : ledgB id L
  · rw [hb] at HS
    have HV : Hid (pcode id L pid P = 1) := by show _ = _; simp [pcode, hb]
    clear hb
    go_enter Try.func10, Try.ntmps10
    go_wp2_with fail
    refine (unhide HS _ HKA.out).mono ?_
    rintro e w1 ⟨rfl, hk1⟩
    have HK1 := hide hk1
    clear hk1
    have HRow := hide (Keeps.row HK1.out HR0.out)
    have f0 := HRow.out.frozen 0
    have f1 := HRow.out.frozen 1
    have z0 := HRow.out.cell (i := 0) (by decide)
    have z1 := HRow.out.cell (i := 1) (by decide)
    simp at z0 z1
    go_wp2_with fail
    obtain ⟨o0, o1⟩ := row2_out' HRow.out (.int .i64 0) (.slice none 0 0)
    refine bodyPost_ret (v := .tuple #[.agg #[.int .i64 0, .slice none 0 0], .int .i64 1]) ?_ rfl ⟨by simp only [pid', pL, HV.out]; exact postC_none, Keeps.setCell (Keeps.setCell (HKA.out.trans HK1.out) (by show _ ≤ _ + 1 + 1; omega) _) (by show _ ≤ _ + 1 + 1; omega) _⟩
    revert o0 o1
    clear HRow HK1 f0 f1 z0 z1
    generalize World.setCell _ _ _ = W
    intro o0 o1
    simp [results, Try.results10, go_sem, o0, o1]
  · rw [hb] at HS
    cases hp : postB pid P
    · rw [hp] at HP
      have HV : Hid (pcode id L pid P = 1) := by show _ = _; simp [pcode, hp]
      clear hb hp
      go_enter Try.func10, Try.ntmps10
      go_wp2_with fail
      refine (unhide HS _ HKA.out).mono ?_
      rintro e w1 ⟨rfl, hk1⟩
      obtain ⟨d0, d1, d2, d3⟩ := HD.out _ hk1
      have HK1 := hide hk1
      clear hk1
      go_wp2_with fail
      refine (unhide HP _ (HKA.out.trans HK1.out)).mono ?_
      rintro e w2 ⟨rfl, hk2⟩
      have HK2 := hide (HK1.out.trans hk2)
      clear hk2 d0 d1 d2 d3
      have HRow := hide (Keeps.row HK2.out HR0.out)
      have f0 := HRow.out.frozen 0
      have f1 := HRow.out.frozen 1
      have z0 := HRow.out.cell (i := 0) (by decide)
      have z1 := HRow.out.cell (i := 1) (by decide)
      simp at z0 z1
      go_wp2_with fail
      obtain ⟨o0, o1⟩ := row2_out' HRow.out (.int .i64 0) (.slice none 0 0)
      refine bodyPost_ret (v := .tuple #[.agg #[.int .i64 0, .slice none 0 0], .int .i64 1]) ?_ rfl ⟨by simp only [pid', pL, HV.out]; exact postC_none, Keeps.setCell (Keeps.setCell (HKA.out.trans HK2.out) (by show _ ≤ _ + 1 + 1; omega) _) (by show _ ≤ _ + 1 + 1; omega) _⟩
      revert o0 o1
      clear HRow HK2 f0 f1 z0 z1
      generalize World.setCell _ _ _ = W
      intro o0 o1
      simp [results, Try.results10, go_sem, o0, o1]
    · rw [hp] at HP
      by_cases hid : pid ≤ id
      · have HV : Hid (pcode id L pid P = 2) := by show _ = _; simp [pcode, hp, hb, hid]
        clear hb hp
        go_enter Try.func10, Try.ntmps10
        go_wp2_with fail
        refine (unhide HS _ HKA.out).mono ?_
        rintro e w1 ⟨rfl, hk1⟩
        obtain ⟨d0, d1, d2, d3⟩ := HD.out _ hk1
        have HK1 := hide hk1
        clear hk1
        go_wp2_with fail
        refine (unhide HP _ (HKA.out.trans HK1.out)).mono ?_
        rintro e w2 ⟨rfl, hk2⟩
        have HK2 := hide (HK1.out.trans hk2)
        clear d0 d1 d2 d3
        obtain ⟨d0, d1, d2, d3⟩ := HD.out _ HK2.out
        clear hk2
        have HRow := hide (Keeps.row HK2.out HR0.out)
        have f0 := HRow.out.frozen 0
        have f1 := HRow.out.frozen 1
        have z0 := HRow.out.cell (i := 0) (by decide)
        have z1 := HRow.out.cell (i := 1) (by decide)
        simp at z0 z1
        go_wp2_with fail
        obtain ⟨o0, o1⟩ := row2_out' HRow.out (.int .i64 0) (.slice none 0 0)
        refine bodyPost_ret (v := .tuple #[.agg #[.int .i64 0, .slice none 0 0], .int .i64 2]) ?_ rfl ⟨by simp only [pid', pL, HV.out]; exact postC_none, Keeps.setCell (Keeps.setCell (HKA.out.trans HK2.out) (by show _ ≤ _ + 1 + 1; omega) _) (by show _ ≤ _ + 1 + 1; omega) _⟩
        revert o0 o1
        clear HRow HK2 f0 f1 z0 z1
        generalize World.setCell _ _ _ = W
        intro o0 o1
        simp [results, Try.results10, go_sem, o0, o1]
      · have HV : Hid (pcode id L pid P = if ledgB pid (addAll L P) = false then 3 else 0) := by show _ = _; simp [pcode, hp, hb, hid]
        have HLL := hide (ledgB_lines hb)
        have HPP := hide (post_all hp)
        clear hb hp
        go_enter Try.func10, Try.ntmps10
        go_wp2_with fail
        refine (unhide HS _ HKA.out).mono ?_
        rintro e w1 ⟨rfl, hk1⟩
        obtain ⟨d0, d1, d2, d3⟩ := HD.out _ hk1
        have HK1 := hide hk1
        clear hk1
        go_wp2_with fail
        refine (unhide HP _ (HKA.out.trans HK1.out)).mono ?_
        rintro e w2 ⟨rfl, hk2⟩
        have HK2 := hide (HK1.out.trans hk2)
        clear d0 d1 d2 d3
        obtain ⟨d0, d1, d2, d3⟩ := HD.out _ HK2.out
        have HRow := hide (Keeps.row HK2.out HR0.out)
        clear hk2 HS HP HK1
        go_wp2_with fail
        have hsz := HK2.out.size
        simp only [World.size_alloc] at hsz
        have hCa := HC.out.kept (HKA.out.trans HK2.out)
        have kE := (Keeps.alloc (Keeps.refl w2) (.cells #[] 35)).drew
        have kOE := (Keeps.alloc (Keeps.alloc (Keeps.refl w2) (.cells #[.int .i64 0, .slice none 0 0] 25)) (.cells #[] 35)).drew
        have kEO := (Keeps.alloc (Keeps.alloc (Keeps.refl w2) (.cells #[] 35)) (.cells #[.int .i64 0, .slice none 0 0] 25)).drew
        have lt0 := lt_of_cell d1
        have lt1 := lt_of_cell d2
        have ownA : OwnsL (w2.alloc (.cells #[] 35)).drew w2.heap.size (.slice (some ⟨w2.heap.size, 0, none⟩) 0 0) [] := World.ownsRow_made (base := w2.heap.size) (e := 35) (size := 3) w2 #[] 0 (Nat.le_refl _) (by decide) rfl
        have ownB : OwnsL ((w2.alloc (.cells #[.int .i64 0, .slice none 0 0] 25)).alloc (.cells #[] 35)).drew w2.heap.size (.slice (some ⟨w2.heap.size + 1, 0, none⟩) 0 0) [] := by
          have h := World.ownsRow_made (base := w2.heap.size) (e := 35) (size := 3) (w2.alloc (.cells #[.int .i64 0, .slice none 0 0] 25)) #[] 0 (by simp) (by decide) rfl
          rw [World.size_alloc] at h
          exact h
        have ownC : OwnsL ((w2.alloc (.cells #[] 35)).alloc (.cells #[.int .i64 0, .slice none 0 0] 25)).drew w2.heap.size (.slice (some ⟨w2.heap.size, 0, none⟩) 0 0) [] := ownA.alloc _
        have rB : ((w2.alloc (.cells #[.int .i64 0, .slice none 0 0] 25)).alloc (.cells #[] 35)).drew.rowIs w2.heap.size 25 2 (fun i : Nat => if i = 0 then .int .i64 0 else .slice none 0 0) := (World.rowIs_alloc w2 #[.int .i64 0, .slice none 0 0] 25 _ (two_row' _ _)).alloc _
        have rC : ((w2.alloc (.cells #[] 35)).alloc (.cells #[.int .i64 0, .slice none 0 0] 25)).drew.rowIs (w2.heap.size + 1) 25 2 (fun i : Nat => if i = 0 then .int .i64 0 else .slice none 0 0) := by
          have h := World.rowIs_alloc (w2.alloc (.cells #[] 35)) #[.int .i64 0, .slice none 0 0] 25 _ (two_row' _ _)
          rw [World.size_alloc] at h
          exact h
        go_region_held3 (fun w' => w'.cell? ⟨w.heap.size + 1, 0, none⟩ = some (.int .i64 pid) ∧ w'.cell? ⟨w.heap.size, 1, none⟩ = some (.slice a L.length cap))
          (first
            | go_keep
            | (refine ⟨?_, ?_⟩
               · (rw [World.cell?_setCell_other _ _ _ _ (by simp <;> omega), World.cell?_setCell_other _ _ _ _ (by simp <;> omega)]; assumption)
               · (rw [World.cell?_setCell_other _ _ _ _ (by simp <;> omega), World.cell?_setCell_other _ _ _ _ (by simp <;> omega)]; assumption)))
          (first
            | (refine step_lines (by rfl) (.tmp 26) (.tmp 28) (by rfl) w2.heap.size w2.heap.size a cap L (by rfl) (by rfl) ownA (hCa.kept kE) hn hl kE.size ?_
               intro a3 c3 w3 o3 g3
               have e0 := g3.cell (kE.cell d2) (by simp; omega)
               have e1 := g3.cell (kE.cell d1) (by simp; omega)
               have HK3 := hide (keeps_by kE g3 (by simp))
               have HO3 := hide o3
               clear o3 g3)
            | (refine step_lines (by rfl) (.tmp 26) (.tmp 28) (by rfl) (w2.heap.size + 1) w2.heap.size a cap L (by rfl) (by rfl) ownB (hCa.kept kOE) hn hl kOE.size ?_
               intro a3 c3 w3 o3 g3
               have e0 := g3.cell (kOE.cell d2) (by simp; omega)
               have e1 := g3.cell (kOE.cell d1) (by simp; omega)
               have r3 := rB.of_block (g3.block _ rB.lt (by simp))
               have z0 := r3.cell (i := 0) (by decide)
               have z1 := r3.cell (i := 1) (by decide)
               have f0 := r3.frozen 0
               have f1 := r3.frozen 1
               simp at z0 z1
               have HR3 := hide r3
               clear r3
               have HK3 := hide (keeps_by kOE g3 (by simp))
               have HO3 := hide o3
               clear o3 g3)
            | (refine step_lines (by rfl) (.tmp 26) (.tmp 28) (by rfl) w2.heap.size w2.heap.size a cap L (by rfl) (by rfl) ownC (hCa.kept kEO) hn hl kEO.size ?_
               intro a3 c3 w3 o3 g3
               have e0 := g3.cell (kEO.cell d2) (by simp; omega)
               have e1 := g3.cell (kEO.cell d1) (by simp; omega)
               have r3 := rC.of_block (g3.block _ rC.lt (by simp))
               have z0 := r3.cell (i := 0) (by decide)
               have z1 := r3.cell (i := 1) (by decide)
               have f0 := r3.frozen 0
               have f1 := r3.frozen 1
               simp at z0 z1
               have HR3 := hide r3
               clear r3
               have HK3 := hide (keeps_by kEO g3 (by simp))
               have HO3 := hide o3
               clear o3 g3))
        all_goals
          rename_i hgo hheld
          refine hgo _ _ ?_
          clear hgo hheld
        · have HS3 : Hid (PSt w2 w3.heap.size pid (.slice a3 L.length c3) L (w3.alloc (.cells #[.int .i64 pid, .slice a3 L.length c3] 25))) := pst_new HO3.out HK3.out
          generalize w3.heap.size = Ob at *
          generalize w3.alloc (.cells #[.int .i64 pid, .slice a3 L.length c3] 25) = W at *
          obtain ⟨d0', d1', d2', d3'⟩ := HD.out _ (HK2.out.trans HS3.out.keeps)
          have lOb := HS3.out.new
          have lOb' := HS3.out.row.lt
          clear HO3 HK3 e0 e1 d0 d1 d2 d3 ownA ownB ownC rB rC kE kOE kEO hCa HRow
          go_wp2_with fail
          go_loopw [34] (fun i wr => ∃ (k : Nat) (v : Value), k ≤ P.length ∧ i = .int .i64 (k : Int) ∧ Hid (PSt w2 Ob pid v (addAll L (P.take k)) wr)) (fun i _ => P.length - (intOf i).toNat)
          case atStart => exact ⟨0, _, by omega, rfl, by simpa [addAll] using HS3⟩
          case round =>
            obtain ⟨k, v, hk, rfl, HS⟩ := hrel
            clear HS3 d0' d1' d2' d3' lOb'
            have HKr := hide ((HKA.out.trans HK2.out).trans HS.out.keeps)
            by_cases hlt : k < P.length
            · have hbd := addAll_bound (lines_mem_range HLL.out.1) (lines_mem_range HPP.out.2.2.2.2) k hk
              have h8 := HPP.out.2.2.2.1
              have h320 := HLL.out.2
              have hx := lines_mem_range HPP.out.2.2.2.2 P[k] (List.getElem_mem _)
              simp [rangeB] at hx
              obtain ⟨b, off, ea, c0, c1, c2⟩ := cells_at (HC'.out.kept HKr.out) k hlt
              have HT := hide (addAll_take L P k hlt)
              obtain ⟨av, cv, rfl, hcv⟩ := own_cells HS.out.own
              have HAdd : Hid (∀ w', Keeps wr w' → Calls Try.prog 46 #[.slice av (addAll L (P.take k)).length cv, lineV P[k]] w' fun e w'' => ∃ v, e = .returned v ∧ OwnsL w'' w'.heap.size v (addG P[k] false (addAll L (P.take k))) ∧ Keeps w' w'') := fun w' hk' => add_spec av cv (addAll L (P.take k)) P[k] w' (hcv.kept hk') (by omega) (by omega) (by omega) (fun n hn => by have := hbd.1 _ (List.getElem_mem hn); omega)
              have q1 := HS.out.row.cell (i := 1) (by decide)
              simp at q1
              have lr := HS.out.row.lt
              clear hbd hcv hx h320
              generalize hxx : P[k] = x at *
              generalize addAll L (P.take k) = M at *
              subst ea
              go_wp2_with fail
              refine (HAdd.out _ (Keeps.alloc (Keeps.refl wr) _)).mono ?_
              rintro e w5 ⟨v5, rfl, ho5, hk5⟩
              obtain ⟨a5, c5, rfl, _⟩ := own_cells ho5
              generalize hz5 : (addG x false M).length = z5 at *
              have HK5 := hide ((Keeps.alloc (Keeps.refl wr) (.cells #[.int .i64 x.k, .int .i64 x.c, .int .i64 x.a] 35)).trans hk5)
              have HO5 : Hid (OwnsL w5 wr.heap.size (.slice a5 z5 c5) (addG x false M)) := by rw [← hz5] at *; exact owns_mono ho5 (by simp)
              have r5 := Keeps.row HK5.out HS.out.row
              have y1 := r5.cell (i := 1) (by decide)
              have g1 := r5.frozen 1
              simp at y1
              clear ho5 hk5 r5 HAdd
              go_wp2_with fail
              go_roundw
              case rel =>
                refine ⟨k + 1, .slice a5 z5 c5, by omega, by go_num, ?_⟩
                show PSt _ _ _ _ _ _
                rw [HT.out]
                exact HS.out.put HK5.out HO5.out
              case measure => simp [intOf]; omega
            · have e : k = P.length := by omega
              subst e
              rw [List.take_length] at HS
              have hbd := (addAll_bound (lines_mem_range HLL.out.1) (lines_mem_range HPP.out.2.2.2.2) P.length (Nat.le_refl _)).2
              rw [List.take_length] at hbd
              have h8 := HPP.out.2.2.2.1
              have h320 := HLL.out.2
              obtain ⟨av, cv, rfl, hcv⟩ := own_cells HS.out.own
              have HLd : Hid (∀ w', Keeps wr w' → _) := fun w' hk' => ledger_spec pid av cv (addAll L P) w' (hcv.kept hk') (by omega)
              have q0 := HS.out.row.cell (i := 0) (by decide)
              have q1 := HS.out.row.cell (i := 1) (by decide)
              simp at q0 q1
              clear hbd hcv h8 h320
              have HRw := hide (Keeps.row (HK2.out.trans HS.out.keeps) HR0.out)
              cases hb : ledgB pid (addAll L P)
              · rw [hb] at HLd
                have HV' : Hid (pcode id L pid P = 3) := by show _ = _; rw [HV.out, hb]; rfl
                clear hb
                go_wp2_with fail
                refine (HLd.out _ (Keeps.refl _)).mono ?_
                rintro e w6 ⟨rfl, hk6⟩
                have HK6 := hide ((HK2.out.trans HS.out.keeps).trans hk6)
                have HRow := hide (Keeps.row hk6 HRw.out)
                have f0 := HRow.out.frozen 0
                have f1 := HRow.out.frozen 1
                have z0 := HRow.out.cell (i := 0) (by decide)
                have z1 := HRow.out.cell (i := 1) (by decide)
                simp at z0 z1
                clear hk6 q0 q1
                go_wp2_with fail
                obtain ⟨o0, o1⟩ := row2_out' HRow.out (.int .i64 0) (.slice none 0 0)
                refine bodyPost_ret (v := .tuple #[.agg #[.int .i64 0, .slice none 0 0], .int .i64 3]) ?_ rfl ⟨by simp only [pid', pL, HV'.out]; exact postC_none, Keeps.setCell (Keeps.setCell (HKA.out.trans HK6.out) (by show _ ≤ _ + 1 + 1; omega) _) (by show _ ≤ _ + 1 + 1; omega) _⟩
                revert o0 o1
                clear HRow HK6 f0 f1 z0 z1
                generalize World.setCell _ _ _ = W'
                intro o0 o1
                simp [results, Try.results10, go_sem, o0, o1]
              · rw [hb] at HLd
                have HV' : Hid (pcode id L pid P = 0) := by show _ = _; rw [HV.out, hb]; rfl
                clear hb
                go_wp2_with fail
                refine (HLd.out _ (Keeps.refl _)).mono ?_
                rintro e w6 ⟨rfl, hk6⟩
                have HS6 := hide (HS.out.kept hk6)
                have HK6 := hide ((HK2.out.trans HS.out.keeps).trans hk6)
                have HRow := hide (Keeps.row hk6 HRw.out)
                have f0 := HRow.out.frozen 0
                have f1 := HRow.out.frozen 1
                have z0 := HRow.out.cell (i := 0) (by decide)
                have z1 := HRow.out.cell (i := 1) (by decide)
                simp at z0 z1
                clear q0 q1
                have q0 := HS6.out.row.cell (i := 0) (by decide)
                have q1 := HS6.out.row.cell (i := 1) (by decide)
                simp at q0 q1
                clear hk6
                go_wp2_with fail
                obtain ⟨o0, o1⟩ := row2_out' HRow.out (.int .i64 pid) (.slice av (addAll L P).length cv)
                have hne : (Value.slice av (addAll L P).length cv).ownBlock ≠ some (w.heap.size + 1 + 1) := fun e => by have := (HS6.out.own.lt _ e).1; omega
                have hB := Born.of_owns (w := w) (owns_mono ((HS6.out.own.other (o := 0) (x := .int .i64 pid) hne).other (o := 1) (x := .slice av (addAll L P).length cv) hne) (base' := w.heap.size) (by omega))
                refine bodyPost_ret (v := .tuple #[.agg #[.int .i64 pid, .slice av (addAll L P).length cv], .int .i64 0]) ?_ rfl ⟨?_, Keeps.setCell (Keeps.setCell (HKA.out.trans HK6.out) (by show _ ≤ _ + 1 + 1; omega) _) (by show _ ≤ _ + 1 + 1; omega) _⟩
                · revert o0 o1
                  clear HRow HK6 f0 f1 z0 z1 q0 q1 hB HS6
                  generalize World.setCell _ _ _ = W'
                  intro o0 o1
                  simp [results, Try.results10, go_sem, o0, o1]
                · simp only [pid', pL, HV'.out]
                  obtain ⟨a9, c9, e9, hn9, hb9⟩ := hB
                  injection e9 with e1 e2 e3
                  subst e1 e3
                  exact ⟨av, cv, rfl, hn9.1, hb9, hn9.2⟩
        · have HS3 : Hid (PSt w2 (w2.heap.size + 1) pid (.slice a3 L.length c3) L ((w3.setCell ⟨w2.heap.size + 1, 0, none⟩ (.int .i64 pid)).setCell ⟨w2.heap.size + 1, 1, none⟩ (.slice a3 L.length c3))) := pst_set HR3.out HO3.out HK3.out (by omega)
          clear HR3 z0 z1 f0 f1
          generalize ((w3.setCell ⟨w2.heap.size + 1, 0, none⟩ (.int .i64 pid)).setCell ⟨w2.heap.size + 1, 1, none⟩ (.slice a3 L.length c3)) = W at *
          clear rC ownB kOE
          generalize w2.heap.size + 1 = Ob at *
          obtain ⟨d0', d1', d2', d3'⟩ := HD.out _ (HK2.out.trans HS3.out.keeps)
          have lOb := HS3.out.new
          have lOb' := HS3.out.row.lt
          clear HO3 HK3 e0 e1 d0 d1 d2 d3 ownA ownC rB kE kEO hCa HRow
          go_wp2_with fail
          go_loopw [34] (fun i wr => ∃ (k : Nat) (v : Value), k ≤ P.length ∧ i = .int .i64 (k : Int) ∧ Hid (PSt w2 Ob pid v (addAll L (P.take k)) wr)) (fun i _ => P.length - (intOf i).toNat)
          case atStart => exact ⟨0, _, by omega, rfl, by simpa [addAll] using HS3⟩
          case round =>
            obtain ⟨k, v, hk, rfl, HS⟩ := hrel
            clear HS3 d0' d1' d2' d3' lOb'
            have HKr := hide ((HKA.out.trans HK2.out).trans HS.out.keeps)
            by_cases hlt : k < P.length
            · have hbd := addAll_bound (lines_mem_range HLL.out.1) (lines_mem_range HPP.out.2.2.2.2) k hk
              have h8 := HPP.out.2.2.2.1
              have h320 := HLL.out.2
              have hx := lines_mem_range HPP.out.2.2.2.2 P[k] (List.getElem_mem _)
              simp [rangeB] at hx
              obtain ⟨b, off, ea, c0, c1, c2⟩ := cells_at (HC'.out.kept HKr.out) k hlt
              have HT := hide (addAll_take L P k hlt)
              obtain ⟨av, cv, rfl, hcv⟩ := own_cells HS.out.own
              have HAdd : Hid (∀ w', Keeps wr w' → Calls Try.prog 46 #[.slice av (addAll L (P.take k)).length cv, lineV P[k]] w' fun e w'' => ∃ v, e = .returned v ∧ OwnsL w'' w'.heap.size v (addG P[k] false (addAll L (P.take k))) ∧ Keeps w' w'') := fun w' hk' => add_spec av cv (addAll L (P.take k)) P[k] w' (hcv.kept hk') (by omega) (by omega) (by omega) (fun n hn => by have := hbd.1 _ (List.getElem_mem hn); omega)
              have q1 := HS.out.row.cell (i := 1) (by decide)
              simp at q1
              have lr := HS.out.row.lt
              clear hbd hcv hx h320
              generalize hxx : P[k] = x at *
              generalize addAll L (P.take k) = M at *
              subst ea
              go_wp2_with fail
              refine (HAdd.out _ (Keeps.alloc (Keeps.refl wr) _)).mono ?_
              rintro e w5 ⟨v5, rfl, ho5, hk5⟩
              obtain ⟨a5, c5, rfl, _⟩ := own_cells ho5
              generalize hz5 : (addG x false M).length = z5 at *
              have HK5 := hide ((Keeps.alloc (Keeps.refl wr) (.cells #[.int .i64 x.k, .int .i64 x.c, .int .i64 x.a] 35)).trans hk5)
              have HO5 : Hid (OwnsL w5 wr.heap.size (.slice a5 z5 c5) (addG x false M)) := by rw [← hz5] at *; exact owns_mono ho5 (by simp)
              have r5 := Keeps.row HK5.out HS.out.row
              have y1 := r5.cell (i := 1) (by decide)
              have g1 := r5.frozen 1
              simp at y1
              clear ho5 hk5 r5 HAdd
              go_wp2_with fail
              go_roundw
              case rel =>
                refine ⟨k + 1, .slice a5 z5 c5, by omega, by go_num, ?_⟩
                show PSt _ _ _ _ _ _
                rw [HT.out]
                exact HS.out.put HK5.out HO5.out
              case measure => simp [intOf]; omega
            · have e : k = P.length := by omega
              subst e
              rw [List.take_length] at HS
              have hbd := (addAll_bound (lines_mem_range HLL.out.1) (lines_mem_range HPP.out.2.2.2.2) P.length (Nat.le_refl _)).2
              rw [List.take_length] at hbd
              have h8 := HPP.out.2.2.2.1
              have h320 := HLL.out.2
              obtain ⟨av, cv, rfl, hcv⟩ := own_cells HS.out.own
              have HLd : Hid (∀ w', Keeps wr w' → _) := fun w' hk' => ledger_spec pid av cv (addAll L P) w' (hcv.kept hk') (by omega)
              have q0 := HS.out.row.cell (i := 0) (by decide)
              have q1 := HS.out.row.cell (i := 1) (by decide)
              simp at q0 q1
              clear hbd hcv h8 h320
              have HRw := hide (Keeps.row (HK2.out.trans HS.out.keeps) HR0.out)
              cases hb : ledgB pid (addAll L P)
              · rw [hb] at HLd
                have HV' : Hid (pcode id L pid P = 3) := by show _ = _; rw [HV.out, hb]; rfl
                clear hb
                go_wp2_with fail
                refine (HLd.out _ (Keeps.refl _)).mono ?_
                rintro e w6 ⟨rfl, hk6⟩
                have HK6 := hide ((HK2.out.trans HS.out.keeps).trans hk6)
                have HRow := hide (Keeps.row hk6 HRw.out)
                have f0 := HRow.out.frozen 0
                have f1 := HRow.out.frozen 1
                have z0 := HRow.out.cell (i := 0) (by decide)
                have z1 := HRow.out.cell (i := 1) (by decide)
                simp at z0 z1
                clear hk6 q0 q1
                go_wp2_with fail
                obtain ⟨o0, o1⟩ := row2_out' HRow.out (.int .i64 0) (.slice none 0 0)
                refine bodyPost_ret (v := .tuple #[.agg #[.int .i64 0, .slice none 0 0], .int .i64 3]) ?_ rfl ⟨by simp only [pid', pL, HV'.out]; exact postC_none, Keeps.setCell (Keeps.setCell (HKA.out.trans HK6.out) (by show _ ≤ _ + 1 + 1; omega) _) (by show _ ≤ _ + 1 + 1; omega) _⟩
                revert o0 o1
                clear HRow HK6 f0 f1 z0 z1
                generalize World.setCell _ _ _ = W'
                intro o0 o1
                simp [results, Try.results10, go_sem, o0, o1]
              · rw [hb] at HLd
                have HV' : Hid (pcode id L pid P = 0) := by show _ = _; rw [HV.out, hb]; rfl
                clear hb
                go_wp2_with fail
                refine (HLd.out _ (Keeps.refl _)).mono ?_
                rintro e w6 ⟨rfl, hk6⟩
                have HS6 := hide (HS.out.kept hk6)
                have HK6 := hide ((HK2.out.trans HS.out.keeps).trans hk6)
                have HRow := hide (Keeps.row hk6 HRw.out)
                have f0 := HRow.out.frozen 0
                have f1 := HRow.out.frozen 1
                have z0 := HRow.out.cell (i := 0) (by decide)
                have z1 := HRow.out.cell (i := 1) (by decide)
                simp at z0 z1
                clear q0 q1
                have q0 := HS6.out.row.cell (i := 0) (by decide)
                have q1 := HS6.out.row.cell (i := 1) (by decide)
                simp at q0 q1
                clear hk6
                go_wp2_with fail
                obtain ⟨o0, o1⟩ := row2_out' HRow.out (.int .i64 pid) (.slice av (addAll L P).length cv)
                have hne : (Value.slice av (addAll L P).length cv).ownBlock ≠ some (w.heap.size + 1 + 1) := fun e => by have := (HS6.out.own.lt _ e).1; omega
                have hB := Born.of_owns (w := w) (owns_mono ((HS6.out.own.other (o := 0) (x := .int .i64 pid) hne).other (o := 1) (x := .slice av (addAll L P).length cv) hne) (base' := w.heap.size) (by omega))
                refine bodyPost_ret (v := .tuple #[.agg #[.int .i64 pid, .slice av (addAll L P).length cv], .int .i64 0]) ?_ rfl ⟨?_, Keeps.setCell (Keeps.setCell (HKA.out.trans HK6.out) (by show _ ≤ _ + 1 + 1; omega) _) (by show _ ≤ _ + 1 + 1; omega) _⟩
                · revert o0 o1
                  clear HRow HK6 f0 f1 z0 z1 q0 q1 hB HS6
                  generalize World.setCell _ _ _ = W'
                  intro o0 o1
                  simp [results, Try.results10, go_sem, o0, o1]
                · simp only [pid', pL, HV'.out]
                  obtain ⟨a9, c9, e9, hn9, hb9⟩ := hB
                  injection e9 with e1 e2 e3
                  subst e1 e3
                  exact ⟨av, cv, rfl, hn9.1, hb9, hn9.2⟩
        · have HS3 : Hid (PSt w2 (w2.heap.size) pid (.slice a3 L.length c3) L ((w3.setCell ⟨w2.heap.size, 0, none⟩ (.int .i64 pid)).setCell ⟨w2.heap.size, 1, none⟩ (.slice a3 L.length c3))) := pst_set HR3.out HO3.out HK3.out (by omega)
          clear HR3 z0 z1 f0 f1
          generalize ((w3.setCell ⟨w2.heap.size, 0, none⟩ (.int .i64 pid)).setCell ⟨w2.heap.size, 1, none⟩ (.slice a3 L.length c3)) = W at *
          obtain ⟨d0', d1', d2', d3'⟩ := HD.out _ (HK2.out.trans HS3.out.keeps)
          have lOb := HS3.out.new
          have lOb' := HS3.out.row.lt
          clear HO3 HK3 e0 e1 d0 d1 d2 d3 ownA ownB ownC rB rC kE kOE kEO hCa HRow
          go_wp2_with fail
          go_loopw [34] (fun i wr => ∃ (k : Nat) (v : Value), k ≤ P.length ∧ i = .int .i64 (k : Int) ∧ Hid (PSt w2 (w2.heap.size) pid v (addAll L (P.take k)) wr)) (fun i _ => P.length - (intOf i).toNat)
          case atStart => exact ⟨0, _, by omega, rfl, by simpa [addAll] using HS3⟩
          case round =>
            obtain ⟨k, v, hk, rfl, HS⟩ := hrel
            clear HS3 d0' d1' d2' d3' lOb'
            have HKr := hide ((HKA.out.trans HK2.out).trans HS.out.keeps)
            by_cases hlt : k < P.length
            · have hbd := addAll_bound (lines_mem_range HLL.out.1) (lines_mem_range HPP.out.2.2.2.2) k hk
              have h8 := HPP.out.2.2.2.1
              have h320 := HLL.out.2
              have hx := lines_mem_range HPP.out.2.2.2.2 P[k] (List.getElem_mem _)
              simp [rangeB] at hx
              obtain ⟨b, off, ea, c0, c1, c2⟩ := cells_at (HC'.out.kept HKr.out) k hlt
              have HT := hide (addAll_take L P k hlt)
              obtain ⟨av, cv, rfl, hcv⟩ := own_cells HS.out.own
              have HAdd : Hid (∀ w', Keeps wr w' → Calls Try.prog 46 #[.slice av (addAll L (P.take k)).length cv, lineV P[k]] w' fun e w'' => ∃ v, e = .returned v ∧ OwnsL w'' w'.heap.size v (addG P[k] false (addAll L (P.take k))) ∧ Keeps w' w'') := fun w' hk' => add_spec av cv (addAll L (P.take k)) P[k] w' (hcv.kept hk') (by omega) (by omega) (by omega) (fun n hn => by have := hbd.1 _ (List.getElem_mem hn); omega)
              have q1 := HS.out.row.cell (i := 1) (by decide)
              simp at q1
              have lr := HS.out.row.lt
              clear hbd hcv hx h320
              generalize hxx : P[k] = x at *
              generalize addAll L (P.take k) = M at *
              subst ea
              go_wp2_with fail
              refine (HAdd.out _ (Keeps.alloc (Keeps.refl wr) _)).mono ?_
              rintro e w5 ⟨v5, rfl, ho5, hk5⟩
              obtain ⟨a5, c5, rfl, _⟩ := own_cells ho5
              generalize hz5 : (addG x false M).length = z5 at *
              have HK5 := hide ((Keeps.alloc (Keeps.refl wr) (.cells #[.int .i64 x.k, .int .i64 x.c, .int .i64 x.a] 35)).trans hk5)
              have HO5 : Hid (OwnsL w5 wr.heap.size (.slice a5 z5 c5) (addG x false M)) := by rw [← hz5] at *; exact owns_mono ho5 (by simp)
              have r5 := Keeps.row HK5.out HS.out.row
              have y1 := r5.cell (i := 1) (by decide)
              have g1 := r5.frozen 1
              simp at y1
              clear ho5 hk5 r5 HAdd
              go_wp2_with fail
              go_roundw
              case rel =>
                refine ⟨k + 1, .slice a5 z5 c5, by omega, by go_num, ?_⟩
                show PSt _ _ _ _ _ _
                rw [HT.out]
                exact HS.out.put HK5.out HO5.out
              case measure => simp [intOf]; omega
            · have e : k = P.length := by omega
              subst e
              rw [List.take_length] at HS
              have hbd := (addAll_bound (lines_mem_range HLL.out.1) (lines_mem_range HPP.out.2.2.2.2) P.length (Nat.le_refl _)).2
              rw [List.take_length] at hbd
              have h8 := HPP.out.2.2.2.1
              have h320 := HLL.out.2
              obtain ⟨av, cv, rfl, hcv⟩ := own_cells HS.out.own
              have HLd : Hid (∀ w', Keeps wr w' → _) := fun w' hk' => ledger_spec pid av cv (addAll L P) w' (hcv.kept hk') (by omega)
              have q0 := HS.out.row.cell (i := 0) (by decide)
              have q1 := HS.out.row.cell (i := 1) (by decide)
              simp at q0 q1
              clear hbd hcv h8 h320
              have HRw := hide (Keeps.row (HK2.out.trans HS.out.keeps) HR0.out)
              cases hb : ledgB pid (addAll L P)
              · rw [hb] at HLd
                have HV' : Hid (pcode id L pid P = 3) := by show _ = _; rw [HV.out, hb]; rfl
                clear hb
                go_wp2_with fail
                refine (HLd.out _ (Keeps.refl _)).mono ?_
                rintro e w6 ⟨rfl, hk6⟩
                have HK6 := hide ((HK2.out.trans HS.out.keeps).trans hk6)
                have HRow := hide (Keeps.row hk6 HRw.out)
                have f0 := HRow.out.frozen 0
                have f1 := HRow.out.frozen 1
                have z0 := HRow.out.cell (i := 0) (by decide)
                have z1 := HRow.out.cell (i := 1) (by decide)
                simp at z0 z1
                clear hk6 q0 q1
                go_wp2_with fail
                obtain ⟨o0, o1⟩ := row2_out' HRow.out (.int .i64 0) (.slice none 0 0)
                refine bodyPost_ret (v := .tuple #[.agg #[.int .i64 0, .slice none 0 0], .int .i64 3]) ?_ rfl ⟨by simp only [pid', pL, HV'.out]; exact postC_none, Keeps.setCell (Keeps.setCell (HKA.out.trans HK6.out) (by show _ ≤ _ + 1 + 1; omega) _) (by show _ ≤ _ + 1 + 1; omega) _⟩
                revert o0 o1
                clear HRow HK6 f0 f1 z0 z1
                generalize World.setCell _ _ _ = W'
                intro o0 o1
                simp [results, Try.results10, go_sem, o0, o1]
              · rw [hb] at HLd
                have HV' : Hid (pcode id L pid P = 0) := by show _ = _; rw [HV.out, hb]; rfl
                clear hb
                go_wp2_with fail
                refine (HLd.out _ (Keeps.refl _)).mono ?_
                rintro e w6 ⟨rfl, hk6⟩
                have HS6 := hide (HS.out.kept hk6)
                have HK6 := hide ((HK2.out.trans HS.out.keeps).trans hk6)
                have HRow := hide (Keeps.row hk6 HRw.out)
                have f0 := HRow.out.frozen 0
                have f1 := HRow.out.frozen 1
                have z0 := HRow.out.cell (i := 0) (by decide)
                have z1 := HRow.out.cell (i := 1) (by decide)
                simp at z0 z1
                clear q0 q1
                have q0 := HS6.out.row.cell (i := 0) (by decide)
                have q1 := HS6.out.row.cell (i := 1) (by decide)
                simp at q0 q1
                clear hk6
                go_wp2_with fail
                obtain ⟨o0, o1⟩ := row2_out' HRow.out (.int .i64 pid) (.slice av (addAll L P).length cv)
                have hne : (Value.slice av (addAll L P).length cv).ownBlock ≠ some (w.heap.size + 1 + 1) := fun e => by have := (HS6.out.own.lt _ e).1; omega
                have hB := Born.of_owns (w := w) (owns_mono ((HS6.out.own.other (o := 0) (x := .int .i64 pid) hne).other (o := 1) (x := .slice av (addAll L P).length cv) hne) (base' := w.heap.size) (by omega))
                refine bodyPost_ret (v := .tuple #[.agg #[.int .i64 pid, .slice av (addAll L P).length cv], .int .i64 0]) ?_ rfl ⟨?_, Keeps.setCell (Keeps.setCell (HKA.out.trans HK6.out) (by show _ ≤ _ + 1 + 1; omega) _) (by show _ ≤ _ + 1 + 1; omega) _⟩
                · revert o0 o1
                  clear HRow HK6 f0 f1 z0 z1 q0 q1 hB HS6
                  generalize World.setCell _ _ _ = W'
                  intro o0 o1
                  simp [results, Try.results10, go_sem, o0, o1]
                · simp only [pid', pL, HV'.out]
                  obtain ⟨a9, c9, e9, hn9, hb9⟩ := hB
                  injection e9 with e1 e2 e3
                  subst e1 e3
                  exact ⟨av, cv, rfl, hn9.1, hb9, hn9.2⟩
theorem post_spec (id pid : Int) (a a' : Option Addr) (cap cap' : Nat) (L P : List Ln) (w : World) (hc : Cells w a (flat L)) (hc' : Cells w a' (flat P)) (hn : a = none → cap = 0) (hl : L.length ≤ 1048576) (hl' : P.length ≤ 1048576) :
    Calls Try.prog 10 #[.agg #[.int .i64 id, .slice a L.length cap], .agg #[.int .i64 pid, .slice a' P.length cap']] w fun e w' => PostO (pid' id L pid P) (pL id L pid P) (pcode id L pid P) w w' e ∧ Keeps w w' := by
  refine (post_specC id pid a a' cap cap' L P w hc hc' hn hl hl').mono ?_
  rintro e w' ⟨⟨a9, c9, he, hn9, hb9, _⟩, hk⟩
  exact ⟨⟨a9, c9, he, hn9, hb9⟩, hk⟩
end Go.Proofs.Ytecjjkgdgmjgmaa
