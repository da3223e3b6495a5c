/- Texts of the verifier, joined: Int0, Jam2, Bk, Tn, Pf, BkA, BkB, TnR, ShelfD, Bld, ShelfB, NumK. -/
import Derived.Test.YtkgpoghoilffhaaGreatDoorSC1
import Derived.Deep.DrawnRows
import Derived.Deep.Heap
import Derived.Shelf.Strings.Builder1
import Derived.Test.YtkgpoghoilffhaaGreatDoorProg
import Derived.WalkLawsBesides
import Derived.OwnWalk
import Derived.Shelf.LaysM
import Derived.Shelf.Strconv.Itoa3
import Derived.Lib.ItoaLen
import Derived.Lib.ItoaMem
import Derived.Lib.LaidTab
import Derived.Laws.IdiomStrings
import Derived.Deep.RegionWith
namespace Go.Proofs.YtkgpoghoilffhaaGreatDoor
open Go.RowKit Go.Deep
set_option linter.unusedVariables false
set_option maxRecDepth 10000

def its (K : List Int) : List Value := K.map fun k => .int .i64 k
theorem its_length (K : List Int) : (its K).length = K.length := by simp [its]
theorem its_at {w : World} {a : Option Addr} {K : List Int} (h : Cells w a (its K)) (i : Nat) (hi : i < K.length) : ∃ b off, a = some ⟨b, off, none⟩ ∧ w.cell? ⟨b, off + i, none⟩ = some (.int .i64 K[i]) := by
  rcases h with h | ⟨b, off, e, h⟩
  · have : K = [] := by simpa [its] using h
    subst this; simp at hi
  · refine ⟨b, off, e, ?_⟩
    rw [h i (by rw [its_length]; exact hi)]
    simp [its]
theorem its_append (K M : List Int) : its (K ++ M) = its K ++ its M := by simp [its]
theorem infoInt : (Tryz.prog.info? 3).map (fun i => (i.zero, i.size, i.bytes)) = some (some (.int .i64 0), 1, 8) := by kernel_rfl
theorem underInts : Tryz.prog.underlying 29 = some (.slice 3) := by kernel_rfl
abbrev OwnsI (w : World) (base : Nat) (v : Value) (L : List Int) : Prop := w.ownsRow base 3 1 v L.length (its L)
/-- append of a list of numbers to one of the call's own. -/
theorem app_its {ops : Array Oper} {rest : List Oper} {o : Oper} {a : Act} {Q : Exit → Act → World → Prop} {wr : World} (hgd : o.guard = none) (s x : Operand)
    (ho : o.op = .call { callee := .builtin .append, args := #[s, x], argTypes := #[29, 29] }) (base : Nat) (v : Value) (L M : List Int) (hs : a.eval s = v) (p : Addr) (c : Nat)
    (hx : a.eval x = .slice (some p) M.length c) (hM : ∀ j u, (its M)[j]? = some u → wr.cell? (p.add j) = some u) (hown : OwnsI wr base v L) (hl : L.length + M.length ≤ 1048576) (hbase : base ≤ wr.heap.size)
    (h : ∀ v' w', OwnsI w' base v' (L ++ M) → wr.grownBy w' v.ownBlock → (v ≠ .slice none 0 0 → v' ≠ .slice none 0 0) → wpList Tryz.prog ops Q rest (a.put o.dst v') w') :
    wpList Tryz.prog ops Q (o :: rest) a wr := by
  have hI := infoInt
  cases hi : Tryz.prog.info? 3 with
  | none => rw [hi] at hI; simp at hI
  | some i =>
    rw [hi] at hI
    simp at hI
    obtain ⟨hz, hsz, hby⟩ := hI
    refine wpList_append_own _ hgd s x 29 ho base 3 i _ 1 8 underInts hi hz hsz hby rfl (by decide) v L.length (its L) hs hown p M.length c (its M) hx (by simp [its_length]) hM (fun u hu => ?_) ?_ ?_ hbase ?_
    · unfold its at hu
      obtain ⟨k, _, rfl⟩ := List.mem_map.1 hu
      rfl
    · simp only [maxLen]; omega
    · omega
    · intro v' w' h1 h2 h3
      exact h v' w' (by unfold OwnsI; rw [its_append, List.length_append]; exact h1) h2 (fun hn he => hn (h3.1 he).1)
end Go.Proofs.YtkgpoghoilffhaaGreatDoor
namespace Go.Proofs.YtkgpoghoilffhaaGreatDoor
open Go.RowKit Go.Deep
set_option linter.unusedVariables false

theorem amt_impl (n : Int) (w : World) : Calls Tryz.prog 67 #[.int .i64 n] w fun e w' => e = .returned (.bool (amtB n)) ∧ Keeps w w' := by
  by_cases h1 : 0 ≤ n
  · by_cases h2 : n ≤ 1125899906842624
    · go_enter Tryz.func67, Tryz.ntmps67
      go_wp2
      go_ret
      exact ⟨ret_b (amtB_yes h1 h2).symm, Keeps.refl _⟩
    · go_enter Tryz.func67, Tryz.ntmps67
      go_wp2
      go_ret
      exact ⟨ret_b (amtB_no (by omega)).symm, Keeps.refl _⟩
  · go_enter Tryz.func67, Tryz.ntmps67
    go_wp2
    go_ret
    exact ⟨ret_b (amtB_no (by omega)).symm, Keeps.refl _⟩
theorem amt_spec (n : Int) (w : World) : Calls Tryz.prog 56 #[.int .i64 n] w fun e w' => e = .returned (.bool (amtB n)) ∧ Keeps w w' := by
  by_cases h1 : 0 ≤ n
  · by_cases h2 : n ≤ 1125899906842624
    · go_enter Tryz.func56, Tryz.ntmps56
      go_wp2
      go_ret
      exact ⟨ret_b (amtB_yes h1 h2).symm, Keeps.refl _⟩
    · go_enter Tryz.func56, Tryz.ntmps56
      go_wp2
      go_ret
      exact ⟨ret_b (amtB_no (by omega)).symm, Keeps.refl _⟩
  · go_enter Tryz.func56, Tryz.ntmps56
    go_wp2
    go_ret
    exact ⟨ret_b (amtB_no (by omega)).symm, Keeps.refl _⟩
end Go.Proofs.YtkgpoghoilffhaaGreatDoor
namespace Go.Proofs.YtkgpoghoilffhaaGreatDoor
open Go.RowKit Go.Deep
set_option linter.unusedVariables false
set_option maxRecDepth 10000

def ppmB (k : Int) : Bool := decide (0 ≤ k) && decide (k ≤ 1000000)
def posB (n : Int) : Bool := amtB n && decide (0 < n)
end Go.Proofs.YtkgpoghoilffhaaGreatDoor
namespace Go.Proofs.YtkgpoghoilffhaaGreatDoor
open Go.RowKit Go.Deep
set_option linter.unusedVariables false
set_option linter.unusedSimpArgs false
set_option maxRecDepth 10000

structure Rul where
  lo : Int
  hi : Int
  st : Int
  mi : Int
  ma : Int
def Rul.v (r : Rul) : Value := .agg #[.int .i64 r.lo, .int .i64 r.hi, .int .i64 r.st, .int .i64 r.mi, .int .i64 r.ma]
def ruleB (r : Rul) : Bool := bandB r.lo r.hi && ppmB r.st && ppmB r.mi && ppmB r.ma && decide (r.mi ≤ r.ma)
theorem ppmB_true {n : Int} (h : ppmB n = true) : 0 ≤ n ∧ n ≤ 1000000 := by simpa [ppmB] using h
theorem ruleB_true {r : Rul} (h : ruleB r = true) : bandB r.lo r.hi = true ∧ (0 ≤ r.st ∧ r.st ≤ 1000000) ∧ (0 ≤ r.mi ∧ r.mi ≤ 1000000) ∧ (0 ≤ r.ma ∧ r.ma ≤ 1000000) ∧ r.mi ≤ r.ma := by
  simp only [ruleB, Bool.and_eq_true, decide_eq_true_eq] at h
  exact ⟨h.1.1.1.1, ppmB_true h.1.1.1.2, ppmB_true h.1.1.2, ppmB_true h.1.2, h.2⟩
end Go.Proofs.YtkgpoghoilffhaaGreatDoor
namespace Go.Proofs.YtkgpoghoilffhaaGreatDoor
open Go.RowKit Go.Deep
set_option linter.unusedVariables false
set_option linter.unusedSimpArgs false
set_option maxRecDepth 10000

theorem band_impl (lo hi : Int) (w : World) : Calls Tryz.prog 91 #[.int .i64 lo, .int .i64 hi] w fun e w' => e = .returned (.bool (bandB lo hi)) ∧ Keeps w w' := by
  by_cases h0 : 0 ≤ lo
  · by_cases h1 : lo ≤ hi
    · by_cases h2 : hi ≤ 100
      · have e := bandB_yes h0 h1 h2
        rw [e]
        clear e
        go_enter Tryz.func91, Tryz.ntmps91
        go_wp2
        go_ret
        exact ⟨ret_b (by first | (simp; done) | (simp; omega)), Keeps.refl _⟩
      · have e := bandB_no (lo := lo) (hi := hi) (by omega)
        rw [e]
        clear e
        go_enter Tryz.func91, Tryz.ntmps91
        go_wp2
        go_ret
        exact ⟨ret_b (by first | (simp; done) | (simp; omega)), Keeps.refl _⟩
    · have e := bandB_no (lo := lo) (hi := hi) (by omega)
      rw [e]
      clear e
      go_enter Tryz.func91, Tryz.ntmps91
      go_wp2
      go_ret
      exact ⟨rfl, Keeps.refl _⟩
  · have e := bandB_no (lo := lo) (hi := hi) (by omega)
    rw [e]
    clear e
    go_enter Tryz.func91, Tryz.ntmps91
    go_wp2
    go_ret
    exact ⟨rfl, Keeps.refl _⟩
theorem band_spec (lo hi : Int) (w : World) : Calls Tryz.prog 80 #[.int .i64 lo, .int .i64 hi] w fun e w' => e = .returned (.bool (bandB lo hi)) ∧ Keeps w w' := by
  by_cases h0 : 0 ≤ lo
  · by_cases h1 : lo ≤ hi
    · by_cases h2 : hi ≤ 100
      · have e := bandB_yes h0 h1 h2
        rw [e]
        clear e
        go_enter Tryz.func80, Tryz.ntmps80
        go_wp2
        go_ret
        exact ⟨ret_b (by first | (simp; done) | (simp; omega)), Keeps.refl _⟩
      · have e := bandB_no (lo := lo) (hi := hi) (by omega)
        rw [e]
        clear e
        go_enter Tryz.func80, Tryz.ntmps80
        go_wp2
        go_ret
        exact ⟨ret_b (by first | (simp; done) | (simp; omega)), Keeps.refl _⟩
    · have e := bandB_no (lo := lo) (hi := hi) (by omega)
      rw [e]
      clear e
      go_enter Tryz.func80, Tryz.ntmps80
      go_wp2
      go_ret
      exact ⟨rfl, Keeps.refl _⟩
  · have e := bandB_no (lo := lo) (hi := hi) (by omega)
    rw [e]
    clear e
    go_enter Tryz.func80, Tryz.ntmps80
    go_wp2
    go_ret
    exact ⟨rfl, Keeps.refl _⟩
end Go.Proofs.YtkgpoghoilffhaaGreatDoor
namespace Go.Proofs.YtkgpoghoilffhaaGreatDoor
open Go.RowKit Go.Deep
set_option linter.unusedVariables false
set_option maxRecDepth 10000

theorem pos_impl (n : Int) (w : World) : Calls Tryz.prog 147 #[.int .i64 n] w fun e w' => e = .returned (.bool (posB n)) ∧ Keeps w w' := by
  obtain ⟨v, hv⟩ : ∃ v : Bool, v = posB n := ⟨_, rfl⟩
  rw [← hv]
  unfold posB at hv
  cases h : amtB n
  · rw [h, Bool.false_and] at hv
    subst hv
    go_enter Tryz.func147, Tryz.ntmps147
    go_wp2_with fail
    refine (amt_impl n _).mono ?_
    rintro x w1 ⟨rfl, hk⟩
    rw [h]
    go_wp2_with fail
    go_ret
    exact ⟨rfl, hk⟩
  · rw [h, Bool.true_and] at hv
    replace hv := hide hv
    go_enter Tryz.func147, Tryz.ntmps147
    go_wp2_with fail
    refine (amt_impl n _).mono ?_
    rintro x w1 ⟨rfl, hk⟩
    rw [h]
    go_wp2_with fail
    go_ret
    exact ⟨ret_b (by rw [hv.out]), hk⟩
theorem ppm_impl (n : Int) (w : World) : Calls Tryz.prog 84 #[.int .i64 n] w fun e w' => e = .returned (.bool (ppmB n)) ∧ Keeps w w' := by
  by_cases h : 0 ≤ n
  · go_enter Tryz.func84, Tryz.ntmps84
    go_wp2
    go_ret
    exact ⟨ret_b (by simp [ppmB, h]), Keeps.refl _⟩
  · go_enter Tryz.func84, Tryz.ntmps84
    go_wp2
    go_ret
    exact ⟨ret_b (by simp [ppmB]; omega), Keeps.refl _⟩
end Go.Proofs.YtkgpoghoilffhaaGreatDoor
namespace Go.Proofs.YtkgpoghoilffhaaGreatDoor
open Go.RowKit Go.Deep
set_option linter.unusedVariables false
set_option linter.unusedSimpArgs false
set_option maxRecDepth 10000

theorem rowc5 (w : World) (v0 v1 v2 v3 v4 : Value) (t : TypeId) : ∀ w', Keeps (w.alloc (.cells #[v0, v1, v2, v3, v4] t)) w' → w'.cell? ⟨w.heap.size, 0, none⟩ = some v0 ∧ w'.cell? ⟨w.heap.size, 1, none⟩ = some v1 ∧ w'.cell? ⟨w.heap.size, 2, none⟩ = some v2 ∧ w'.cell? ⟨w.heap.size, 3, none⟩ = some v3 ∧ w'.cell? ⟨w.heap.size, 4, none⟩ = some v4 := by
  intro w' hk
  have hB : (w.alloc (.cells #[v0, v1, v2, v3, v4] t)).heap[w.heap.size]? = some (.cells #[v0, v1, v2, v3, v4] t (0, 0)) := blk_alloc_new w _
  revert hB hk
  generalize w.alloc (.cells #[v0, v1, v2, v3, v4] t) = W
  intro hk hB
  refine ⟨?_, ?_, ?_, ?_, ?_⟩ <;> (refine hk.cell ?_; simp [World.cell?, hB])
end Go.Proofs.YtkgpoghoilffhaaGreatDoor
namespace Go.Proofs.YtkgpoghoilffhaaGreatDoor
open Go.RowKit Go.Deep
set_option linter.unusedVariables false
set_option linter.unusedSimpArgs false
set_option maxRecDepth 10000

theorem turner_impl (r : Rul) (w : World) : Calls Tryz.prog 68 #[r.v] w fun e w' => e = .returned r.v ∧ Keeps w w' := by
  obtain ⟨xlo, xhi, xst, xmi, xma⟩ := r
  dsimp only [Rul.v]
  go_enter Tryz.func68, Tryz.ntmps68
  go_wp2_with fail
  refine bodyPost_ret (v := .agg #[.int .i64 xlo, .int .i64 xhi, .int .i64 xst, .int .i64 xmi, .int .i64 xma]) (by simp [results, Tryz.results68, go_sem]) rfl ⟨rfl, ?_⟩
  repeat (first | exact Keeps.refl _ | refine Keeps.alloc ?_ _ | refine Keeps.setCell ?_ (by simp) _)
theorem limited_impl (lo hi : Int) (w : World) : Calls Tryz.prog 83 #[.agg #[.int .i64 lo, .int .i64 hi]] w fun e w' => e = .returned (.bool (bandB lo hi)) ∧ Keeps w w' := by
  have HK := hide (Keeps.alloc (Keeps.refl w) (.cells #[.int .i64 lo, .int .i64 hi] 105))
  go_enter Tryz.func83, Tryz.ntmps83
  go_wp2_with fail
  refine (band_impl lo hi _).mono ?_
  rintro e w1 ⟨rfl, hk⟩
  go_wp2_with fail
  go_ret
  exact ⟨rfl, HK.out.trans hk⟩
set_option maxHeartbeats 4000000 in
theorem tright_impl (r : Rul) (w : World) : Calls Tryz.prog 69 #[r.v] w fun e w' => e = .returned (.bool (ruleB r)) ∧ Keeps w w' := by
  obtain ⟨xlo, xhi, xst, xmi, xma⟩ := r
  dsimp only [Rul.v]
  have HA := hide (rowc5 w (.int .i64 xlo) (.int .i64 xhi) (.int .i64 xst) (.int .i64 xmi) (.int .i64 xma) 107)
  have HK := hide (Keeps.alloc (Keeps.refl w) (.cells #[.int .i64 xlo, .int .i64 xhi, .int .i64 xst, .int .i64 xmi, .int .i64 xma] 107))
  obtain ⟨v, hv⟩ : ∃ v : Bool, v = ruleB ⟨xlo, xhi, xst, xmi, xma⟩ := ⟨_, rfl⟩
  rw [← hv]
  replace hv := hide hv
  go_enter Tryz.func69, Tryz.ntmps69
  go_wp2_with fail
  generalize w.alloc (.cells #[.int .i64 xlo, .int .i64 xhi, .int .i64 xst, .int .i64 xmi, .int .i64 xma] 107) = W0 at *
  have HKc := hide (Keeps.refl W0)
  refine (limited_impl xlo xhi _).mono ?_
  rintro e w1 ⟨rfl, hk⟩
  replace HKc := hide (HKc.out.trans hk)
  clear hk
  obtain ⟨d0, d1, d2, d3, d4⟩ := unhide HA w1 HKc.out
  cases h0 : bandB xlo xhi
  · have HV : Hid (v = false) := by show _ = _; rw [hv.out]; simp [ruleB, h0]
    go_wp2_with fail
    go_ret
    exact ⟨ret_b HV.out.symm, HK.out.trans HKc.out⟩
  go_wp2_with fail
  refine (ppm_impl xst _).mono ?_
  rintro e w2 ⟨rfl, hk⟩
  replace HKc := hide (HKc.out.trans hk)
  clear hk d0 d1 d2 d3 d4
  obtain ⟨d0, d1, d2, d3, d4⟩ := unhide HA w2 HKc.out
  cases h1 : ppmB xst
  · have HV : Hid (v = false) := by show _ = _; rw [hv.out]; simp [ruleB, h0, h1]
    go_wp2_with fail
    go_ret
    exact ⟨ret_b HV.out.symm, HK.out.trans HKc.out⟩
  go_wp2_with fail
  refine (ppm_impl xmi _).mono ?_
  rintro e w3 ⟨rfl, hk⟩
  replace HKc := hide (HKc.out.trans hk)
  clear hk d0 d1 d2 d3 d4
  obtain ⟨d0, d1, d2, d3, d4⟩ := unhide HA w3 HKc.out
  cases h2 : ppmB xmi
  · have HV : Hid (v = false) := by show _ = _; rw [hv.out]; simp [ruleB, h0, h1, h2]
    go_wp2_with fail
    go_ret
    exact ⟨ret_b HV.out.symm, HK.out.trans HKc.out⟩
  go_wp2_with fail
  refine (ppm_impl xma _).mono ?_
  rintro e w4 ⟨rfl, hk⟩
  replace HKc := hide (HKc.out.trans hk)
  clear hk d0 d1 d2 d3 d4
  obtain ⟨d0, d1, d2, d3, d4⟩ := unhide HA w4 HKc.out
  cases h3 : ppmB xma
  · have HV : Hid (v = false) := by show _ = _; rw [hv.out]; simp [ruleB, h0, h1, h2, h3]
    go_wp2_with fail
    go_ret
    exact ⟨ret_b HV.out.symm, HK.out.trans HKc.out⟩
  have HV : Hid (v = decide (xmi ≤ xma)) := by show _ = _; rw [hv.out]; simp [ruleB, h0, h1, h2, h3]
  go_wp2_with fail
  go_ret
  exact ⟨ret_b HV.out.symm, HK.out.trans HKc.out⟩
theorem rule_impl (r : Rul) (w : World) : Calls Tryz.prog 38 #[r.v] w fun e w' => e = .returned (.bool (ruleB r)) ∧ Keeps w w' := by
  have HT := hide (fun w' => turner_impl r w')
  have HR := hide (fun w' => tright_impl r w')
  generalize ruleB r = v at *
  obtain ⟨xlo, xhi, xst, xmi, xma⟩ := r
  dsimp only [Rul.v] at *
  have HA := hide (rowc5 w (.int .i64 xlo) (.int .i64 xhi) (.int .i64 xst) (.int .i64 xmi) (.int .i64 xma) 31)
  have HK := hide (Keeps.alloc (Keeps.refl w) (.cells #[.int .i64 xlo, .int .i64 xhi, .int .i64 xst, .int .i64 xmi, .int .i64 xma] 31))
  go_enter Tryz.func38, Tryz.ntmps38
  go_wp2_with fail
  generalize w.alloc (.cells #[.int .i64 xlo, .int .i64 xhi, .int .i64 xst, .int .i64 xmi, .int .i64 xma] 31) = W0 at *
  refine (unhide HT _).mono ?_
  rintro e w1 ⟨rfl, hk⟩
  have HK1 := hide hk
  clear hk
  go_wp2_with fail
  refine (unhide HR _).mono ?_
  rintro e w2 ⟨rfl, hk⟩
  go_wp2_with fail
  go_ret
  exact ⟨rfl, (HK.out.trans HK1.out).trans hk⟩
theorem part_spec (n : Int) (w : World) : Calls Tryz.prog 81 #[.int .i64 n] w fun e w' => e = .returned (.bool (ppmB n)) ∧ Keeps w w' := by
  by_cases h : 0 ≤ n
  · go_enter Tryz.func81, Tryz.ntmps81
    go_wp2
    go_ret
    exact ⟨ret_b (by simp [ppmB, h]), Keeps.refl _⟩
  · go_enter Tryz.func81, Tryz.ntmps81
    go_wp2
    go_ret
    exact ⟨ret_b (by simp [ppmB]; omega), Keeps.refl _⟩
set_option maxHeartbeats 4000000 in
theorem rule_spec (r : Rul) (w : World) : Calls Tryz.prog 58 #[r.v] w fun e w' => e = .returned (.bool (ruleB r)) ∧ Keeps w w' := by
  obtain ⟨xlo, xhi, xst, xmi, xma⟩ := r
  dsimp only [Rul.v]
  have HA := hide (rowc5 w (.int .i64 xlo) (.int .i64 xhi) (.int .i64 xst) (.int .i64 xmi) (.int .i64 xma) 31)
  have HK := hide (Keeps.alloc (Keeps.refl w) (.cells #[.int .i64 xlo, .int .i64 xhi, .int .i64 xst, .int .i64 xmi, .int .i64 xma] 31))
  obtain ⟨v, hv⟩ : ∃ v : Bool, v = ruleB ⟨xlo, xhi, xst, xmi, xma⟩ := ⟨_, rfl⟩
  rw [← hv]
  replace hv := hide hv
  go_enter Tryz.func58, Tryz.ntmps58
  go_wp2_with fail
  generalize w.alloc (.cells #[.int .i64 xlo, .int .i64 xhi, .int .i64 xst, .int .i64 xmi, .int .i64 xma] 31) = W0 at *
  have HKc := hide (Keeps.refl W0)
  refine (band_spec xlo xhi _).mono ?_
  rintro e w1 ⟨rfl, hk⟩
  replace HKc := hide (HKc.out.trans hk)
  clear hk
  obtain ⟨d0, d1, d2, d3, d4⟩ := unhide HA w1 HKc.out
  cases h0 : bandB xlo xhi
  · have HV : Hid (v = false) := by show _ = _; rw [hv.out]; simp [ruleB, h0]
    go_wp2_with fail
    go_ret
    exact ⟨ret_b HV.out.symm, HK.out.trans HKc.out⟩
  go_wp2_with fail
  refine (part_spec xst _).mono ?_
  rintro e w2 ⟨rfl, hk⟩
  replace HKc := hide (HKc.out.trans hk)
  clear hk d0 d1 d2 d3 d4
  obtain ⟨d0, d1, d2, d3, d4⟩ := unhide HA w2 HKc.out
  cases h1 : ppmB xst
  · have HV : Hid (v = false) := by show _ = _; rw [hv.out]; simp [ruleB, h0, h1]
    go_wp2_with fail
    go_ret
    exact ⟨ret_b HV.out.symm, HK.out.trans HKc.out⟩
  go_wp2_with fail
  refine (part_spec xmi _).mono ?_
  rintro e w3 ⟨rfl, hk⟩
  replace HKc := hide (HKc.out.trans hk)
  clear hk d0 d1 d2 d3 d4
  obtain ⟨d0, d1, d2, d3, d4⟩ := unhide HA w3 HKc.out
  cases h2 : ppmB xmi
  · have HV : Hid (v = false) := by show _ = _; rw [hv.out]; simp [ruleB, h0, h1, h2]
    go_wp2_with fail
    go_ret
    exact ⟨ret_b HV.out.symm, HK.out.trans HKc.out⟩
  go_wp2_with fail
  refine (part_spec xma _).mono ?_
  rintro e w4 ⟨rfl, hk⟩
  replace HKc := hide (HKc.out.trans hk)
  clear hk d0 d1 d2 d3 d4
  obtain ⟨d0, d1, d2, d3, d4⟩ := unhide HA w4 HKc.out
  cases h3 : ppmB xma
  · have HV : Hid (v = false) := by show _ = _; rw [hv.out]; simp [ruleB, h0, h1, h2, h3]
    go_wp2_with fail
    go_ret
    exact ⟨ret_b HV.out.symm, HK.out.trans HKc.out⟩
  have HV : Hid (v = decide (xmi ≤ xma)) := by show _ = _; rw [hv.out]; simp [ruleB, h0, h1, h2, h3]
  go_wp2_with fail
  go_ret
  exact ⟨ret_b HV.out.symm, HK.out.trans HKc.out⟩
end Go.Proofs.YtkgpoghoilffhaaGreatDoor
namespace Go.Proofs
open Go.Shelf
def Tryz.lays169_ren : Go.Shelf.Ren := ⟨fun | 169 => 42 | n => n, fun | 70 => 76 | 9 => 9 | 0 => 0 | 72 => 78 | 37 => 22 | 127 => 129 | 3 => 3 | 5 => 5 | n => n, fun | n => n⟩
theorem Tryz.lays169 : Go.Proofs.Lays.n169 Tryz.prog Tryz.lays169_ren := {
  mixed := by kernel_rfl
  f169 := Tryz.func42.trans (congrArg some (by kernel_rfl))
  t0 := Tryz.underlying0
  a0 := Tryz.isAgg0
  z0 := Tryz.sizeOf0
  v0 := Tryz.zeroValue0
  t3 := Tryz.underlying3
  a3 := Tryz.isAgg3
  z3 := Tryz.sizeOf3
  v3 := Tryz.zeroValue3
  t9 := Tryz.underlying9
  a9 := Tryz.isAgg9
  z9 := Tryz.sizeOf9
  v9 := Tryz.zeroValue9
  t37 := Tryz.underlying22
  a37 := Tryz.isAgg22
  z37 := Tryz.sizeOf22
  v37 := Tryz.zeroValue22
  t70 := Tryz.underlying76
  a70 := Tryz.isAgg76
  z70 := Tryz.sizeOf76
  v70 := Tryz.zeroValue76
  t72 := Tryz.underlying78
  a72 := Tryz.isAgg78
  z72 := Tryz.sizeOf78
  v72 := Tryz.zeroValue78
  t127 := Tryz.underlying129
  a127 := Tryz.isAgg129
  z127 := Tryz.sizeOf129
  v127 := Tryz.zeroValue129 }
theorem Tryz.Builder_Extra_169 : Builder.Extra Tryz.prog Tryz.lays169_ren := {
  sizeBuilder := by kernel_rfl
  liesBuilder := by kernel_rfl
  t5 := Tryz.underlying5
  a5 := Tryz.isAgg5
  z5 := Tryz.sizeOf5
  v5 := Tryz.zeroValue5
  infoByte := by kernel_rfl
  cellsByte := by kernel_rfl
  sizeByte := by kernel_rfl
  neB5 := by decide }
open Go.RowKit in
theorem Tryz.Builder_String (B b : Nat) (l : List UInt8) (w : World) (h : Lib.IsBuilder 78 5 B b (Lib.byteCells l) w) (h0 : l ≠ []) :
    Calls Tryz.prog 42 #[.pointer (some ⟨b, 0, none⟩)] w fun e w' => e = .returned (.string ⟨l.toArray⟩) ∧ Below B w w' := Any.Builder_String Tryz.lays169 Tryz.Builder_Extra_169 B b l w h h0
end Go.Proofs
namespace Go.Proofs.YtkgpoghoilffhaaGreatDoor
open Go.RowKit
set_option linter.unusedVariables false
set_option maxRecDepth 10000
theorem bldX : Builder.Extra Tryz.prog Tryz.lays169_ren := Tryz.Builder_Extra_169
set_option maxHeartbeats 2000000 in
theorem check_old (b : Nat) (w : World) (h0 : w.cell? ⟨b, 0, none⟩ = some (.pointer (some ⟨b, 0, none⟩))) :
    Calls Tryz.prog 70 #[.pointer (some ⟨b, 0, none⟩)] w fun e w' => e = .returned (.tuple #[]) ∧ w' = w := by
  obtain ⟨j, hj, _⟩ := Option.map_eq_some_iff.1 bldX.sizeBuilder
  have e1 := Lib.run_neq_ptr_same w ⟨b, 0, none⟩ Tryz.underlying76 hj
  go_enter Tryz.func70, Tryz.ntmps70
  go_wp2
  go_end0
  exact ⟨rfl, rfl⟩
set_option maxHeartbeats 2000000 in
theorem check_new (b : Nat) (w : World) (h0 : w.cell? ⟨b, 0, none⟩ = some (.pointer none)) (hs : w.shape? b = some (78, 2)) (f0 : w.frozen? ⟨b, 0, none⟩ = false) :
    Calls Tryz.prog 70 #[.pointer (some ⟨b, 0, none⟩)] w fun e w' => e = .returned (.tuple #[]) ∧ w' = w.setCell ⟨b, 0, none⟩ (.pointer (some ⟨b, 0, none⟩)) := by
  obtain ⟨j, hj, hjs⟩ := Option.map_eq_some_iff.1 bldX.sizeBuilder
  have e1 := Lib.run_to_unsafe w ⟨b, 0, none⟩ Tryz.underlying76 Tryz.underlying136 hj (by rw [hjs]; decide) hs (Nat.zero_lt_succ 1)
  have e3 := Lib.run_from_unsafe w ⟨b, 0, none⟩ Tryz.underlying136 Tryz.underlying76 hj hs bldX.liesBuilder
  go_enter Tryz.func70, Tryz.ntmps70
  go_wp2
  rw [run_callFunc_extern Tryz.func85 (by kernel_rfl) (by kernel_rfl) (by kernel_rfl) (e := Extern.AbiNoEscape.same) (by kernel_rfl), Lib.run_noEscape]
  simp only [Result.andThen]
  rw [Oper.upon_value]
  go_wp2
  go_end0
  exact ⟨rfl, rfl⟩
/-- A builder of the call's own, behind the block B. -/
abbrev Bldr (B b : Nat) (bs : List Value) (w : World) : Prop := Lib.IsBuilder 78 5 B b bs w
theorem check_any (B b : Nat) (bs : List Value) (w : World) (h : Bldr B b bs w) :
    Calls Tryz.prog 70 #[.pointer (some ⟨b, 0, none⟩)] w fun e w' => e = .returned (.tuple #[]) ∧ Lib.BuilderAt 78 5 B b (.pointer (some ⟨b, 0, none⟩)) bs w' ∧ Below B w w' := by
  rcases h with h | h
  · refine (check_new b w h.cell0 h.shape h.frozen0).mono ?_
    rintro e w' ⟨rfl, hw⟩
    obtain rfl := Eq.symm hw
    exact ⟨rfl, h.used _, (Below.refl B w).setCell (p := ⟨b, 0, none⟩) h.1 _⟩
  · refine (check_old b w h.cell0).mono ?_
    rintro e w' ⟨rfl, hw⟩
    obtain rfl := Eq.symm hw
    exact ⟨rfl, h, Below.refl B _⟩
set_option maxHeartbeats 2000000 in
/-- A text is written behind what is there. -/
theorem write_any (B b : Nat) (bs : List Value) (s : ByteArray) (w : World) (h : Bldr B b bs w) (hl : bs.length + s.size ≤ 4294967296) (hB : B ≤ w.heap.size) :
    Calls Tryz.prog 40 #[.pointer (some ⟨b, 0, none⟩), .string s] w fun e w' => e = .returned (.tuple #[.int .i64 s.size, .nilIface]) ∧ Bldr B b (bs ++ Lib.strCells s) w' ∧ Below B w w' := by
  have hI : (Tryz.prog.info? 5).map (fun i => (i.zero, i.size, i.bytes)) = some (some (.int .u8 0), 1, 1) := by kernel_rfl
  obtain ⟨i0, hi, hI2⟩ := Option.map_eq_some_iff.1 hI
  simp only [Prod.mk.injEq] at hI2
  obtain ⟨hz0, hz1, hz2⟩ := hI2
  go_enter Tryz.func40, Tryz.ntmps40
  go_wp2_with fail
  refine (check_any B b bs w h).mono ?_
  rintro e w1 ⟨rfl, h1, hb1⟩
  obtain ⟨hBb, v, hbk, hown, hne⟩ := h1
  have hz := hb1.size
  have c0 : w1.cell? ⟨b, 0, none⟩ = some (.pointer (some ⟨b, 0, none⟩)) := by rw [Lib.cell_of_heap hbk]; rfl
  have c1 : w1.cell? ⟨b, 1, none⟩ = some v := by rw [Lib.cell_of_heap hbk]; rfl
  have hlt := lt_of_cell c0
  go_wp2_with (at_builtin; refine Lib.wpList_append_own_string _ rfl _ _ 22 9 rfl B 5 i0 Tryz.underlying22 Tryz.underlying9 hi hz0 hz1 hz2 _ _ _ rfl hown s rfl (by unfold maxLen; omega) (by omega) (by omega) ?_)
  intro v' w2 ho hg _
  have hb2 : w2.heap[b]? = some (.cells #[.pointer (some ⟨b, 0, none⟩), v] 78 (0, 0)) := by
    rw [hg.block b hlt (fun e => hne e.symm)]
    exact hbk
  have d0 : w2.cell? ⟨b, 0, none⟩ = some (.pointer (some ⟨b, 0, none⟩)) := by rw [Lib.cell_of_heap hb2]; rfl
  have d1 : w2.cell? ⟨b, 1, none⟩ = some v := by rw [Lib.cell_of_heap hb2]; rfl
  have f1 : w2.frozen? ⟨b, 1, none⟩ = false := Lib.frozen_of_heap hb2 1
  obtain ⟨ao, n', cap, rfl⟩ : ∃ ao n' cap, v' = .slice ao n' cap := by
    rcases ho.2 with ⟨hv, _⟩ | ⟨g, cap, cur, hv, _⟩
    · exact ⟨_, _, _, hv⟩
    · exact ⟨_, _, _, hv⟩
  go_wp2
  go_ret2
  refine ⟨rfl, .inr (Lib.BuilderAt.put hBb hb2 (bs' := bs ++ Lib.strCells s) (by simpa [Lib.strCells_length] using ho) bldX.neB5), ?_⟩
  exact (hb1.grown hg (by omega) (fun k hk => (hown.lt k hk).1)).setCell (p := ⟨b, 1, none⟩) hBb _
end Go.Proofs.YtkgpoghoilffhaaGreatDoor
namespace Go.Proofs
open Go.Shelf
def Tryz.laysM171_ren : Go.Shelf.Ren := ⟨fun | 171 => 71 | 243 => 86 | 246 => 92 | 283 => 102 | 284 => 103 | 285 => 104 | 286 => 105 | 129 => 117 | 317 => 116 | 318 => 118 | 319 => 119 | 320 => 120 | 337 => 125 | 338 => 126 | n => n, fun | 3 => 3 | 9 => 9 | 2 => 2 | 4 => 4 | 171 => 147 | 0 => 0 | 53 => 148 | 37 => 22 | 5 => 5 | 173 => 151 | 212 => 166 | 51 => 153 | 20 => 20 | 213 => 167 | 46 => 95 | 232 => 184 | 233 => 185 | n => n, fun | 17 => 2 | 18 => 7 | 19 => 8 | n => n⟩
theorem Tryz.laysM171 : Go.Proofs.LaysM.n171 Tryz.prog Tryz.laysM171_ren := {
  mixed := by kernel_rfl
  f129 := Tryz.func117.trans (congrArg some (by kernel_rfl))
  f171 := Tryz.func71.trans (congrArg some (by kernel_rfl))
  f243 := Tryz.func86.trans (congrArg some (by kernel_rfl))
  f246 := Tryz.func92.trans (congrArg some (by kernel_rfl))
  f283 := Tryz.func102.trans (congrArg some (by kernel_rfl))
  f284 := Tryz.func103.trans (congrArg some (by kernel_rfl))
  f285 := Tryz.func104.trans (congrArg some (by kernel_rfl))
  f286 := Tryz.func105.trans (congrArg some (by kernel_rfl))
  f317 := Tryz.func116.trans (congrArg some (by kernel_rfl))
  f318 := Tryz.func118.trans (congrArg some (by kernel_rfl))
  f319 := Tryz.func119.trans (congrArg some (by kernel_rfl))
  f320 := Tryz.func120.trans (congrArg some (by kernel_rfl))
  f337 := Tryz.func125.trans (congrArg some (by kernel_rfl))
  f338 := Tryz.func126.trans (congrArg some (by kernel_rfl))
  t0 := Tryz.underlying0
  a0 := Tryz.isAgg0
  z0 := Tryz.sizeOf0
  v0 := Tryz.zeroValue0
  t2 := Tryz.underlying2
  a2 := Tryz.isAgg2
  z2 := Tryz.sizeOf2
  v2 := Tryz.zeroValue2
  t3 := Tryz.underlying3
  a3 := Tryz.isAgg3
  z3 := Tryz.sizeOf3
  v3 := Tryz.zeroValue3
  t4 := Tryz.underlying4
  a4 := Tryz.isAgg4
  z4 := Tryz.sizeOf4
  v4 := Tryz.zeroValue4
  t5 := Tryz.underlying5
  a5 := Tryz.isAgg5
  z5 := Tryz.sizeOf5
  v5 := Tryz.zeroValue5
  t9 := Tryz.underlying9
  a9 := Tryz.isAgg9
  z9 := Tryz.sizeOf9
  v9 := Tryz.zeroValue9
  t20 := Tryz.underlying20
  a20 := Tryz.isAgg20
  z20 := Tryz.sizeOf20
  v20 := Tryz.zeroValue20
  t37 := Tryz.underlying22
  a37 := Tryz.isAgg22
  z37 := Tryz.sizeOf22
  v37 := Tryz.zeroValue22
  t46 := Tryz.underlying95
  a46 := Tryz.isAgg95
  z46 := Tryz.sizeOf95
  v46 := Tryz.zeroValue95
  t51 := Tryz.underlying153
  a51 := Tryz.isAgg153
  z51 := Tryz.sizeOf153
  v51 := Tryz.zeroValue153
  t53 := Tryz.underlying148
  a53 := Tryz.isAgg148
  z53 := Tryz.sizeOf148
  v53 := Tryz.zeroValue148
  t171 := Tryz.underlying147
  a171 := Tryz.isAgg147
  z171 := Tryz.sizeOf147
  v171 := Tryz.zeroValue147
  t173 := Tryz.underlying151
  a173 := Tryz.isAgg151
  z173 := Tryz.sizeOf151
  v173 := Tryz.zeroValue151
  t212 := Tryz.underlying166
  a212 := Tryz.isAgg166
  z212 := Tryz.sizeOf166
  v212 := Tryz.zeroValue166
  t213 := Tryz.underlying167
  a213 := Tryz.isAgg167
  z213 := Tryz.sizeOf167
  t232 := Tryz.underlying184
  a232 := Tryz.isAgg184
  z232 := Tryz.sizeOf184
  v232 := Tryz.zeroValue184
  t233 := Tryz.underlying185
  a233 := Tryz.isAgg185
  z233 := Tryz.sizeOf185
  v233 := Tryz.zeroValue185
  g17 := by kernel_rfl
  g18 := by kernel_rfl
  g19 := by kernel_rfl
  i0 := by kernel_rfl
  i2 := by kernel_rfl
  i3 := by kernel_rfl
  i4 := by kernel_rfl
  i5 := by kernel_rfl
  i9 := by kernel_rfl
  i20 := by kernel_rfl
  i37 := by kernel_rfl
  i46 := by kernel_rfl
  i51 := by kernel_rfl
  i53 := by kernel_rfl
  i171 := by kernel_rfl
  i173 := by kernel_rfl
  i212 := by kernel_rfl
  i232 := by kernel_rfl
  i233 := by kernel_rfl
  m17 := by kernel_rfl
  m18 := by kernel_rfl
  m19 := by kernel_rfl }
open Go.RowKit Go.Sort Go.Lib in
theorem Tryz.strconv_Itoa (n : Int) (h0 : -9223372036854775808 ≤ n) (h1 : n ≤ 9223372036854775807) (w : World) (htab : Lib.TabIs Tryz.prog w "internal/strconv.uint64pow10" .u64 Lib.pow10Tab) :
    Calls Tryz.prog 71 #[.int .i64 n] w fun e w' => e = .returned (.string ⟨(Lib.itoa n).toArray⟩) ∧ ∃ k os, w' = grow (w.drewN k) os := Any.strconv_Itoa Tryz.laysM171 n h0 h1 w htab
end Go.Proofs
namespace Go.Proofs.YtkgpoghoilffhaaGreatDoor
open Go.RowKit
set_option linter.unusedVariables false
theorem dec_len (u : Nat) (h : u ≤ 1125899906842624) : (Lib.decDigits u).length ≤ 21 := by
  have := Lib.itoa_length_le (u : Int) (by omega) (by omega)
  rwa [Lib.itoa_nonneg] at this
theorem ret_cat {D X : List UInt8} {c : UInt8} (h : X = D ++ [c]) : Ending.returned (.string (⟨D.toArray⟩ ++ ⟨#[c]⟩)) = .returned (.string ⟨X.toArray⟩) := by
  rw [h, ByteArray.mk_append_mk]
theorem ret_str {l l' : List UInt8} (h : l = l') : Ending.returned (.string ⟨l.toArray⟩) = .returned (.string ⟨l'.toArray⟩) := by rw [h]
/-- A text made of one byte. -/
theorem one_byte (w : World) (b : Nat) (n : Int) (h0 : 0 ≤ n) (h1 : n ≤ 255) (hc : w.cell? ⟨b, 0, none⟩ = some (.int .u8 n)) : (convert 22 9 (.slice (some ⟨b, 0, none⟩) 1 1)).run Tryz.prog w = .ok (.string ⟨#[UInt8.ofNat n.toNat]⟩) w := by
  have h := run_convert_bytes_back (P := Tryz.prog) w 22 9 5 ⟨b, 0, none⟩ 1 [UInt8.ofNat n.toNat] Tryz.underlying22 Tryz.underlying5 Tryz.underlying9 (by
    intro j hj
    have : j = 0 := by simpa using hj
    subst this
    have e2 : ((UInt8.ofNat n.toNat).toNat : Int) = n := by
      rw [UInt8.toNat_ofNat', Nat.mod_eq_of_lt (by omega)]; omega
    simp only [List.getElem_cons_zero, e2]
    exact hc)
  exact h
set_option maxRecDepth 100000 in
theorem num1 (n : Int) (w : World) (h0 : 0 ≤ n) (h1 : n < 10) :
    Calls Tryz.prog 57 #[.int .i64 n] w fun e w' => e = .returned (.string ⟨(Lib.decDigits n.toNat).toArray⟩) ∧ Keeps w w' := by
  have hb := fun w b => one_byte w b (48 + n) (by omega) (by omega)
  have HD : Hid (Lib.decDigits n.toNat = [UInt8.ofNat (48 + n).toNat]) := by
    show _ = _
    rw [Lib.decDigits_one (by omega)]; congr 2; omega
  go_enter Tryz.func57, Tryz.ntmps57
  go_wp2_with fail
  go_ret
  exact ⟨ret_str HD.out.symm, Keeps.alloc (Keeps.refl _) _⟩

set_option maxRecDepth 100000 in
theorem num2 (n : Int) (w : World) (h0 : 10 ≤ n) (h1 : n ≤ 1125899906842624) (ih : Hid (∀ w1, Calls Tryz.prog 57 #[.int .i64 (n / 10)] w1 fun e w' => e = .returned (.string ⟨(Lib.decDigits (n / 10).toNat).toArray⟩) ∧ Keeps w1 w')) :
    Calls Tryz.prog 57 #[.int .i64 n] w fun e w' => e = .returned (.string ⟨(Lib.decDigits n.toNat).toArray⟩) ∧ Keeps w w' := by
  have hb := fun w b => one_byte w b (48 + n % 10) (by omega) (by omega)
  have HD : Hid (Lib.decDigits n.toNat = Lib.decDigits (n / 10).toNat ++ [UInt8.ofNat (48 + n % 10).toNat]) := by
    show _ = _
    rw [Lib.decDigits, dif_neg (by omega)]; congr 2 <;> (try congr 1) <;> omega
  have hDl : (Lib.decDigits (n / 10).toNat).length ≤ 21 := dec_len _ (by omega)
  generalize (Lib.decDigits (n / 10).toNat) = D at *
  have e1 : IntKind.i64.wrap (n.tdiv 10) = n / 10 := by rw [Int.tdiv_eq_ediv_of_nonneg (by omega)]; simp [IntKind.wrap, IntKind.bits, IntKind.signed]; omega
  have e2 : IntKind.u8.wrap (IntKind.i64.wrap (48 + n.tmod 10)) = 48 + n % 10 := by rw [Int.tmod_eq_emod_of_nonneg (by omega)]; simp [IntKind.wrap, IntKind.bits, IntKind.signed]; omega
  go_enter Tryz.func57, Tryz.ntmps57
  go_wp2_with fail
  go_region_with (go_at_call 57; refine (ih.out _).mono ?_; rintro e w' ⟨rfl, hk⟩; have hc2 := hk.old)
  all_goals
    go_wp2_with fail
    go_ret
    refine ⟨ret_cat HD.out, ?_⟩
    first
      | exact Keeps.alloc (Keeps.trans (Keeps.drew (Keeps.refl _)) hk) _
      | exact Keeps.trans (Keeps.drew (Keeps.alloc (Keeps.refl _) _)) hk
      | exact Keeps.trans (Keeps.alloc (Keeps.drew (Keeps.refl _)) _) hk

theorem num_any : ∀ (u : Nat) (w : World), u ≤ 1125899906842624 → Calls Tryz.prog 57 #[.int .i64 (u : Int)] w fun e w' => e = .returned (.string ⟨(Lib.decDigits u).toArray⟩) ∧ Keeps w w' := by
  intro u
  induction u using Nat.strongRecOn with
  | ind u ih =>
    intro w h
    by_cases h10 : u < 10
    · have := num1 (u : Int) w (by omega) (by omega)
      rwa [Int.toNat_natCast] at this
    · have hi := ih (u / 10) (by omega)
      have := num2 (u : Int) w (by omega) (by omega) (by
        intro w1
        have hw := hi w1 (by omega)
        have e : (((u / 10 : Nat)) : Int) = (u : Int) / 10 := by omega
        rw [e] at hw
        have e2 : ((u : Int) / 10).toNat = u / 10 := by omega
        rw [e2]
        exact hw)
      rwa [Int.toNat_natCast] at this

/-- What NumText answers. -/
def numT (n : Int) : List UInt8 := if n < -1125899906842624 ∨ 1125899906842624 < n then [] else Lib.itoa n
theorem numT_in {n : Int} (h : -1125899906842624 ≤ n) (h' : n ≤ 1125899906842624) : numT n = Lib.itoa n := by unfold numT; rw [if_neg (by omega)]
theorem numT_out {n : Int} (h : n < -1125899906842624 ∨ 1125899906842624 < n) : numT n = [] := by unfold numT; rw [if_pos h]
theorem numT_len (n : Int) : (numT n).length ≤ 21 := by
  unfold numT
  split
  · simp
  · exact Lib.itoa_length_le n (by omega) (by omega)
theorem ret_minus {D X : List UInt8} (h : X = 45 :: D) : Ending.returned (.string (⟨#[45]⟩ ++ ⟨D.toArray⟩)) = .returned (.string ⟨X.toArray⟩) := by
  have e : (⟨#[45]⟩ : ByteArray) = ⟨[(45 : UInt8)].toArray⟩ := rfl
  rw [h, e, ByteArray.mk_append_mk]; rfl

set_option maxRecDepth 100000 in
theorem num_spec (n : Int) (w : World) : Calls Tryz.prog 57 #[.int .i64 n] w fun e w' => e = .returned (.string ⟨(numT n).toArray⟩) ∧ Keeps w w' := by
  by_cases h1 : n < -1125899906842624
  · have H : Hid (numT n = []) := numT_out (Or.inl h1)
    go_enter Tryz.func57, Tryz.ntmps57
    go_wp2_with fail
    go_ret
    exact ⟨ret_str H.out.symm, Keeps.refl _⟩
  · by_cases h2 : 1125899906842624 < n
    · have H : Hid (numT n = []) := numT_out (Or.inr h2)
      go_enter Tryz.func57, Tryz.ntmps57
      go_wp2_with fail
      go_ret
      exact ⟨ret_str H.out.symm, Keeps.refl _⟩
    · by_cases h3 : n < 0
      · obtain ⟨u, hu⟩ := Int.eq_ofNat_of_zero_le (show 0 ≤ -n by omega)
        have hD := dec_len u (by omega)
        have H : Hid (numT n = 45 :: Lib.decDigits u) := by
          show _ = _
          rw [numT_in (by omega) (by omega), show n = -(u : Int) by omega, Lib.itoa_neg u (by omega)]
        have HN : Hid (∀ w, Calls Tryz.prog 57 #[.int .i64 (-n)] w fun e w' => e = .returned (.string ⟨(Lib.decDigits u).toArray⟩) ∧ Keeps w w') := by
          intro w1; rw [hu]; exact num_any u w1 (by omega)
        clear hu
        generalize Lib.decDigits u = D at *
        go_enter Tryz.func57, Tryz.ntmps57
        go_wp2_with (go_at_call 57; refine (HN.out _).mono ?_; rintro e w' ⟨rfl, hk⟩)
        go_ret
        exact ⟨ret_minus H.out, hk⟩
      · obtain ⟨u, rfl⟩ := Int.eq_ofNat_of_zero_le (show 0 ≤ n by omega)
        have H : numT (u : Int) = Lib.decDigits u := by rw [numT_in (by omega) (by omega), Lib.itoa_nonneg]
        rw [H]
        exact num_any u w (by omega)

theorem keeps_grow (w : World) (k : Nat) (os : Array Obj) : Keeps w (Sort.grow (w.drewN k) os) :=
  ⟨rfl, rfl, rfl, by simp [Sort.grow, World.drewN], fun i hi => by
    show (w.heap ++ os)[i]? = w.heap[i]?
    rw [Array.getElem?_append_left hi]⟩

theorem gPow : Tryz.prog.globalNamed "internal/strconv.uint64pow10" = some 2 := by kernel_rfl
theorem tPow : (Tryz.prog.globals[2]?).map (·.type) = some 166 := by kernel_rfl
theorem cells56 : Tryz.prog.cellsOf 148 = 1 := by kernel_rfl
theorem cells81 : Tryz.prog.cellsOf 166 = 20 := by kernel_rfl
def Tab (w : World) : Prop := Lib.TabIs Tryz.prog w "internal/strconv.uint64pow10" .u64 Lib.pow10Tab
theorem Tab.kept {w w' : World} (h : Tab w) (hk : Keeps w w') : Tab w' := var_kept hk h

theorem num_impl (n : Int) (w : World) (ht : Tab w) : Calls Tryz.prog 41 #[.int .i64 n] w fun e w' => e = .returned (.string ⟨(numT n).toArray⟩) ∧ Keeps w w' := by
  by_cases h1 : n < -1125899906842624
  · have H : Hid (numT n = []) := numT_out (Or.inl h1)
    go_enter Tryz.func41, Tryz.ntmps41
    go_wp2_with fail
    go_ret
    exact ⟨ret_str H.out.symm, Keeps.refl _⟩
  · by_cases h2 : 1125899906842624 < n
    · have H : Hid (numT n = []) := numT_out (Or.inr h2)
      go_enter Tryz.func41, Tryz.ntmps41
      go_wp2_with fail
      go_ret
      exact ⟨ret_str H.out.symm, Keeps.refl _⟩
    · have H : Hid (numT n = Lib.itoa n) := numT_in (by omega) (by omega)
      have HI := hide (Tryz.strconv_Itoa n (by omega) (by omega) w ht)
      clear ht
      go_enter Tryz.func41, Tryz.ntmps41
      go_wp2_with (go_at_call 71; refine (unhide HI).mono ?_; rintro e w' ⟨rfl, k, os, rfl⟩)
      go_ret
      exact ⟨ret_str H.out.symm, keeps_grow _ _ _⟩
end Go.Proofs.YtkgpoghoilffhaaGreatDoor
