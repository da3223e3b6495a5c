/- Lists of numbers: what the laws do with them; append of numbers. -/
import Derived.Test.YtmjgddgpoecpmaaDCs
namespace Go.Proofs.Ytmjgddgpoecpmaa
open Go.RowKit Go.Deep
set_option linter.unusedVariables false
set_option maxRecDepth 10000

theorem its_nil {K : List Int} : its K = [] ↔ K = [] := by simp [its]
theorem its_append (K M : List Int) : its (K ++ M) = its K ++ its M := by simp [its]
theorem infoInt : (Try.prog.info? 3).map (fun i => (i.zero, i.size, i.bytes)) = some (some (.int .i64 0), 1, 8) := by kernel_rfl
theorem underInts : Try.prog.underlying 48 = some (.slice 3) := by kernel_rfl
theorem make_ints (n : Nat) (hn : n ≤ 1048576) (w : World) : (Instr.makeSlice 48 (.int .i64 (n : Int)) (.int .i64 (n : Int))).run Try.prog w = .ok (.slice (some ⟨w.heap.size, 0, none⟩) n n) (w.alloc (.cells (madeCells #[.int .i64 0] n) 3)) :=
  run_make_row' 48 3 (.int .i64 0) 8 underInts infoInt rfl .i64 .i64 n (by omega) (by omega) w
def rowI (K : List Int) (k : Nat) : Nat → Value := fun j => if j < k then (its K).getD j (.int .i64 0) else .int .i64 0
theorem rowI_step (K : List Int) (k : Nat) (h : k < K.length) (j : Nat) : (if j = k then (.int .i64 K[k] : Value) else rowI K k j) = rowI K (k + 1) j := by
  unfold rowI
  by_cases e : j = k
  · subst e
    rw [if_pos rfl, if_pos (by omega), List.getD_eq_getElem?_getD]
    simp [its, h]
  · rw [if_neg e]
    by_cases hlt : j < k
    · rw [if_pos hlt, if_pos (by omega)]
    · rw [if_neg hlt, if_neg (by omega)]
theorem rowI_end (K : List Int) (j : Nat) (hj : j < (its K).length) : rowI K K.length j = (its K)[j] := by
  rw [its_length] at hj
  unfold rowI
  rw [if_pos hj, List.getD_eq_getElem?_getD, List.getElem?_eq_getElem (by rw [its_length]; exact hj)]
  rfl
theorem toIntS_k (a : Option Addr) (cap : Nat) (L : List Int) (w : World) (hc : Cells w a (its L)) (hl : L.length ≤ 1048576) :
    Calls Try.prog 43 #[.slice a L.length cap] w fun e w' => ∃ b, e = .returned (.slice (some ⟨b, 0, none⟩) L.length L.length) ∧ Born w w' [(some ⟨b, 0, none⟩, its L)] ∧ Keeps w w' := by
  have HC := hide hc
  clear hc
  have hmk := make_ints L.length hl
  have HR := hide ((World.rowIs_made w (.int .i64 0) L.length 3).congr (g := rowI L 0) (fun i _ => by simp [rowI]))
  have HKA := hide (Keeps.alloc (Keeps.refl w) (.cells (madeCells #[.int .i64 0] L.length) 3))
  go_enter Try.func43, Try.ntmps43
  go_wp2_with fail
  clear hmk
  go_loopw [4] (fun y w1 => ∃ k : Nat, k ≤ L.length ∧ y = .int .i64 (k : Int) ∧ w1.rowIs w.heap.size 3 L.length (rowI L k) ∧ Keeps w w1) (fun y _ => L.length - (intOf y).toNat)
  case atStart => exact ⟨0, by omega, rfl, HR.out, HKA.out⟩
  case round =>
    obtain ⟨k, hk, rfl, hr, hkw⟩ := hrel
    clear HR HKA
    by_cases hlt : k < L.length
    · obtain ⟨b, off, ea, c0⟩ := its_at (HC.out.kept hkw) k hlt
      subst ea
      have HS := hide (rowI_step L k hlt)
      have d0 := hr.cell (i := k) (by omega)
      have f0 := hr.frozen k
      have HRR := hide hr
      have HKW := hide hkw
      clear hr hkw
      generalize L[k] = x at *
      go_wp2_with fail
      go_roundw
      case rel => exact ⟨k + 1, by omega, by go_num, (HRR.out.set k (.int .i64 x)).congr (fun j _ => HS.out j), Keeps.setCell HKW.out (Nat.le_refl _) _⟩
      case measure => simp [intOf]; omega
    · have e : k = L.length := by omega
      subst e
      go_wp2_with fail
      go_ret
      exact ⟨_, rfl, Born.of_row hr (its L) (by rw [its_length]; exact Nat.le_refl _) (fun j hj => rowI_end L j hj) (Nat.le_refl _), hkw⟩
theorem eqInts_k (a a' : Option Addr) (cap cap' : Nat) (L : List Int) (w : World) (hc : Cells w a (its L)) (hc' : Cells w a' (its L)) (hl : L.length ≤ 1048576) :
    Calls Try.prog 45 #[.slice a L.length cap, .slice a' L.length cap'] w fun e w' => e = .returned (.bool true) ∧ Keeps w w' := by
  have HC := hide hc
  have HC' := hide hc'
  clear hc hc'
  go_enter Try.func45, Try.ntmps45
  go_wp2_with fail
  go_loopw [5] (fun y w1 => ∃ k : Nat, k ≤ L.length ∧ y = .int .i64 (k : Int) ∧ Keeps w w1) (fun y _ => L.length - (intOf y).toNat)
  case atStart => exact ⟨0, by omega, rfl, Keeps.refl _⟩
  case round =>
    obtain ⟨k, hk, rfl, hkw⟩ := hrel
    by_cases hlt : k < L.length
    · obtain ⟨b, off, ea, c0⟩ := its_at (HC.out.kept hkw) k hlt
      obtain ⟨b', off', ea', d0⟩ := its_at (HC'.out.kept hkw) k hlt
      subst ea ea'
      generalize L[k] = x at *
      go_wp2_with fail
      go_quiet (fail)
      go_wp2_with fail
      go_roundw
      case rel => exact ⟨k + 1, by omega, by go_num, hkw.drewN _⟩
      case measure => simp [intOf]; omega
    · go_wp2_with fail
      go_ret
      exact ⟨rfl, hkw⟩
set_option maxHeartbeats 2000000 in
theorem markIntS_k (a : Option Addr) (cap : Nat) (L : List Int) (n : Nat) (w : World) (h : Own w [(a, its L)]) (hl : L.length ≤ 1048576) (hn : n ≤ 1000000000000) :
    Calls Try.prog 47 #[.slice a L.length cap, .int .i64 (n : Int)] w fun e w' => e = .returned (.int .i64 ((n + L.length : Nat) : Int)) ∧ Turn (fp [(a, its L)]) w w' := by
  by_cases h0 : L = []
  · subst h0
    clear h
    go_enter Try.func47, Try.ntmps47
    go_wp2_with fail
    refine wp_loop_rounds 1 ?_
    rw [rounds_succ]
    go_wp2_with fail
    go_ret
    exact ⟨by simp, Turn.refl _ _⟩
  · have hc : Cells w a (its L) := h.mem (a, its L) (by simp)
    rcases hc with hc | ⟨g, off, rfl, hc⟩
    · exact absurd (its_nil.1 hc) h0
    have hfp : fp [(some (⟨g, off, none⟩ : Addr), its L)] = [g] := by rw [fp_one]; exact fpS_some (fun e => h0 (its_nil.1 e))
    have HF : Hid (∀ o, w.frozen? ⟨g, o, none⟩ = false) := fun o => h.free g (by rw [hfp]; simp) o
    rw [hfp]
    have HC := hide hc
    clear hc h h0 hfp
    go_enter Try.func47, Try.ntmps47
    go_wp2_with fail
    go_loopw [1, 5] (fun x y wr => ∃ k : Nat, k ≤ L.length ∧ x = .int .i64 ((n + k : Nat) : Int) ∧ y = .int .i64 (k : Int) ∧ Hid (∀ j, j < L.length → ∃ u, wr.cell? ⟨g, off + j, none⟩ = some u) ∧ Hid (∀ p, wr.frozen? p = w.frozen? p) ∧ Hid (Turn [g] w wr)) (fun _ y _ => L.length - (intOf y).toNat)
    case atStart => exact ⟨0, by omega, by simp, rfl, fun j hj => ⟨_, HC.out j (by rw [its_length]; exact hj)⟩, fun _ => rfl, Turn.refl _ _⟩
    case round =>
      obtain ⟨k, hk, rfl, rfl, HE, HFr, HG⟩ := hrel
      by_cases hlt : k < L.length
      · obtain ⟨u0, c0⟩ := HE.out k hlt
        have f0 : wr.frozen? ⟨g, off + k, none⟩ = false := by rw [HFr.out]; exact HF.out _
        go_wp2_with fail
        go_roundw
        case rel =>
          refine ⟨k + 1, by omega, by go_num, by go_num, ?_, ?_, HG.out.trans' (Turn.set (by simp) _)⟩
          · intro j hj
            by_cases e : j = k
            · subst e; exact ⟨_, World.cell?_setCell_same _ _ _ c0⟩
            · rw [World.cell?_setCell_other _ _ _ _ (by simp)]; exact HE.out j hj
          · intro p
            rw [frozen_set]; exact HFr.out p
        case measure => simp [intOf]; omega
      · have e : k = L.length := by omega
        subst e
        go_wp2_with fail
        go_ret
        exact ⟨rfl, HG.out⟩
abbrev OwnsI (w : World) (base : Nat) (v : Value) (L : List Int) : Prop := w.ownsRow base 3 1 v L.length (its L)
/-- append of a list of numbers to one of the call's own. -/
theorem app_its {ops : Array Oper} {rest : List Oper} {o : Oper} {a : Act} {Q : Exit → Act → World → Prop} {wr : World} (hgd : o.guard = none) (s x : Operand)
    (ho : o.op = .call { callee := .builtin .append, args := #[s, x], argTypes := #[48, 48] }) (base : Nat) (v : Value) (L M : List Int) (hs : a.eval s = v) (p : Addr) (c : Nat)
    (hx : a.eval x = .slice (some p) M.length c) (hM : ∀ j u, (its M)[j]? = some u → wr.cell? (p.add j) = some u) (hown : OwnsI wr base v L) (hl : L.length + M.length ≤ 1048576) (hbase : base ≤ wr.heap.size)
    (h : ∀ v' w', OwnsI w' base v' (L ++ M) → wr.grownBy w' v.ownBlock → wpList Try.prog ops Q rest (a.put o.dst v') w') :
    wpList Try.prog ops Q (o :: rest) a wr := by
  have hI := infoInt
  cases hi : Try.prog.info? 3 with
  | none => rw [hi] at hI; simp at hI
  | some i =>
    rw [hi] at hI
    simp at hI
    obtain ⟨hz, hsz, hby⟩ := hI
    refine wpList_append_own _ hgd s x 48 ho base 3 i _ 1 8 underInts hi hz hsz hby rfl (by decide) v L.length (its L) hs hown p M.length c (its M) hx (by simp [its_length]) hM (fun u hu => ?_) ?_ ?_ hbase ?_
    · unfold its at hu
      obtain ⟨k, _, rfl⟩ := List.mem_map.1 hu
      rfl
    · simp only [maxLen]; omega
    · omega
    · intro v' w' h1 h2 _
      exact h v' w' (by unfold OwnsI; rw [its_append, List.length_append]; exact h1) h2
end Go.Proofs.Ytmjgddgpoecpmaa
