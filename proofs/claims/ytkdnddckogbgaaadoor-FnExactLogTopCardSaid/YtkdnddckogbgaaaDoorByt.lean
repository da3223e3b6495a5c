/- Lists of bytes: what the laws do with them (toByteS, eqByteS, markByteS, heldByteS, szByteS). -/
import Derived.Test.YtkdnddckogbgaaaDoorMem
import Derived.RegionTactic
namespace Go.Proofs.YtkdnddckogbgaaaDoor
open Go.RowKit Go.Deep
set_option linter.unusedVariables false

def byV (x : UInt8) : Value := .int .u8 (x.toNat : Int)
def bys (L : List UInt8) : List Value := L.map byV
theorem bys_length (L : List UInt8) : (bys L).length = L.length := by simp [bys]
theorem bys_nil {L : List UInt8} : bys L = [] ↔ L = [] := by simp [bys]
theorem bys_append (L M : List UInt8) : bys (L ++ M) = bys L ++ bys M := by simp [bys]
theorem byte_lt (x : UInt8) : (x.toNat : Int) < 256 := by have := x.toNat_lt; omega
theorem byte_nn (x : UInt8) : (0 : Int) ≤ (x.toNat : Int) := by omega
theorem bys_at {w : World} {a : Option Addr} {L : List UInt8} (h : Cells w a (bys L)) (i : Nat) (hi : i < L.length) :
    ∃ b off, a = some ⟨b, off, none⟩ ∧ w.cell? ⟨b, off + i, none⟩ = some (.int .u8 (L[i].toNat : Int)) := by
  rcases h with h | ⟨b, off, e, h⟩
  · rw [bys_nil] at h; subst h; simp at hi
  · refine ⟨b, off, e, ?_⟩
    rw [h i (by rw [bys_length]; exact hi)]
    simp [bys, byV]
theorem bys_inj {L M : List UInt8} (h : bys L = bys M) : L = M := by
  unfold bys at h
  refine List.map_inj_right ?_ |>.1 h
  intro x y e
  simp only [byV, Value.int.injEq, true_and] at e
  exact UInt8.toNat_inj.1 (by omega)

theorem Own.of_row {w : World} {b : Nat} {t : TypeId} {n : Nat} {f : Nat → Value} (h : w.rowIs b t n f) (xs : List Value) (hx : xs.length ≤ n) (hf : ∀ j (hj : j < xs.length), f j = xs[j]) : Own w [(some ⟨b, 0, none⟩, xs)] := by
  refine ⟨?_, ?_, ?_⟩
  · intro s hs
    rw [List.mem_singleton.1 hs]
    refine Or.inr ⟨b, 0, rfl, fun j hj => ?_⟩
    have hj' : j < xs.length := hj
    rw [Nat.zero_add, h.cell (by omega), hf j hj']
  · by_cases h0 : xs = [] <;> simp [fp, fpS, h0]
  · intro g hg
    by_cases h0 : xs = []
    · simp [fp, fpS, h0] at hg
    · simp [fp, fpS, h0] at hg
      subst hg
      exact h.frozen
theorem Born.of_row {W w : World} {b : Nat} {t : TypeId} {n : Nat} {f : Nat → Value} (h : w.rowIs b t n f) (xs : List Value) (hx : xs.length ≤ n) (hf : ∀ j (hj : j < xs.length), f j = xs[j]) (hb : W.heap.size ≤ b) : Born W w [(some ⟨b, 0, none⟩, xs)] :=
  ⟨Own.of_row h xs hx hf, fun g hg => by
    by_cases h0 : xs = []
    · simp [fp, fpS, h0] at hg
    · simp [fp, fpS, h0] at hg
      omega⟩

theorem infoByte : (Tryd.prog.info? 5).map (fun i => (i.zero, i.size, i.bytes)) = some (some (.int .u8 0), 1, 1) := by kernel_rfl
theorem underBytes : Tryd.prog.underlying 48 = some (.slice 5) := by kernel_rfl
theorem make_bytes (n : Nat) (hn : n ≤ 1048576) (w : World) : (Instr.makeSlice 48 (.int .i64 (n : Int)) (.int .i64 (n : Int))).run Tryd.prog w = .ok (.slice (some ⟨w.heap.size, 0, none⟩) n n) (w.alloc (.cells (madeCells #[.int .u8 0] n) 5)) :=
  run_make_row' 48 5 (.int .u8 0) 1 underBytes infoByte rfl .i64 .i64 n (by omega) (by omega) w

/-- The row of a new list of bytes while it is filled. -/
def rowB (L : List UInt8) (k : Nat) : Nat → Value := fun j => if j < k then (bys L).getD j (.int .u8 0) else .int .u8 0
theorem rowB_step (L : List UInt8) (k : Nat) (h : k < L.length) (j : Nat) : (if j = k then (.int .u8 (L[k].toNat : Int) : Value) else rowB L k j) = rowB L (k + 1) j := by
  unfold rowB
  by_cases e : j = k
  · subst e
    rw [if_pos rfl, if_pos (by omega), List.getD_eq_getElem?_getD]
    simp [bys, byV, h]
  · rw [if_neg e]
    by_cases hlt : j < k
    · rw [if_pos hlt, if_pos (by omega)]
    · rw [if_neg hlt, if_neg (by omega)]
theorem rowB_end (L : List UInt8) (j : Nat) (hj : j < (bys L).length) : rowB L L.length j = (bys L)[j] := by
  rw [bys_length] at hj
  unfold rowB
  rw [if_pos hj, List.getD_eq_getElem?_getD, List.getElem?_eq_getElem (by rw [bys_length]; exact hj)]
  rfl

theorem toByteS_k (a : Option Addr) (cap : Nat) (L : List UInt8) (w : World) (hc : Cells w a (bys L)) (hl : L.length ≤ 1048576) :
    Calls Tryd.prog 62 #[.slice a L.length cap] w fun e w' => ∃ b, e = .returned (.slice (some ⟨b, 0, none⟩) L.length L.length) ∧ Born w w' [(some ⟨b, 0, none⟩, bys L)] ∧ Keeps w w' := by
  have HC := hide hc
  clear hc
  have hmk := make_bytes L.length hl
  have HR := hide ((World.rowIs_made w (.int .u8 0) L.length 5).congr (g := rowB L 0) (fun i _ => by simp [rowB]))
  have HKA := hide (Keeps.alloc (Keeps.refl w) (.cells (madeCells #[.int .u8 0] L.length) 5))
  go_enter Tryd.func62, Tryd.ntmps62
  go_wp2_with fail
  clear hmk
  go_loopw [4] (fun y w1 => ∃ k : Nat, k ≤ L.length ∧ y = .int .i64 (k : Int) ∧ w1.rowIs w.heap.size 5 L.length (rowB L k) ∧ Keeps w w1) (fun y _ => L.length - (intOf y).toNat)
  case atStart => exact ⟨0, by omega, rfl, HR.out, HKA.out⟩
  case round =>
    obtain ⟨k, hk, rfl, hr, hkw⟩ := hrel
    clear HR HKA
    by_cases hlt : k < L.length
    · obtain ⟨b, off, ea, c0⟩ := bys_at (HC.out.kept hkw) k hlt
      subst ea
      have HS := hide (rowB_step L k hlt)
      have d0 := hr.cell (i := k) (by omega)
      have f0 := hr.frozen k
      have HRR := hide hr
      have HKW := hide hkw
      have hb0 := byte_nn L[k]
      have hb1 := byte_lt L[k]
      clear hr hkw
      generalize (L[k].toNat : Int) = x at *
      go_wp2_with fail
      go_roundw
      case rel => exact ⟨k + 1, by omega, by go_num, (HRR.out.set k (.int .u8 x)).congr (fun j _ => HS.out j), Keeps.setCell HKW.out (Nat.le_refl _) _⟩
      case measure => simp [intOf]; omega
    · have e : k = L.length := by omega
      subst e
      go_wp2_with fail
      go_ret
      exact ⟨_, rfl, Born.of_row hr (bys L) (by rw [bys_length]; exact Nat.le_refl _) (fun j hj => rowB_end L j hj) (Nat.le_refl _), hkw⟩

theorem szByteS_k (a : Option Addr) (len cap : Nat) (left : Int) (w : World) (h0 : 0 ≤ left) (h1 : left ≤ 1048576) (hl : len ≤ 9223372036854775807) :
    Calls Tryd.prog 59 #[.slice a len cap, .int .i64 left] w fun e w' => e = .returned (.int .i64 (if (len : Int) ≤ left then left - len else -1)) ∧ w' = w := by
  by_cases h : (len : Int) ≤ left
  · have H : Hid ((if (len : Int) ≤ left then left - len else -1) = left - len) := if_pos h
    go_enter Tryd.func59, Tryd.ntmps59
    go_wp2_with fail
    go_ret
    exact ⟨rfl, rfl⟩
  · have H : Hid ((if (len : Int) ≤ left then left - len else -1) = -1) := if_neg h
    go_enter Tryd.func59, Tryd.ntmps59
    go_wp2_with fail
    go_ret
    exact ⟨rfl, rfl⟩

theorem eqByteS_k (a a' : Option Addr) (cap cap' : Nat) (L M : List UInt8) (w : World) (hc : Cells w a (bys L)) (hc' : Cells w a' (bys M)) (hl : L.length ≤ 16777216) (hl' : M.length ≤ 16777216) :
    Calls Tryd.prog 49 #[.slice a L.length cap, .slice a' M.length cap'] w fun e w' => e = .returned (.bool (decide (L = M))) ∧ Keeps w w' := by
  have HC := hide hc
  have HC' := hide hc'
  clear hc hc'
  by_cases hn : L.length = M.length
  · have hn' : ((L.length : Int) != (M.length : Int)) = false := by rw [hn]; simp
    have HN := hide hn
    clear hn
    go_enter Tryd.func49, Tryd.ntmps49
    go_wp2_with fail
    go_loopw [5] (fun y w1 => ∃ k : Nat, k ≤ L.length ∧ Hid (L.take k = M.take k) ∧ y = .int .i64 (k : Int) ∧ Keeps w w1) (fun y _ => L.length - (intOf y).toNat)
    case atStart => exact ⟨0, by omega, by show _ = _; simp, rfl, Keeps.refl _⟩
    case round =>
      obtain ⟨k, hk, HO, rfl, hkw⟩ := hrel
      by_cases hlt : k < L.length
      · have hlt' : k < M.length := by have := HN.out; omega
        obtain ⟨b, off, ea, c0⟩ := bys_at (HC.out.kept hkw) k hlt
        obtain ⟨b', off', ea', d0⟩ := bys_at (HC'.out.kept hkw) k hlt'
        subst ea ea'
        have HT : Hid (L.take (k + 1) = L.take k ++ [L[k]] ∧ M.take (k + 1) = M.take k ++ [M[k]]) := ⟨List.take_succ_eq_append_getElem hlt, List.take_succ_eq_append_getElem hlt'⟩
        have HX : Hid (L = M → L[k] = M[k]) := fun e => by subst e; rfl
        have hb0 := byte_nn L[k]
        have hb1 := byte_lt L[k]
        have hb2 := byte_nn M[k]
        have hb3 := byte_lt M[k]
        generalize L[k] = x at *
        generalize M[k] = y at *
        by_cases hq : x = y
        · subst hq
          go_wp2_with fail
          go_quiet (fail)
          go_wp2_with fail
          go_roundw
          case rel => exact ⟨k + 1, by omega, by show _ = _; rw [HT.out.1, HT.out.2, HO.out], by go_num, hkw.drewN _⟩
          case measure => simp [intOf]; omega
        · have hq' : ((x.toNat : Int) != (y.toNat : Int)) = true := by
            rw [bne_iff_ne]; exact fun e => hq (UInt8.toNat_inj.1 (by omega))
          have HNQ := hide hq
          clear hq
          go_wp2_with fail
          go_quiet (fail)
          go_wp2_with fail
          go_ret
          exact ⟨ret_b (decide_eq_false (fun e => HNQ.out (HX.out e))).symm, hkw.drewN _⟩
      · have e : k = L.length := by omega
        subst e
        have HQ : Hid (L = M) := by have h := HO.out; rw [List.take_of_length_le (Nat.le_refl _), List.take_of_length_le (by have := HN.out; omega)] at h; exact h
        go_wp2_with fail
        go_ret
        exact ⟨ret_b (decide_eq_true HQ.out).symm, hkw⟩
  · have hn' : ((L.length : Int) != (M.length : Int)) = true := by rw [bne_iff_ne]; omega
    have H : Hid (decide (L = M) = false) := decide_eq_false (fun e => hn (by rw [e]))
    clear hn
    go_enter Tryd.func49, Tryd.ntmps49
    go_wp2_with fail
    go_ret
    exact ⟨ret_b H.out.symm, Keeps.refl _⟩

/-- The marks from n on. -/
def marksB (n m : Nat) : List UInt8 := (List.range m).map fun i => UInt8.ofNat (n + i)
theorem marksB_length (n m : Nat) : (marksB n m).length = m := by simp [marksB]
theorem marksB_at (n m i : Nat) (h : i < m) : (marksB n m)[i]? = some (UInt8.ofNat (n + i)) := by simp [marksB, h]
theorem byV_ofNat (k : Nat) : byV (UInt8.ofNat k) = .int .u8 ((k : Int) % 256) := by
  simp [byV]
/-- A list that is written cell by cell: what became of it. -/
theorem Own.wrote {w w' : World} {a : Option Addr} {xs ys : List Value} (h : Own w [(a, xs)]) (hl : ys.length = xs.length) (hc : Cells w' a ys) (hf : ∀ p, w'.frozen? p = w.frozen? p) : Own w' [(a, ys)] := by
  have e : fp [(a, ys)] = fp [(a, xs)] := by rw [fp_one, fp_one]; exact fpS_len hl
  refine ⟨?_, by rw [e]; exact h.nd, ?_⟩
  · intro s hs
    rw [List.mem_singleton.1 hs]; exact hc
  · rw [e]
    intro b hb o
    rw [hf]; exact h.free b hb o

set_option maxHeartbeats 2000000 in
theorem markByteS_k (a : Option Addr) (cap : Nat) (L : List UInt8) (n : Nat) (w : World) (h : Own w [(a, bys L)]) (hl : L.length ≤ 16777216) (hn : n ≤ 1000000000000) :
    Calls Tryd.prog 35 #[.slice a L.length cap, .int .i64 (n : Int)] w fun e w' => e = .returned (.int .i64 ((n + L.length : Nat) : Int)) ∧ Own w' [(a, bys (marksB n L.length))] ∧ Turn (fp [(a, bys L)]) w w' := by
  have HO := hide h
  by_cases h0 : L = []
  · subst h0
    clear h
    go_enter Tryd.func35, Tryd.ntmps35
    go_wp2_with fail
    refine wp_loop_rounds 1 ?_
    rw [rounds_succ]
    go_wp2_with fail
    go_ret
    exact ⟨by simp, by simpa [marksB] using HO.out, Turn.refl _ _⟩
  · have hc : Cells w a (bys L) := h.mem (a, bys L) (by simp)
    rcases hc with hc | ⟨g, off, rfl, hc⟩
    · exact absurd (bys_nil.1 hc) h0
    have hfp : fp [(some (⟨g, off, none⟩ : Addr), bys L)] = [g] := by rw [fp_one]; exact fpS_some (fun e => h0 (bys_nil.1 e))
    have HF : Hid (∀ o, w.frozen? ⟨g, o, none⟩ = false) := fun o => h.free g (by rw [hfp]; simp) o
    rw [hfp]
    have HC := hide hc
    clear hc h h0 hfp
    go_enter Tryd.func35, Tryd.ntmps35
    go_wp2_with fail
    go_loopw [1, 5] (fun x y wr => ∃ k : Nat, k ≤ L.length ∧ x = .int .i64 ((n + k : Nat) : Int) ∧ y = .int .i64 (k : Int) ∧ Hid (∀ j, j < L.length → ∃ u, wr.cell? ⟨g, off + j, none⟩ = some u) ∧ Hid (∀ j, j < k → wr.cell? ⟨g, off + j, none⟩ = some (byV (UInt8.ofNat (n + j)))) ∧ Hid (∀ p, wr.frozen? p = w.frozen? p) ∧ Hid (Turn [g] w wr)) (fun _ y _ => L.length - (intOf y).toNat)
    case atStart => exact ⟨0, by omega, by simp, rfl, fun j hj => ⟨_, HC.out j (by rw [bys_length]; exact hj)⟩, fun j hj => absurd hj (by omega), fun _ => rfl, Turn.refl _ _⟩
    case round =>
      obtain ⟨k, hk, rfl, rfl, HE, HM, HFr, HG⟩ := hrel
      by_cases hlt : k < L.length
      · obtain ⟨u0, c0⟩ := HE.out k hlt
        have f0 : wr.frozen? ⟨g, off + k, none⟩ = false := by rw [HFr.out]; exact HF.out _
        go_wp2_with fail
        go_roundw
        case rel =>
          have hs : (wr.setCell ⟨g, off + k, none⟩ (.int .u8 (((n : Int) + (k : Int)) % 256))).cell? ⟨g, off + k, none⟩ = some (.int .u8 (((n : Int) + (k : Int)) % 256)) := World.cell?_setCell_same _ _ _ c0
          have ho : ∀ j, j ≠ k → (wr.setCell ⟨g, off + k, none⟩ (.int .u8 (((n : Int) + (k : Int)) % 256))).cell? ⟨g, off + j, none⟩ = wr.cell? ⟨g, off + j, none⟩ := fun j hj => World.cell?_setCell_other _ _ _ _ (by simp)
          refine ⟨k + 1, by omega, by go_num, by go_num, ?_, ?_, ?_, HG.out.trans' (Turn.set (by simp) _)⟩
          · intro j hj
            by_cases e : j = k
            · subst e; exact ⟨_, hs⟩
            · rw [ho j e]; exact HE.out j hj
          · intro j hj
            by_cases e : j = k
            · subst e; rw [hs, byV_ofNat]; congr 2
            · rw [ho j e]; exact HM.out j (by omega)
          · intro p
            rw [frozen_set]; exact HFr.out p
        case measure => simp [intOf]; omega
      · have e : k = L.length := by omega
        subst e
        go_wp2_with fail
        go_ret
        refine ⟨rfl, HO.out.wrote (by simp [marksB_length, bys_length]) (Or.inr ⟨g, off, rfl, fun j hj => ?_⟩) HFr.out, HG.out⟩
        have hj' : j < L.length := by simpa [bys_length, marksB_length] using hj
        rw [HM.out j hj']
        simp [bys, marksB]

theorem heldByteS_k (a : Option Addr) (cap : Nat) (m : Nat) (n : Nat) (w : World) (hc : Cells w a (bys (marksB n m))) (hl : m ≤ 16777216) (hn : n ≤ 1000000000000) :
    Calls Tryd.prog 36 #[.slice a m cap, .int .i64 (n : Int)] w fun e w' => e = .returned (.int .i64 ((n + m : Nat) : Int)) ∧ w' = w := by
  have HC := hide hc
  clear hc
  go_enter Tryd.func36, Tryd.ntmps36
  go_wp2_with fail
  go_loop [1, 5] (fun x y => ∃ k : Nat, k ≤ m ∧ x = .int .i64 ((n + k : Nat) : Int) ∧ y = .int .i64 (k : Int)) (fun _ y => m - (intOf y).toNat)
  case atStart => exact ⟨0, by omega, by simp, rfl⟩
  case round =>
    obtain ⟨k, hk, rfl, rfl⟩ := hrel
    by_cases hlt : k < m
    · obtain ⟨b, off, ea, c0⟩ := bys_at HC.out k (by rw [marksB_length]; exact hlt)
      subst ea
      have e0 : (((marksB n m)[k]'(by rw [marksB_length]; exact hlt)).toNat : Int) = ((n : Int) + (k : Int)) % 256 := by simp [marksB]
      rw [e0] at c0
      clear e0
      go_wp2_with fail
      go_round
      case rel => exact ⟨k + 1, by omega, by go_num, by go_num⟩
      case measure => simp [intOf]; omega
    · have e : k = m := by omega
      subst e
      go_wp2_with fail
      go_ret
      exact ⟨rfl, rfl⟩
end Go.Proofs.YtkdnddckogbgaaaDoor
