/- l03Copy of the model, by contract. -/
import Derived.Test.YtkdnddckogbgaaaDWi
namespace Go.Proofs.Ytkdnddckogbgaaa
open Go.RowKit Go.Deep
set_option linter.unusedVariables false
set_option maxRecDepth 10000
attribute [local go_sem ↓] Go.wp_at_zero Go.wp_at_succ

theorem step_append_run {P : Program} {w : World} {ops : Array Oper} {o : Oper} {a : Act} {K : Act → World → Prop} {Q : Exit → Act → World → Prop} {E : Prop} (hgd : o.guard = none) (s x : Operand) (t tn : TypeId)
    (ho : o.op = .call { callee := .builtin .append, args := #[s, x], argTypes := #[t, tn] }) (vs vx : Value) (hs : a.eval s = vs) (hx : a.eval x = vx)
    (v' : Value) (w' : World) (hr : (Builtin.append_ #[t, tn] o.type #[vs, vx]).run P w = .ok v' w') (h : K (a.put o.dst v') w') : if Region.wanted o (yielded ops a.tmps) = true then Oper.wp P o a w K Q else E := by
  have hw : Region.wanted o (yielded ops a.tmps) = true := by simp [Region.wanted, hgd]
  rw [if_pos hw]
  exact Lib.wp_append_run w s x t tn ho vs vx hs hx v' w' hr h
theorem run_bys (w : World) (xa : Option Addr) (xc : Nat) (xL : List UInt8) (ty : TypeId) (hc : Cells w xa (bys xL)) (hn : xa = none → xc = 0) (hl : xL.length ≤ 4194304) :
    ∃ (a' : Option Addr) (c' : Nat) (w' : World), (Builtin.append_ #[22, 22] ty #[.slice (some ⟨w.heap.size, 0, none⟩) 0 0, .slice xa xL.length xc]).run Try.prog (w.alloc (.cells #[] 5)) = .ok (.slice a' xL.length c') w' ∧ ((a' = none → c' = 0) ∧ xL.length ≤ c') ∧ Born w w' [(a', bys xL)] ∧ Keeps w w' := by
  have hown := World.ownsRow_made (base := w.heap.size) (e := 5) (size := 1) w #[] 0 (Nat.le_refl _) (by decide) rfl
  have hka := Keeps.alloc (Keeps.refl w) (.cells #[] 5)
  have hI := infoByte
  cases hi : Try.prog.info? 5 with
  | none => rw [hi] at hI; simp at hI
  | some i =>
    rw [hi] at hI
    simp at hI
    obtain ⟨hz, hsz, hby⟩ := hI
    cases xa with
    | none =>
      obtain rfl := hn rfl
      have hM0 : xL = [] := by
        rcases hc with hM | ⟨_, _, e, _⟩
        · exact bys_nil.1 hM
        · cases e
      subst hM0
      refine ⟨some ⟨w.heap.size, 0, none⟩, 0, _, run_append_owned_none (P := Try.prog) (w := w.alloc (.cells #[] 5)) w.heap.size 22 ty 5 i 1 underBytes hi _ 0 [] hown, ⟨(fun e => nomatch e), Nat.le_refl _⟩, ?_, hka⟩
      obtain ⟨a', c', e, _, hb⟩ := Born.of_owns hown
      injection e with e1 e2 e3
      subst e1
      exact hb
    | some p =>
      obtain ⟨v', w', h1, h2, h3, _⟩ := run_append_own (P := Try.prog) (w.alloc (.cells #[] 5)) w.heap.size 22 ty 5 i _ 1 1 underBytes hi hz hsz hby rfl (by decide) (.slice (some ⟨w.heap.size, 0, none⟩) 0 0) 0 [] hown p xL.length xc (bys xL) (by simp [bys_length]) (src_at (hc.kept hka)) (fun u hu => one_cells hu) (by simp only [maxLen]; omega) (by omega) (by simp)
      rw [List.nil_append, Nat.zero_add] at h2
      obtain ⟨a', c', rfl, hn', hb⟩ := Born.of_owns h2
      exact ⟨a', c', w', h1, hn', hb, Keeps.grown hka h3 (fun k hk => (hown.lt k hk).1)⟩
theorem room_turn {w w' : World} {b n : Nat} {fs : List Nat} (h : Room w b n) (ht : Turn fs w w') (hb : b ∉ fs) (hl : b < w.heap.size) : Room w' b n :=
  ⟨fun j hj => by obtain ⟨u, hu⟩ := h.cell j hj; exact ⟨u, ht.cell hb hu⟩, fun o => by rw [World.frozen?_of_block (w := w) (a := ⟨b, o, none⟩) (ht.block b hl hb)]; exact h.free o⟩
section
variable {α : Type} {T : TypeId} {sz : Nat} {f : α → List Value} {sg : α → Seg} {w0 w : World} {v : Value} {nb : List α}
/-- All of the list lies behind block O. -/
def Past (O : Nat) (v : Value) (S : List Seg) : Prop := (∀ g, v.ownBlock = some g → O < g) ∧ ∀ b ∈ fp S, O < b
theorem LG.set {O j : Nat} {u : Value} (h : LG T sz f sg w0 w v nb) (hp : Past O v (nb.map sg)) (hO : w0.heap.size ≤ O) : LG T sz f sg w0 (w.setCell ⟨O, j, none⟩ u) v nb := by
  have ht : Turn [O] w (w.setCell ⟨O, j, none⟩ u) := Turn.set (by simp) _
  refine ⟨?_, h.inner.turn ht (fun b hb hx => ?_), h.apart, ht.keeps h.keeps (fun b hb => by simp at hb; omega)⟩
  · refine ⟨h.row.1, ?_⟩
    rcases h.row.2 with h' | ⟨g, cap, cur, rfl, hb, hg, rest⟩
    · exact .inl h'
    · refine .inr ⟨g, cap, cur, rfl, hb, ?_, rest⟩
      have := hp.1 g rfl
      rw [blk_setCell_other _ _ _ _ (by show g ≠ O; omega)]; exact hg
  · have := hp.2 b hb
    simp at hx
    omega
theorem LG.turned {w' : World} {fs : List Nat} (h : LG T sz f sg w0 w v nb) (ht : Turn fs w w') (h1 : ∀ g, v.ownBlock = some g → g ∉ fs) (h2 : ∀ b ∈ fp (nb.map sg), b ∉ fs) (h3 : ∀ b ∈ fs, w0.heap.size ≤ b) : LG T sz f sg w0 w' v nb := by
  refine ⟨⟨h.row.1, ?_⟩, h.inner.turn ht h2, h.apart, ht.keeps h.keeps h3⟩
  rcases h.row.2 with h' | ⟨g, cap, cur, rfl, hb, hg, rest⟩
  · exact .inl h'
  · refine .inr ⟨g, cap, cur, rfl, hb, ?_, rest⟩
    rw [ht.block g (Array.getElem?_eq_some_iff.1 hg).1 (h1 g rfl)]; exact hg
theorem LG.set' {O j : Nat} {u : Value} (h : LG T sz f sg w0 w v nb) (hO : w0.heap.size ≤ O) (h1 : ∀ g, v.ownBlock = some g → O < g) (h2 : ∀ b ∈ fp (nb.map sg), O < b) : LG T sz f sg w0 (w.setCell ⟨O, j, none⟩ u) v nb := h.set ⟨h1, h2⟩ hO
theorem Past.snoc {O : Nat} {v' : Value} {x : α} {n m : Nat} (h : Past O v (nb.map sg)) (hx : ∀ b ∈ fp [sg x], n ≤ b) (hn : O < n) (hm : O < m) (hv : v'.ownBlock = v.ownBlock ∨ v'.ownBlock = some m) : Past O v' ((nb ++ [x]).map sg) := by
  refine ⟨fun g hg => ?_, fun b hb => ?_⟩
  · rcases hv with hv | hv
    · exact h.1 g (by rw [← hv]; exact hg)
    · rw [hv] at hg; have := Option.some.inj hg; omega
  · rw [List.map_append, fp_append] at hb
    rcases List.mem_append.1 hb with hb | hb
    · exact h.2 b hb
    · have := hx b hb; omega
end
end Go.Proofs.Ytkdnddckogbgaaa
