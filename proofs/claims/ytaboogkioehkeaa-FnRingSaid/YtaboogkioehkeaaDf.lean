/- The model's draws of graphs: what they keep to. -/
import Derived.Test.YtaboogkioehkeaaEgO
import Derived.Test.YtaboogkioehkeaaDrG
import Derived.Test.YtaboogkioehkeaaGr
namespace Go.Proofs.Ytaboogkioehkeaa
open Go.RowKit Go.Deep
set_option linter.unusedVariables false
set_option linter.unusedSimpArgs false
set_option maxRecDepth 10000

theorem turn_grown {w w' : World} {B : Nat} (h : Turn [B] w w') : w.grownBy w' (some B) := ⟨h.os, h.tape, h.output, h.size, fun k hk hne => h.block k hk (by intro hx; simp at hx; exact hne (by rw [hx]))⟩
theorem grown_turn {w w' : World} {B : Nat} (h : w.grownBy w' (some B)) : Turn [B] w w' := Turn.of_grown h (fun k hk => by cases hk; simp)
theorem Dr.turned {B0 B : Nat} {a : Option Addr} {len cap : Nat} {w w' : World} (s : Dr B0 B a len cap w) {fs : List Nat} (ht : Turn fs w w') (h1 : B ∉ fs) (h2 : ∀ b ∈ fs, B0 ≤ b) : Dr B0 B a len cap w' := by
  have hlt := s.lt
  obtain ⟨⟨hB0, i, h, hi, c0, c1, c2, f1, f2⟩, rw, sm⟩ := s
  have eb := ht.block B hlt h1
  refine ⟨⟨hB0, i, h, hi, ht.cell h1 c0, ht.cell h1 c1, ht.cell h1 c2, ?_, ?_⟩, ?_, sm⟩
  · rw [World.frozen?_of_block (w := w) eb]; exact f1
  · rw [World.frozen?_of_block (w := w) eb]; exact f2
  · intro j hj
    obtain ⟨b, off, n, e, hb, n0, n1, hc⟩ := rw j hj
    exact ⟨b, off, n, e, hb, n0, n1, ht.cell (fun hx => by have h3 : B0 ≤ b := h2 _ hx; omega) hc⟩
theorem ownsE_turn {w w' : World} {base : Nat} {v : Value} {L : List Edg} (h : OwnsEdge w base v L) (hb : ∀ j, v.ownBlock = some j → w'.heap[j]? = w.heap[j]?) : OwnsEdge w' base v L := by
  refine ⟨h.1, ?_⟩
  rcases h.2 with h2 | ⟨g, cap, cur, e, h3, h4, h5⟩
  · exact .inl h2
  · exact .inr ⟨g, cap, cur, e, h3, by rw [hb g (by rw [e]; rfl)]; exact h4, h5⟩
theorem bornE {W w : World} {base : Nat} {ea : Option Addr} {ec : Nat} {L : List Edg} (h : OwnsEdge w base (.slice ea L.length ec) L) (hb : W.heap.size ≤ base) : Born W w [(ea, egs L)] := by
  rcases h.2 with ⟨e, hz⟩ | ⟨g, cap, cur, e, h3⟩
  · have h0 : L = [] := List.length_eq_zero_iff.1 hz
    subst h0
    injection e with e1 e2 e3
    subst e1
    exact ⟨⟨fun s hs => by rw [List.mem_singleton.1 hs]; exact Cells.nil _ _, by simp [fp, fpS, egs], fun b hb => absurd hb (by simp [fp, fpS, egs])⟩, fun b hb => absurd hb (by simp [fp, fpS, egs])⟩
  · injection e with e1 e2 e3
    subst e1 e3
    refine ⟨⟨?_, ?_, ?_⟩, ?_⟩
    · intro s hs
      rw [List.mem_singleton.1 hs]
      refine Or.inr ⟨g, 0, rfl, fun j hj => ?_⟩
      have hj' : j < (egs L).length := hj
      have hl := egs_len L
      rw [Nat.zero_add, h.cellAt j (by omega), List.getElem?_eq_getElem hj']
    · by_cases h0 : egs L = [] <;> simp [fp, fpS, h0]
    · intro b hb'
      by_cases h0 : egs L = []
      · simp [fp, fpS, h0] at hb'
      · simp [fp, fpS, h0] at hb'
        subst hb'
        exact fun o => h.frozenAt o
    · intro b hb'
      by_cases h0 : egs L = []
      · simp [fp, fpS, h0] at hb'
      · simp [fp, fpS, h0] at hb'
        subst hb'
        have := (h.lt b rfl).1
        omega
theorem below_t {B0 B : Nat} {a : Option Addr} {len cap : Nat} {w : World} (n : Int) (s : Dr B0 B a len cap w) (h0 : 0 < n) (h1 : n ≤ 1000000000) :
    Calls Try.prog 54 #[.pointer (some ⟨B, 0, none⟩), .int .i64 n] w fun e w' => IsBelow n e ∧ Dr B0 B a len cap w' ∧ Turn [B] w w' :=
  (below_any n s h0 h1).mono fun _ _ ⟨h1, h2, h3⟩ => ⟨h1, h2, grown_turn h3⟩
theorem raw_t {B0 B : Nat} {a : Option Addr} {len cap : Nat} {w : World} (s : Dr B0 B a len cap w) :
    Calls Try.prog 55 #[.pointer (some ⟨B, 0, none⟩)] w fun e w' => IsInt e ∧ Dr B0 B a len cap w' ∧ Turn [B] w w' :=
  (raw_any s).mono fun _ _ ⟨h1, h2, h3⟩ => ⟨h1, h2, grown_turn h3⟩
/-- A graph was answered, in memory of its own. -/
def GrRes (w w' : World) (e : Ending) : Prop := ∃ (nn : Int) (ea : Option Addr) (ec : Nat) (E : List Edg), e = .returned (.agg #[.int .i64 nn, .slice ea E.length ec]) ∧ E.length ≤ 12 ∧ (ea = none → ec = 0) ∧ Born w w' [(ea, egs E)]
/-- While a graph is drawn. -/
structure DgS (B0 B : Nat) (a : Option Addr) (len cap : Nat) (w wr : World) (G : Nat) (nn : Int) (ea : Option Addr) (ec : Nat) (E : List Edg) : Prop where
  dr : Dr B0 B a len cap wr
  tu : Turn [B] w wr
  gr : wr.rowIs G 25 2 (row2 (.int .i64 nn) (.slice ea E.length ec))
  rs : ∃ f, wr.rowIs w.heap.size 25 2 f
  ow : OwnsEdge wr (G + 1) (.slice ea E.length ec) E
  lt : w.heap.size < G
  nB : B < w.heap.size
theorem DgS.turn {B0 B : Nat} {a : Option Addr} {len cap : Nat} {w wr w' : World} {G : Nat} {nn : Int} {ea : Option Addr} {ec : Nat} {E : List Edg} (h : DgS B0 B a len cap w wr G nn ea ec E) (hd : Dr B0 B a len cap w') (ht : Turn [B] wr w') : DgS B0 B a len cap w w' G nn ea ec E := by
  have h1 := h.lt
  have h2 := h.nB
  obtain ⟨f, hf⟩ := h.rs
  exact ⟨hd, h.tu.trans' ht, h.gr.of_block (ht.block G h.gr.lt (by simp; omega)), ⟨f, hf.of_block (ht.block _ hf.lt (by simp; omega))⟩, ownsE_turn h.ow (fun j hj => ht.block j (h.ow.lt j hj).2 (by have := (h.ow.lt j hj).1; simp; omega)), h.lt, h.nB⟩
theorem DgS.kept {B0 B : Nat} {a : Option Addr} {len cap : Nat} {w wr w' : World} {G : Nat} {nn : Int} {ea : Option Addr} {ec : Nat} {E : List Edg} (h : DgS B0 B a len cap w wr G nn ea ec E) (hk : Keeps wr w') : DgS B0 B a len cap w w' G nn ea ec E :=
  h.turn (h.dr.turned (Turn.of_keeps hk []) (by simp) (by simp)) (Turn.of_keeps hk _)
/-- The graph's list has grown by one edge, and its variable is written. -/
theorem DgS.grow {B0 B : Nat} {a : Option Addr} {len cap : Nat} {w wr W5 w' : World} {G : Nat} {nn : Int} {ea : Option Addr} {ec : Nat} {E : List Edg} {x : Edg} {v' : Value} (h : DgS B0 B a len cap w wr G nn ea ec E) (hk : Keeps wr W5) (ho : OwnsEdge w' (G + 1) v' (E ++ [x])) (hg : W5.grownBy w' (Value.ownBlock (.slice ea E.length ec))) :
    ∃ ea' ec', v' = .slice ea' (E.length + 1) ec' ∧ (ea' = none → ec' = 0) ∧ DgS B0 B a len cap w (w'.setCell ⟨G, 1, none⟩ (.slice ea' (E.length + 1) ec')) G nn ea' ec' (E ++ [x]) ∧ w'.cell? ⟨G, 1, none⟩ = some (.slice ea E.length ec) ∧ w'.frozen? ⟨G, 1, none⟩ = false ∧ G < w'.heap.size := by
  have h5 := h.kept hk
  have h1 := h.lt
  have h2 := h.nB
  have hgl : ∀ j, Value.ownBlock (.slice ea E.length ec) = some j → G + 1 ≤ j := fun j hj => (h5.ow.lt j hj).1
  have hgr : w'.rowIs G 25 2 (row2 (.int .i64 nn) (.slice ea E.length ec)) := h5.gr.of_block (hg.block G h5.gr.lt (fun e => by have := hgl G e.symm; omega))
  obtain ⟨ho1, ho2⟩ := ho
  rcases ho2 with ⟨_, hz⟩ | ⟨g', cap', cur, e, ho3⟩
  · simp at hz
  subst e
  have hl1 : (E ++ [x]).length = E.length + 1 := by simp
  refine ⟨some ⟨g', 0, none⟩, cap', by rw [hl1], fun h => (nomatch h), ?_, hgr.cell (i := 1) (by decide), hgr.frozen 1, hgr.lt⟩
  rw [← hl1]
  have hB := h5.dr.lt
  have hDr : Dr B0 B a len cap w' := h5.dr.grown hg (fun e => by have := hgl B e.symm; omega) (fun r hr => by have := hgl r hr; have := h5.dr.le; omega)
  have ht : Turn [G] w' (w'.setCell ⟨G, 1, none⟩ (.slice (some ⟨g', 0, none⟩) (E ++ [x]).length cap')) := Turn.set (by simp) _
  obtain ⟨f, hf⟩ := h5.rs
  have hf' := hf.of_block (hg.block _ hf.lt (fun e => by have := hgl _ e.symm; omega))
  have hown : OwnsEdge w' (G + 1) (.slice (some ⟨g', 0, none⟩) (E ++ [x]).length cap') (E ++ [x]) := ⟨ho1, .inr ⟨g', cap', cur, rfl, ho3⟩⟩
  refine ⟨hDr.turned ht (by simp; omega) (by have := h5.dr.le; simp; omega), ?_, ?_, ⟨f, hf'.of_block (ht.block _ hf'.lt (by simp; omega))⟩, ownsE_turn hown (fun j hj => ht.block j (hown.lt j hj).2 (by have := (hown.lt j hj).1; simp; omega)), h.lt, h.nB⟩
  · have ht0 : Turn [B] w w' := ⟨hg.os.trans h5.tu.os, hg.tape.trans h5.tu.tape, hg.output.trans h5.tu.output, Nat.le_trans h5.tu.size hg.size, fun k hk hn => (hg.block k (Nat.lt_of_lt_of_le hk h5.tu.size) (fun e => by have := hgl k e.symm; omega)).trans (h5.tu.block k hk hn)⟩
    exact ⟨ht.os.trans ht0.os, ht.tape.trans ht0.tape, ht.output.trans ht0.output, Nat.le_trans ht0.size ht.size, fun k hk hn => (ht.block k (Nat.lt_of_lt_of_le hk ht0.size) (by simp; omega)).trans (ht0.block k hk hn)⟩
  · refine (hgr.set 1 (.slice (some ⟨g', 0, none⟩) (E ++ [x]).length cap')).congr (fun i hi => ?_)
    rcases (show i = 0 ∨ i = 1 by omega) with rfl | rfl <;> rfl
end Go.Proofs.Ytaboogkioehkeaa
