/- Texts of the verifier, joined: DrLo, DrLn. -/
import Derived.Test.YtkdnddckogbgaaaGreatDoorFO24
import Derived.Test.YtkdnddckogbgaaaGreatDoorFO26
namespace Go.Proofs.YtkdnddckogbgaaaGreatDoor
open Go.RowKit Go.Deep
set_option linter.unusedVariables false
set_option linter.unusedSimpArgs false
set_option maxRecDepth 10000
def logRow (x y z u : Value) (i : Nat) : Value := if i = 0 then x else if i = 1 then y else if i = 2 then z else u
theorem four_row (x y z u : Value) : ∀ i, i < (#[x, y, z, u] : Array Value).size → (#[x, y, z, u] : Array Value)[i]? = some (logRow x y z u i)
  | 0, _ => rfl
  | 1, _ => rfl
  | 2, _ => rfl
  | 3, _ => rfl
  | n + 4, h => absurd h (by simp)
theorem row_four {W : World} {b : Nat} {t : TypeId} {f : Nat → Value} (h : W.rowIs b t 4 f) (x y z u : Value) : ((((W.setCell ⟨b, 0, none⟩ x).setCell ⟨b, 1, none⟩ y).setCell ⟨b, 2, none⟩ z).setCell ⟨b, 3, none⟩ u).rowIs b t 4 (logRow x y z u) :=
  ((((h.set 0 x).set 1 y).set 2 z).set 3 u).congr (fun i hi => by
    match i, hi with
    | 0, _ => rfl
    | 1, _ => rfl
    | 2, _ => rfl
    | 3, _ => rfl)
structure LoSt (base : Nat) (Lb : Nat) (ca : Option Addr) (cc : Nat) (cs : List Bs) (da : Option Addr) (dc : Nat) (ds : List Wr) (nx ep : Int) (W : World) : Prop where
  row : W.rowIs Lb 28 4 (logRow (.slice ca cs.length cc) (.slice da ds.length dc) (.int .i64 nx) (.int .i64 ep))
  own : Own W (dsk ca cs da ds)
  far : ∀ b ∈ fp (dsk ca cs da ds), base ≤ b ∧ b ≠ Lb
  new : base ≤ Lb
  ok : DOk cs ds
  na : ca = none → cc = 0
  nd : da = none → dc = 0
section
variable {W W' : World} {base Lb : Nat} {ca : Option Addr} {cc : Nat} {cs : List Bs} {da : Option Addr} {dc : Nat} {ds : List Wr} {nx ep : Int}
theorem LoSt.grown (s : LoSt base Lb ca cc cs da dc ds nx ep W) {B : Nat} (g : W.grownBy W' (some B)) (hB : B < base) : LoSt base Lb ca cc cs da dc ds nx ep W' :=
  ⟨grown_row g (by have := s.new; intro e; injection e with e; omega) s.row, s.own.turn (Turn.of_grown (fs := [B]) g (by simp)) (fun b hb hx => by have := (s.far b hb).1; have h2 : b = B := (by simpa using hx); omega), s.far, s.new, s.ok, s.na, s.nd⟩
theorem LoSt.kept (s : LoSt base Lb ca cc cs da dc ds nx ep W) (hk : Keeps W W') : LoSt base Lb ca cc cs da dc ds nx ep W' :=
  ⟨Keeps.row hk s.row, s.own.kept hk, s.far, s.new, s.ok, s.na, s.nd⟩
/-- The variable gets another log. -/
theorem LoSt.put {V : World} {ca' : Option Addr} {cc' : Nat} {cs' : List Bs} {da' : Option Addr} {dc' : Nat} {ds' : List Wr} {nx' ep' : Int} (s : LoSt base Lb ca cc cs da dc ds nx ep W) (hk : Keeps W V) (hw : base ≤ W.heap.size) (hb : Born V W' (dsk ca' cs' da' ds')) (hk' : Keeps V W') (ho : DOk cs' ds') (hna : ca' = none → cc' = 0) (hnd : da' = none → dc' = 0) :
    LoSt base Lb ca' cc' cs' da' dc' ds' nx' ep' ((((W'.setCell ⟨Lb, 0, none⟩ (.slice ca' cs'.length cc')).setCell ⟨Lb, 1, none⟩ (.slice da' ds'.length dc')).setCell ⟨Lb, 2, none⟩ (.int .i64 nx')).setCell ⟨Lb, 3, none⟩ (.int .i64 ep')) := by
  have hr := Keeps.row (hk.trans hk') s.row
  have hlt := s.row.lt
  have hf : ∀ b ∈ fp (dsk ca' cs' da' ds'), base ≤ b ∧ b ≠ Lb := fun b hb' => by
    have h1 := hb.new b hb'
    have h2 := hk.size
    omega
  have ht : Turn [Lb] W' ((((W'.setCell ⟨Lb, 0, none⟩ (.slice ca' cs'.length cc')).setCell ⟨Lb, 1, none⟩ (.slice da' ds'.length dc')).setCell ⟨Lb, 2, none⟩ (.int .i64 nx')).setCell ⟨Lb, 3, none⟩ (.int .i64 ep')) := (((Turn.set (by simp) _).trans' (Turn.set (by simp) _)).trans' (Turn.set (by simp) _)).trans' (Turn.set (by simp) _)
  exact ⟨row_four hr _ _ _ _, hb.toOwn.turn ht (fun b hb' hx => (hf b hb').2 (by simpa using hx)), hf, s.new, ho, hna, hnd⟩
end
/-- What a log that is drawn keeps: a right disk of a few cells. -/
def FewM (M : DkM) : Prop := dokM M = true ∧ 3 ≤ M.cells.length ∧ M.cells.length ≤ 16
theorem FewM.open {m : DkM} (h : FewM m) (hc : opC m = 0) : FewM (opM m) := by
  obtain ⟨r1, r2, r3⟩ := op_right hc
  exact ⟨r1, by rw [r2]; exact h.2.1, by rw [r2]; exact h.2.2⟩
theorem FewM.crash {m : DkM} (h : FewM m) {f : Nat → Nat} (hf : ∀ i, f i ≤ 128) : FewM (crashM m f) := by
  obtain ⟨c1, c2, c3⟩ := dok_crash h.1 hf
  exact ⟨c1, by rw [c2]; exact h.2.1, by rw [c2]; exact h.2.2⟩
theorem FewM.sync {m : DkM} (h : FewM m) : FewM (syncM m) := by
  unfold syncM
  rw [if_pos h.1]
  exact h.crash (fun _ => Nat.le_refl _)
theorem FewM.add {m : DkM} {nx ep : Int} {e : Bool} {L : List UInt8} (h : FewM m) (hL : L.length ≤ 100) (hc : addC m nx ep e = 0) : FewM (addM m nx ep e L) := by
  obtain ⟨h1, h2, h3, h4, h5, h6, h7⟩ := add_yes hc
  have h8 := dokM_len h1
  have hs : secB nx ep L.length = true := by simp [secB]; omega
  have hw : writeB m nx (secR nx ep L) = true := writeB_yes h1 h6 h2 h3 (sec_back hs).2.2.2.2
  have e0 : addM m nx ep e L = writeM m nx (secR nx ep L) := by unfold addM; rw [if_pos hc]
  rw [e0]
  have hl : (writeM m nx (secR nx ep L)).cells.length = m.cells.length := by unfold writeM; rw [if_pos hw]
  refine ⟨?_, by rw [hl]; exact h.2.1, by rw [hl]; exact h.2.2⟩
  unfold writeM
  rw [if_pos hw, dokM_add h1]
  exact hw
/-- A new disk of a few cells can be opened. -/
theorem new_open {n : Int} (h1 : 3 ≤ n) (h2 : n ≤ 16) : FewM (newM n) ∧ opC (newM n) = 0 := by
  obtain ⟨a1, a2, a3, a4⟩ := new_len (n := n) (by omega) (by omega)
  have hz : ∀ j : Nat, j < (newM n).cells.length → readL (newM n) j = List.replicate 128 0 := fun j hj => by
    unfold readL
    rw [if_pos (by simp [readB, a2]; omega), a4]
    have : (newM n).cells = List.replicate n.toNat [] := by unfold newM; rw [if_pos a1]
    have hg : (List.replicate n.toNat ([] : List UInt8)).getD ((j : Nat) : Int).toNat [] = [] := by
      rw [List.getD_eq_getElem?_getD]
      cases hq : (List.replicate n.toNat ([] : List UInt8))[((j : Nat) : Int).toNat]? with
      | none => rfl
      | some y => exact List.eq_of_mem_replicate (List.mem_of_getElem? hq)
    rw [this, hg]
    rfl
  have hs : srB (List.replicate 128 (0 : UInt8)) = false := by decide
  have hf : fitB (newM n) 0 = false := by
    unfold fitB
    rw [hz 0 (by rw [a3]; omega), hs]
    rfl
  have hl : logN (newM n) = 0 := logTo_stop (fun j hj => by omega) hf (Nat.zero_le _)
  have ht : topM (newM n) ≤ 0 := top_le (Int.le_refl 0) (fun k hk hb => by rw [hz k hk, hs] at hb; exact Bool.noConfusion hb)
  refine ⟨⟨a2, by rw [a3]; omega, by rw [a3]; omega⟩, opC_zero a2 (by rw [a4]; rfl) ?_⟩
  rw [hl, a3]
  omega
end Go.Proofs.YtkdnddckogbgaaaGreatDoor
namespace Go.Proofs.YtkdnddckogbgaaaGreatDoor
open Go.RowKit Go.Deep
set_option linter.unusedVariables false
set_option linter.unusedSimpArgs false
set_option maxRecDepth 10000
/-- What a piece of code leaves is told once, and what follows is walked once; it leaves no other way. -/
theorem onceT14 {P : Program} {c : Code} {Q : Exit → Act → World → Prop} {a : Act} {w : World} {α0 α1 α2 α3 α4 α5 α6 α7 α8 α9 α10 α11 α12 α13 : Type} (F : α0 → α1 → α2 → α3 → α4 → α5 → α6 → α7 → α8 → α9 → α10 → α11 → α12 → α13 → World → Prop) (A : α0 → α1 → α2 → α3 → α4 → α5 → α6 → α7 → α8 → α9 → α10 → α11 → α12 → α13 → Act)
    (h1 : c.wp P (Exit.then (fun a' w' => ∃ x0 x1 x2 x3 x4 x5 x6 x7 x8 x9 x10 x11 x12 x13, a' = A x0 x1 x2 x3 x4 x5 x6 x7 x8 x9 x10 x11 x12 x13 ∧ F x0 x1 x2 x3 x4 x5 x6 x7 x8 x9 x10 x11 x12 x13 w') (fun _ _ _ => False)) a w) (h2 : ∀ x0 x1 x2 x3 x4 x5 x6 x7 x8 x9 x10 x11 x12 x13 w', F x0 x1 x2 x3 x4 x5 x6 x7 x8 x9 x10 x11 x12 x13 w' → Q .normal (A x0 x1 x2 x3 x4 x5 x6 x7 x8 x9 x10 x11 x12 x13) w') : c.wp P Q a w :=
  wp_mono h1 (fun e a' w' h => by
    cases e with
    | normal =>
      obtain ⟨x0, x1, x2, x3, x4, x5, x6, x7, x8, x9, x10, x11, x12, x13, ha, hF⟩ := h
      subst ha
      exact h2 x0 x1 x2 x3 x4 x5 x6 x7 x8 x9 x10 x11 x12 x13 w' hF
    | _ => exact False.elim h)
theorem many_inL (W : World) {W' : World} {C : Array Value} {t : TypeId} {B k : Nat} {v : Value} (g : (W.alloc (.cells C t)).grownBy W' (some B)) (h : C[k]? = some v) (hB : B < W.heap.size) : W'.cell? ⟨W.heap.size, k, none⟩ = some v := by
  have hb := g.block W.heap.size (by simp) (by simp; omega)
  rw [World.cell?_of_block (w := W.alloc (.cells C t)) hb, World.cell?_alloc_mark W C t (0, 0) k]
  exact h
theorem four_at : ∀ {k : Nat}, k < 4 → ∃ d : Int, (#[.int .i64 0, .int .i64 50, .int .i64 127, .int .i64 128] : Array Value)[k]? = some (.int .i64 d)
  | 0, _ => ⟨0, rfl⟩
  | 1, _ => ⟨50, rfl⟩
  | 2, _ => ⟨127, rfl⟩
  | 3, _ => ⟨128, rfl⟩
  | n + 4, h => absurd h (by omega)
theorem one_in (w : World) (d : Int) : ∀ j u, (its [d])[j]? = some u → (w.alloc (.cells #[.int .i64 d] 3)).cell? ((⟨w.heap.size, 0, none⟩ : Addr).add j) = some u := fun j u hj => by
  match j, hj with
  | 0, hj => simp [its] at hj; subst hj; simp [Addr.add]
  | n + 1, hj => simp [its] at hj
/-- The world while a log is drawn, without the variable's block. -/
structure DrSt (w : World) (B0 B : Nat) (a : Option Addr) (len cap : Nat) (W : World) : Prop where
  dr : Dr B0 B a len cap W
  g : w.grownBy W (some B)
  r : W.rowIs w.heap.size 28 4 (logRow (.slice none 0 0) (.slice none 0 0) (.int .i64 0) (.int .i64 0))
  b : B < w.heap.size
  b0 : B0 ≤ B
section
variable {w W W' : World} {B0 B : Nat} {a : Option Addr} {len cap : Nat}
theorem DrSt.kept (s : DrSt w B0 B a len cap W) (hk : Keeps W W') : DrSt w B0 B a len cap W' :=
  ⟨s.dr.grown (row := none) (hk.grows none) (by simp) (by simp), s.g.trans (hk.grows (some B)), Keeps.row hk s.r, s.b, s.b0⟩
theorem DrSt.drawn (s : DrSt w B0 B a len cap W) (d : Dr B0 B a len cap W') (g : W.grownBy W' (some B)) : DrSt w B0 B a len cap W' :=
  ⟨d, s.g.trans g, grown_row g (by have := s.b; intro e; injection e with e; omega) s.r, s.b, s.b0⟩
theorem DrSt.set (s : DrSt w B0 B a len cap W) {VB : Nat} (h : w.heap.size + 1 ≤ VB) (x y z u : Value) : DrSt w B0 B a len cap ((((W.setCell ⟨VB, 0, none⟩ x).setCell ⟨VB, 1, none⟩ y).setCell ⟨VB, 2, none⟩ z).setCell ⟨VB, 3, none⟩ u) := by
  have h1 := s.b
  have h2 := s.b0
  exact ⟨(((s.dr.set (by omega) (by omega) _).set (by omega) (by omega) _).set (by omega) (by omega) _).set (by omega) (by omega) _, grown_new (grown_new (grown_new (grown_new s.g (by omega)) (by omega)) (by omega)) (by omega), (((s.r.setOther (by simp; omega) _).setOther (by simp; omega) _).setOther (by simp; omega) _).setOther (by simp; omega) _, h1, h2⟩
end
theorem size_alloc1 (w : World) (o : Obj) : (w.alloc o).heap.size = w.heap.size + 1 := by simp
section
variable {w W W' : World} {B0 B : Nat} {a : Option Addr} {len cap base Lb VB : Nat} {ca : Option Addr} {cc : Nat} {cs : List Bs} {da : Option Addr} {dc : Nat} {ds : List Wr} {nx ep : Int} {ca' : Option Addr} {cc' : Nat} {cs' : List Bs} {da' : Option Addr} {dc' : Nat} {ds' : List Wr} {nx' ep' : Int}
theorem set_turn (W : World) (VB : Nat) (x y z u : Value) : Turn [VB] W ((((W.setCell ⟨VB, 0, none⟩ x).setCell ⟨VB, 1, none⟩ y).setCell ⟨VB, 2, none⟩ z).setCell ⟨VB, 3, none⟩ u) := (((Turn.set (by simp) _).trans' (Turn.set (by simp) _)).trans' (Turn.set (by simp) _)).trans' (Turn.set (by simp) _)
theorem LoSt.set (s : LoSt base Lb ca cc cs da dc ds nx ep W) (h : VB ≠ Lb) (h2 : ∀ b ∈ fp (dsk ca cs da ds), b ≠ VB) (x y z u : Value) : LoSt base Lb ca cc cs da dc ds nx ep ((((W.setCell ⟨VB, 0, none⟩ x).setCell ⟨VB, 1, none⟩ y).setCell ⟨VB, 2, none⟩ z).setCell ⟨VB, 3, none⟩ u) :=
  ⟨(((s.row.setOther (by simp; omega) _).setOther (by simp; omega) _).setOther (by simp; omega) _).setOther (by simp; omega) _, s.own.turn (set_turn W VB x y z u) (fun b hb hx => h2 b hb (by simpa using hx)), s.far, s.new, s.ok, s.na, s.nd⟩
theorem LoSt.turned (s : LoSt base Lb ca cc cs da dc ds nx ep W) {row : Option Nat} (g : W.grownBy W' row) (h : ∀ r, row = some r → r ≠ Lb ∧ ∀ b ∈ fp (dsk ca cs da ds), b ≠ r) : LoSt base Lb ca cc cs da dc ds nx ep W' :=
  ⟨grown_row g (fun e => (h Lb e.symm).1 rfl) s.row, by
    cases row with
    | none => exact s.own.kept ⟨g.os, g.tape, g.output, g.size, fun k hk => g.block k hk (by simp)⟩
    | some r => exact s.own.turn (Turn.of_grown (fs := [r]) g (by simp)) (fun b hb hx => (h r rfl).2 b hb (by simpa using hx)), s.far, s.new, s.ok, s.na, s.nd⟩
theorem DrSt.turned (s : DrSt w B0 B a len cap W) {row : Option Nat} (g : W.grownBy W' row) (h : ∀ r, row = some r → w.heap.size + 1 ≤ r) : DrSt w B0 B a len cap W' := by
  have h1 := s.b
  have h2 := s.b0
  refine ⟨s.dr.grown g (fun e => by have := h B e.symm; omega) (fun r hr => by have := h r hr; omega), s.g.andThen g (fun j hj => .inl (by have := h j hj; omega)), grown_row g (fun e => by have := h _ e.symm; omega) s.r, h1, h2⟩
/-- The log that is drawn, and a variable with another one. -/
structure NxSt (w : World) (B0 B : Nat) (a : Option Addr) (len cap : Nat) (Lb VB : Nat) (ca : Option Addr) (cc : Nat) (cs : List Bs) (da : Option Addr) (dc : Nat) (ds : List Wr) (nx ep : Int) (ca' : Option Addr) (cc' : Nat) (cs' : List Bs) (da' : Option Addr) (dc' : Nat) (ds' : List Wr) (nx' ep' : Int) (W : World) : Prop where
  st : DrSt w B0 B a len cap W
  lo : LoSt (w.heap.size + 1) Lb ca cc cs da dc ds nx ep W
  nw : LoSt (w.heap.size + 1) VB ca' cc' cs' da' dc' ds' nx' ep' W
  ne : VB ≠ Lb
  af : ∀ b ∈ fp (dsk ca' cs' da' ds'), b ≠ Lb
/-- The variable was there, and gets the other log. -/
theorem NxSt.mkSet {t : Nat → Value} (s : DrSt w B0 B a len cap W) (lo : LoSt (w.heap.size + 1) Lb ca cc cs da dc ds nx ep W) (hv : W.rowIs VB 28 4 t) (h1 : Lb < VB) (h2 : ∀ b ∈ fp (dsk ca cs da ds), b < VB) (own : Own W (dsk ca' cs' da' ds')) (h3 : ∀ b ∈ fp (dsk ca' cs' da' ds'), VB < b) (ok : DOk cs' ds') (na : ca' = none → cc' = 0) (nd : da' = none → dc' = 0) :
    NxSt w B0 B a len cap Lb VB ca cc cs da dc ds nx ep ca' cc' cs' da' dc' ds' nx' ep' ((((W.setCell ⟨VB, 0, none⟩ (.slice ca' cs'.length cc')).setCell ⟨VB, 1, none⟩ (.slice da' ds'.length dc')).setCell ⟨VB, 2, none⟩ (.int .i64 nx')).setCell ⟨VB, 3, none⟩ (.int .i64 ep')) := by
  have h4 := lo.new
  refine ⟨s.set (by omega) _ _ _ _, lo.set (by omega) (fun b hb => by have := h2 b hb; omega) _ _ _ _, ⟨row_four hv _ _ _ _, own.turn (set_turn W VB _ _ _ _) (fun b hb hx => ?_), fun b hb => ?_, by omega, ok, na, nd⟩, by omega, fun b hb => ?_⟩
  · have := h3 b hb
    have h5 : b = VB := by simpa using hx
    omega
  · have := h3 b hb
    omega
  · have := h3 b hb
    omega
/-- The variable is made with the other log in it. -/
theorem NxSt.mkNew (s : DrSt w B0 B a len cap W) (lo : LoSt (w.heap.size + 1) Lb ca cc cs da dc ds nx ep W) (own : Own W (dsk ca' cs' da' ds')) (h3 : ∀ b ∈ fp (dsk ca' cs' da' ds'), Lb < b) (ok : DOk cs' ds') (na : ca' = none → cc' = 0) (nd : da' = none → dc' = 0) :
    NxSt w B0 B a len cap Lb W.heap.size ca cc cs da dc ds nx ep ca' cc' cs' da' dc' ds' nx' ep' (W.alloc (.cells #[.slice ca' cs'.length cc', .slice da' ds'.length dc', .int .i64 nx', .int .i64 ep'] 28)) := by
  have hk := Keeps.alloc (Keeps.refl W) (.cells #[.slice ca' cs'.length cc', .slice da' ds'.length dc', .int .i64 nx', .int .i64 ep'] 28)
  have h4 := lo.new
  have h5 := lo.row.lt
  refine ⟨s.kept hk, lo.kept hk, ⟨World.rowIs_alloc W _ 28 _ (four_row _ _ _ _), own.kept hk, fun b hb => ?_, by omega, ok, na, nd⟩, by omega, fun b hb => ?_⟩
  · have := h3 b hb
    have := own.mem.lt b hb
    omega
  · have := h3 b hb
    omega
/-- The drawn log becomes the other one. -/
theorem NxSt.take (s : NxSt w B0 B a len cap Lb VB ca cc cs da dc ds nx ep ca' cc' cs' da' dc' ds' nx' ep' W) :
    LoSt (w.heap.size + 1) Lb ca' cc' cs' da' dc' ds' nx' ep' ((((W.setCell ⟨Lb, 0, none⟩ (.slice ca' cs'.length cc')).setCell ⟨Lb, 1, none⟩ (.slice da' ds'.length dc')).setCell ⟨Lb, 2, none⟩ (.int .i64 nx')).setCell ⟨Lb, 3, none⟩ (.int .i64 ep')) ∧
    DrSt w B0 B a len cap ((((W.setCell ⟨Lb, 0, none⟩ (.slice ca' cs'.length cc')).setCell ⟨Lb, 1, none⟩ (.slice da' ds'.length dc')).setCell ⟨Lb, 2, none⟩ (.int .i64 nx')).setCell ⟨Lb, 3, none⟩ (.int .i64 ep')) :=
  ⟨⟨row_four s.lo.row _ _ _ _, s.nw.own.turn (set_turn W Lb _ _ _ _) (fun b hb hx => s.af b hb (by simpa using hx)), fun b hb => ⟨(s.nw.far b hb).1, s.af b hb⟩, s.lo.new, s.nw.ok, s.nw.na, s.nw.nd⟩, s.st.set s.lo.new _ _ _ _⟩
end
end Go.Proofs.YtkdnddckogbgaaaGreatDoor
