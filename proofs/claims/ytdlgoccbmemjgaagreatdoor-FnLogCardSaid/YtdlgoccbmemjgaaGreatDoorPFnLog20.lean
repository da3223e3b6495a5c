/- Texts of the verifier, joined: DrLn, SRS. -/
import Derived.Test.YtdlgoccbmemjgaaGreatDoorPFnLog19
import Derived.Test.YtdlgoccbmemjgaaGreatDoorPFnLog15
import Derived.Test.YtdlgoccbmemjgaaGreatDoorPFnLog6
import Derived.Test.YtdlgoccbmemjgaaGreatDoorPFnLog12
namespace Go.Proofs.YtdlgoccbmemjgaaGreatDoor
open Go.RowKit Go.Deep
set_option linter.unusedVariables false
set_option linter.unusedSimpArgs false
set_option maxRecDepth 10000
/-- What a piece of code leaves is told once, and what follows is walked once; it leaves no other way. -/
theorem onceT14 {P : Program} {c : Code} {Q : Exit → Act → World → Prop} {a : Act} {w : World} {α0 α1 α2 α3 α4 α5 α6 α7 α8 α9 α10 α11 α12 α13 : Type} (F : α0 → α1 → α2 → α3 → α4 → α5 → α6 → α7 → α8 → α9 → α10 → α11 → α12 → α13 → World → Prop) (A : α0 → α1 → α2 → α3 → α4 → α5 → α6 → α7 → α8 → α9 → α10 → α11 → α12 → α13 → Act)
    (h1 : c.wp P (Exit.then (fun a' w' => ∃ x0 x1 x2 x3 x4 x5 x6 x7 x8 x9 x10 x11 x12 x13, a' = A x0 x1 x2 x3 x4 x5 x6 x7 x8 x9 x10 x11 x12 x13 ∧ F x0 x1 x2 x3 x4 x5 x6 x7 x8 x9 x10 x11 x12 x13 w') (fun _ _ _ => False)) a w) (h2 : ∀ x0 x1 x2 x3 x4 x5 x6 x7 x8 x9 x10 x11 x12 x13 w', F x0 x1 x2 x3 x4 x5 x6 x7 x8 x9 x10 x11 x12 x13 w' → Q .normal (A x0 x1 x2 x3 x4 x5 x6 x7 x8 x9 x10 x11 x12 x13) w') : c.wp P Q a w :=
  wp_mono h1 (fun e a' w' h => by
    cases e with
    | normal =>
      obtain ⟨x0, x1, x2, x3, x4, x5, x6, x7, x8, x9, x10, x11, x12, x13, ha, hF⟩ := h
      subst ha
      exact h2 x0 x1 x2 x3 x4 x5 x6 x7 x8 x9 x10 x11 x12 x13 w' hF
    | _ => exact False.elim h)
theorem many_inL (W : World) {W' : World} {C : Array Value} {t : TypeId} {B k : Nat} {v : Value} (g : (W.alloc (.cells C t)).grownBy W' (some B)) (h : C[k]? = some v) (hB : B < W.heap.size) : W'.cell? ⟨W.heap.size, k, none⟩ = some v := by
  have hb := g.block W.heap.size (by simp) (by simp; omega)
  rw [World.cell?_of_block (w := W.alloc (.cells C t)) hb, World.cell?_alloc_mark W C t (0, 0) k]
  exact h
theorem four_at : ∀ {k : Nat}, k < 4 → ∃ d : Int, (#[.int .i64 0, .int .i64 50, .int .i64 127, .int .i64 128] : Array Value)[k]? = some (.int .i64 d)
  | 0, _ => ⟨0, rfl⟩
  | 1, _ => ⟨50, rfl⟩
  | 2, _ => ⟨127, rfl⟩
  | 3, _ => ⟨128, rfl⟩
  | n + 4, h => absurd h (by omega)
theorem one_in (w : World) (d : Int) : ∀ j u, (its [d])[j]? = some u → (w.alloc (.cells #[.int .i64 d] 3)).cell? ((⟨w.heap.size, 0, none⟩ : Addr).add j) = some u := fun j u hj => by
  match j, hj with
  | 0, hj => simp [its] at hj; subst hj; simp [Addr.add]
  | n + 1, hj => simp [its] at hj
/-- The world while a log is drawn, without the variable's block. -/
structure DrSt (w : World) (B0 B : Nat) (a : Option Addr) (len cap : Nat) (W : World) : Prop where
  dr : Dr B0 B a len cap W
  g : w.grownBy W (some B)
  r : W.rowIs w.heap.size 28 4 (logRow (.slice none 0 0) (.slice none 0 0) (.int .i64 0) (.int .i64 0))
  b : B < w.heap.size
  b0 : B0 ≤ B
section
variable {w W W' : World} {B0 B : Nat} {a : Option Addr} {len cap : Nat}
theorem DrSt.kept (s : DrSt w B0 B a len cap W) (hk : Keeps W W') : DrSt w B0 B a len cap W' :=
  ⟨s.dr.grown (row := none) (hk.grows none) (by simp) (by simp), s.g.trans (hk.grows (some B)), Keeps.row hk s.r, s.b, s.b0⟩
theorem DrSt.drawn (s : DrSt w B0 B a len cap W) (d : Dr B0 B a len cap W') (g : W.grownBy W' (some B)) : DrSt w B0 B a len cap W' :=
  ⟨d, s.g.trans g, grown_row g (by have := s.b; intro e; injection e with e; omega) s.r, s.b, s.b0⟩
theorem DrSt.set (s : DrSt w B0 B a len cap W) {VB : Nat} (h : w.heap.size + 1 ≤ VB) (x y z u : Value) : DrSt w B0 B a len cap ((((W.setCell ⟨VB, 0, none⟩ x).setCell ⟨VB, 1, none⟩ y).setCell ⟨VB, 2, none⟩ z).setCell ⟨VB, 3, none⟩ u) := by
  have h1 := s.b
  have h2 := s.b0
  exact ⟨(((s.dr.set (by omega) (by omega) _).set (by omega) (by omega) _).set (by omega) (by omega) _).set (by omega) (by omega) _, grown_new (grown_new (grown_new (grown_new s.g (by omega)) (by omega)) (by omega)) (by omega), (((s.r.setOther (by simp; omega) _).setOther (by simp; omega) _).setOther (by simp; omega) _).setOther (by simp; omega) _, h1, h2⟩
end
theorem size_alloc1 (w : World) (o : Obj) : (w.alloc o).heap.size = w.heap.size + 1 := by simp
section
variable {w W W' : World} {B0 B : Nat} {a : Option Addr} {len cap base Lb VB : Nat} {ca : Option Addr} {cc : Nat} {cs : List Bs} {da : Option Addr} {dc : Nat} {ds : List Wr} {nx ep : Int} {ca' : Option Addr} {cc' : Nat} {cs' : List Bs} {da' : Option Addr} {dc' : Nat} {ds' : List Wr} {nx' ep' : Int}
theorem set_turn (W : World) (VB : Nat) (x y z u : Value) : Turn [VB] W ((((W.setCell ⟨VB, 0, none⟩ x).setCell ⟨VB, 1, none⟩ y).setCell ⟨VB, 2, none⟩ z).setCell ⟨VB, 3, none⟩ u) := (((Turn.set (by simp) _).trans' (Turn.set (by simp) _)).trans' (Turn.set (by simp) _)).trans' (Turn.set (by simp) _)
theorem LoSt.set (s : LoSt base Lb ca cc cs da dc ds nx ep W) (h : VB ≠ Lb) (h2 : ∀ b ∈ fp (dsk ca cs da ds), b ≠ VB) (x y z u : Value) : LoSt base Lb ca cc cs da dc ds nx ep ((((W.setCell ⟨VB, 0, none⟩ x).setCell ⟨VB, 1, none⟩ y).setCell ⟨VB, 2, none⟩ z).setCell ⟨VB, 3, none⟩ u) :=
  ⟨(((s.row.setOther (by simp; omega) _).setOther (by simp; omega) _).setOther (by simp; omega) _).setOther (by simp; omega) _, s.own.turn (set_turn W VB x y z u) (fun b hb hx => h2 b hb (by simpa using hx)), s.far, s.new, s.ok, s.na, s.nd⟩
theorem LoSt.turned (s : LoSt base Lb ca cc cs da dc ds nx ep W) {row : Option Nat} (g : W.grownBy W' row) (h : ∀ r, row = some r → r ≠ Lb ∧ ∀ b ∈ fp (dsk ca cs da ds), b ≠ r) : LoSt base Lb ca cc cs da dc ds nx ep W' :=
  ⟨grown_row g (fun e => (h Lb e.symm).1 rfl) s.row, by
    cases row with
    | none => exact s.own.kept ⟨g.os, g.tape, g.output, g.size, fun k hk => g.block k hk (by simp)⟩
    | some r => exact s.own.turn (Turn.of_grown (fs := [r]) g (by simp)) (fun b hb hx => (h r rfl).2 b hb (by simpa using hx)), s.far, s.new, s.ok, s.na, s.nd⟩
theorem DrSt.turned (s : DrSt w B0 B a len cap W) {row : Option Nat} (g : W.grownBy W' row) (h : ∀ r, row = some r → w.heap.size + 1 ≤ r) : DrSt w B0 B a len cap W' := by
  have h1 := s.b
  have h2 := s.b0
  refine ⟨s.dr.grown g (fun e => by have := h B e.symm; omega) (fun r hr => by have := h r hr; omega), s.g.andThen g (fun j hj => .inl (by have := h j hj; omega)), grown_row g (fun e => by have := h _ e.symm; omega) s.r, h1, h2⟩
/-- The log that is drawn, and a variable with another one. -/
structure NxSt (w : World) (B0 B : Nat) (a : Option Addr) (len cap : Nat) (Lb VB : Nat) (ca : Option Addr) (cc : Nat) (cs : List Bs) (da : Option Addr) (dc : Nat) (ds : List Wr) (nx ep : Int) (ca' : Option Addr) (cc' : Nat) (cs' : List Bs) (da' : Option Addr) (dc' : Nat) (ds' : List Wr) (nx' ep' : Int) (W : World) : Prop where
  st : DrSt w B0 B a len cap W
  lo : LoSt (w.heap.size + 1) Lb ca cc cs da dc ds nx ep W
  nw : LoSt (w.heap.size + 1) VB ca' cc' cs' da' dc' ds' nx' ep' W
  ne : VB ≠ Lb
  af : ∀ b ∈ fp (dsk ca' cs' da' ds'), b ≠ Lb
/-- The variable was there, and gets the other log. -/
theorem NxSt.mkSet {t : Nat → Value} (s : DrSt w B0 B a len cap W) (lo : LoSt (w.heap.size + 1) Lb ca cc cs da dc ds nx ep W) (hv : W.rowIs VB 28 4 t) (h1 : Lb < VB) (h2 : ∀ b ∈ fp (dsk ca cs da ds), b < VB) (own : Own W (dsk ca' cs' da' ds')) (h3 : ∀ b ∈ fp (dsk ca' cs' da' ds'), VB < b) (ok : DOk cs' ds') (na : ca' = none → cc' = 0) (nd : da' = none → dc' = 0) :
    NxSt w B0 B a len cap Lb VB ca cc cs da dc ds nx ep ca' cc' cs' da' dc' ds' nx' ep' ((((W.setCell ⟨VB, 0, none⟩ (.slice ca' cs'.length cc')).setCell ⟨VB, 1, none⟩ (.slice da' ds'.length dc')).setCell ⟨VB, 2, none⟩ (.int .i64 nx')).setCell ⟨VB, 3, none⟩ (.int .i64 ep')) := by
  have h4 := lo.new
  refine ⟨s.set (by omega) _ _ _ _, lo.set (by omega) (fun b hb => by have := h2 b hb; omega) _ _ _ _, ⟨row_four hv _ _ _ _, own.turn (set_turn W VB _ _ _ _) (fun b hb hx => ?_), fun b hb => ?_, by omega, ok, na, nd⟩, by omega, fun b hb => ?_⟩
  · have := h3 b hb
    have h5 : b = VB := by simpa using hx
    omega
  · have := h3 b hb
    omega
  · have := h3 b hb
    omega
/-- The variable is made with the other log in it. -/
theorem NxSt.mkNew (s : DrSt w B0 B a len cap W) (lo : LoSt (w.heap.size + 1) Lb ca cc cs da dc ds nx ep W) (own : Own W (dsk ca' cs' da' ds')) (h3 : ∀ b ∈ fp (dsk ca' cs' da' ds'), Lb < b) (ok : DOk cs' ds') (na : ca' = none → cc' = 0) (nd : da' = none → dc' = 0) :
    NxSt w B0 B a len cap Lb W.heap.size ca cc cs da dc ds nx ep ca' cc' cs' da' dc' ds' nx' ep' (W.alloc (.cells #[.slice ca' cs'.length cc', .slice da' ds'.length dc', .int .i64 nx', .int .i64 ep'] 28)) := by
  have hk := Keeps.alloc (Keeps.refl W) (.cells #[.slice ca' cs'.length cc', .slice da' ds'.length dc', .int .i64 nx', .int .i64 ep'] 28)
  have h4 := lo.new
  have h5 := lo.row.lt
  refine ⟨s.kept hk, lo.kept hk, ⟨World.rowIs_alloc W _ 28 _ (four_row _ _ _ _), own.kept hk, fun b hb => ?_, by omega, ok, na, nd⟩, by omega, fun b hb => ?_⟩
  · have := h3 b hb
    have := own.mem.lt b hb
    omega
  · have := h3 b hb
    omega
/-- The drawn log becomes the other one. -/
theorem NxSt.take (s : NxSt w B0 B a len cap Lb VB ca cc cs da dc ds nx ep ca' cc' cs' da' dc' ds' nx' ep' W) :
    LoSt (w.heap.size + 1) Lb ca' cc' cs' da' dc' ds' nx' ep' ((((W.setCell ⟨Lb, 0, none⟩ (.slice ca' cs'.length cc')).setCell ⟨Lb, 1, none⟩ (.slice da' ds'.length dc')).setCell ⟨Lb, 2, none⟩ (.int .i64 nx')).setCell ⟨Lb, 3, none⟩ (.int .i64 ep')) ∧
    DrSt w B0 B a len cap ((((W.setCell ⟨Lb, 0, none⟩ (.slice ca' cs'.length cc')).setCell ⟨Lb, 1, none⟩ (.slice da' ds'.length dc')).setCell ⟨Lb, 2, none⟩ (.int .i64 nx')).setCell ⟨Lb, 3, none⟩ (.int .i64 ep')) :=
  ⟨⟨row_four s.lo.row _ _ _ _, s.nw.own.turn (set_turn W Lb _ _ _ _) (fun b hb hx => s.af b hb (by simpa using hx)), fun b hb => ⟨(s.nw.far b hb).1, s.af b hb⟩, s.lo.new, s.nw.ok, s.nw.na, s.nw.nd⟩, s.st.set s.lo.new _ _ _ _⟩
end
end Go.Proofs.YtdlgoccbmemjgaaGreatDoor
namespace Go.Proofs.YtdlgoccbmemjgaaGreatDoor
open Go.RowKit Go.Deep
set_option linter.unusedVariables false
set_option linter.unusedSimpArgs false
set_option maxRecDepth 10000
theorem get_isS (b off : Nat) (L : List UInt8) (cap : Nat) (p s n : Int) (hn : getV L p s = n) (w : World) (hc : Cells w (some ⟨b, off, none⟩) (bys L)) (hl : L.length ≤ 16777216) :
    Calls Tryz.prog 79 #[.slice (some ⟨b, off, none⟩) L.length cap, .int .i64 p, .int .i64 s] w fun e w' => e = .returned (.tuple #[.int .i64 n, .bool (getB L p s)]) ∧ w' = w := by
  rw [← hn]; exact getnum_spec b off L cap p s w hc hl
theorem app_bysN {ops : Array Oper} {rest : List Oper} {o : Oper} {a : Act} {Q : Exit → Act → World → Prop} {wr : World} (hgd : o.guard = none) (s x : Operand)
    (ho : o.op = .call { callee := .builtin .append, args := #[s, x], argTypes := #[22, 22] }) (base : Nat) (v : Value) (L M : List UInt8) (hs : a.eval s = v) (xa : Option Addr) (c m : Nat) (hm : M.length = m)
    (hx : a.eval x = .slice xa m c) (hM : Cells wr xa (bys M)) (hn : xa = none → c = 0) (hown : OwnsB wr base v L) (hl : L.length + M.length ≤ 4194304) (hbase : base ≤ wr.heap.size)
    (h : ∀ v' w', OwnsB w' base v' (L ++ M) → wr.grownBy w' v.ownBlock → wpList Tryz.prog ops Q rest (a.put o.dst v') w') :
    wpList Tryz.prog ops Q (o :: rest) a wr := by
  subst hm
  exact app_bys hgd s x ho base v L M hs xa c hx hM hn hown hl hbase h
theorem own_freeS {w : World} {R : Nat} {xs : List Value} (h : Own w [(some ⟨R, 0, none⟩, xs)]) (hx : xs ≠ []) : ∀ i, w.frozen? ⟨R, i, none⟩ = false := h.free R (by rw [fp_one, fpS_some hx]; simp)
theorem own_cellS {w : World} {R : Nat} {xs : List Value} (h : Own w [(some ⟨R, 0, none⟩, xs)]) (i : Nat) (hi : i < xs.length) {v : Value} (hv : xs[i] = v) : w.cell? ⟨R, i, none⟩ = some v := by
  have := cell_at h.mem i hi
  rw [Nat.zero_add, hv] at this
  exact this
theorem own_grown {w w' : World} {S : List Seg} {row : Option Nat} (h : Own w S) (hg : w.grownBy w' row) (hn : ∀ x ∈ fp S, row ≠ some x) : Own w' S :=
  h.turn (Turn.of_grown (fs := row.toList) hg (fun k hk => by rw [hk]; simp)) (fun x hx hb => hn x hx (by simpa using hb))
set_option maxHeartbeats 4000000 in
theorem secspec_b_yes (b off : Nat) (L : List UInt8) (cap : Nat) (w : World) (hc : Cells w (some ⟨b, off, none⟩) (bys L)) (hl : L.length ≤ 16777216) (q e n : Nat) (eq : getV L 1 3 = (q : Nat)) (ee : getV L 4 3 = (e : Nat)) (en : getV L 7 1 = (n : Nat)) (hn : n ≤ 100) (h128 : L.length = 128) (hcap : L.length ≤ cap) (hcm : cap ≤ 9223372036854775807) (hok : secB q e (cut L 8 n).length = true) (heq : secR q e (cut L 8 n) = L) (hsr : srB L = true) (fq : numL (cut L 1 3) = q) (fe : numL (cut L 4 3) = e) (fn : numL (cut L 7 1) = n) :
    Calls Tryz.prog 42 #[.slice (some ⟨b, off, none⟩) L.length cap] w (SrPost w L) := by
  have hbR := born_alloc w #[.int .i64 0, .int .i64 0, .slice none 0 0] 72
  have hkR := Keeps.alloc (Keeps.refl w) (.cells #[.int .i64 0, .int .i64 0, .slice none 0 0] 72)
  have hbV := born_alloc (w.alloc (.cells #[.int .i64 0, .int .i64 0, .slice none 0 0] 72)) #[.int .i64 0, .int .i64 0, .slice none 0 0] 72
  have hkV := Keeps.alloc (Keeps.refl (w.alloc (.cells #[.int .i64 0, .int .i64 0, .slice none 0 0] 72))) (.cells #[.int .i64 0, .int .i64 0, .slice none 0 0] 72)
  dsimp only at hbR hbV
  rw [World.size_alloc] at hbV
  have HR := hide (hbR.toOwn.kept hkV)
  have HV := hide hbV.toOwn
  have HK := hide (hkR.trans hkV)
  have HSZ : Hid (w.heap.size + 2 ≤ ((w.alloc (.cells #[.int .i64 0, .int .i64 0, .slice none 0 0] 72)).alloc (.cells #[.int .i64 0, .int .i64 0, .slice none 0 0] 72)).heap.size) := by show _ ≤ _; simp
  have HC := hide hc
  have HL := hide hl
  have HOK := hide hok
  have HSR := hide hsr
  have Nq := hide eq
  have Ne := hide ee
  have Nn := hide en
  clear hbR hkR hbV hkV hc hl hok hsr eq ee en
  have FQ := hide fq
  have FE := hide fe
  have FN := hide fn
  clear fq fe fn
  have HEQ := hide heq
  clear heq
  have h128' : ((L.length : Int) == 128) = true := by rw [h128]; rfl
  have hn2 : (n : Int) ≤ 100 := by omega
  have hn3 : (0 : Int) ≤ (n : Int) := by omega
  have hw8 : IntKind.i64.wrap (8 + (n : Int)) = 8 + (n : Int) := by rw [IntKind.wrap_i64]; omega
  have hs1 : (8 : Int) ≤ 8 + (n : Int) := by omega
  have hs2 : (8 : Int) + (n : Int) ≤ (cap : Int) := by omega
  have hs3 : (8 : Int) < (cap : Int) := by omega
  have hs4 : (8 : Int) ≤ (cap : Int) := by omega
  have hs5 : ((8 : Int) + (n : Int)).toNat - 8 = n := by omega
  have HXL : Hid ((cut L 8 n).length = n) := cut_length (by omega)
  have HX8 : Hid (8 + n ≤ L.length) := by show _ ≤ _; omega
  have HN := hide hn
  clear hn h128 hcap
  have HNV : Hid (w.heap.size + 1 ≠ w.heap.size) := by show _ ≠ _; omega
  go_enter Tryz.func42, Tryz.ntmps42
  go_wp2_with fail
  generalize (w.alloc (.cells #[.int .i64 0, .int .i64 0, .slice none 0 0] 72)).alloc (.cells #[.int .i64 0, .int .i64 0, .slice none 0 0] 72) = w1 at *
  go_at_call 79
  refine (get_isS b off L cap 1 3 (q : Nat) Nq.out _ (HC.out.kept HK.out) HL.out).mono ?_
  rintro x w' ⟨rfl, hw'⟩
  obtain rfl := Eq.symm hw'
  clear hw'
  have cV := own_cellS HV.out 0 (by simp) (v := .int .i64 0) rfl
  have fV := own_freeS HV.out (by simp) 0
  replace HV : Hid (Own (w1.setCell ⟨w.heap.size + 1, 0, none⟩ (.int .i64 (q : Int))) [(some ⟨w.heap.size + 1, 0, none⟩, [.int .i64 (q : Int), .int .i64 0, .slice none 0 0])]) := own_set HV.out 0 (by simp) (.int .i64 (q : Int))
  replace HR := hide (own_setB (a := ⟨w.heap.size + 1, 0, none⟩) HR.out (.int .i64 (q : Int)) (fp_ne HNV.out.symm))
  replace HK := hide (HK.out.setCell (p := ⟨w.heap.size + 1, 0, none⟩) (Nat.le_succ _) (.int .i64 (q : Int)))
  replace HSZ : Hid (w.heap.size + 2 ≤ (w1.setCell ⟨w.heap.size + 1, 0, none⟩ (.int .i64 (q : Int))).heap.size) := by show _ ≤ _; rw [nblk_setCell]; exact HSZ.out
  go_wp2_with fail
  clear cV fV
  generalize w1.setCell ⟨w.heap.size + 1, 0, none⟩ (.int .i64 (q : Int)) = w2 at *
  clear w1
  go_at_call 79
  refine (get_isS b off L cap 4 3 (e : Nat) Ne.out _ (HC.out.kept HK.out) HL.out).mono ?_
  rintro x w' ⟨rfl, hw'⟩
  obtain rfl := Eq.symm hw'
  clear hw'
  have cV := own_cellS HV.out 1 (by simp) (v := .int .i64 0) rfl
  have fV := own_freeS HV.out (by simp) 1
  replace HV : Hid (Own (w2.setCell ⟨w.heap.size + 1, 1, none⟩ (.int .i64 (e : Int))) [(some ⟨w.heap.size + 1, 0, none⟩, [.int .i64 (q : Int), .int .i64 (e : Int), .slice none 0 0])]) := own_set HV.out 1 (by simp) (.int .i64 (e : Int))
  replace HR := hide (own_setB (a := ⟨w.heap.size + 1, 1, none⟩) HR.out (.int .i64 (e : Int)) (fp_ne HNV.out.symm))
  replace HK := hide (HK.out.setCell (p := ⟨w.heap.size + 1, 1, none⟩) (Nat.le_succ _) (.int .i64 (e : Int)))
  replace HSZ : Hid (w.heap.size + 2 ≤ (w2.setCell ⟨w.heap.size + 1, 1, none⟩ (.int .i64 (e : Int))).heap.size) := by show _ ≤ _; rw [nblk_setCell]; exact HSZ.out
  go_wp2_with fail
  clear cV fV
  generalize w2.setCell ⟨w.heap.size + 1, 1, none⟩ (.int .i64 (e : Int)) = w3 at *
  clear w2
  go_at_call 79
  refine (get_isS b off L cap 7 1 (n : Nat) Nn.out _ (HC.out.kept HK.out) HL.out).mono ?_
  rintro x w' ⟨rfl, hw'⟩
  obtain rfl := Eq.symm hw'
  clear hw'
  have HO0 := hide (World.ownsRow_made (base := w3.heap.size) (e := 5) (size := 1) w3 #[] 0 (Nat.le_refl _) (by decide) rfl)
  have hkE := Keeps.alloc (Keeps.refl w3) (.cells #[] 5)
  have HCE := hide (cells_cut (HC.out.kept (HK.out.trans hkE)) 8 n HX8.out)
  have HRE := hide (HR.out.kept hkE)
  have HVE := hide (HV.out.kept hkE)
  have HKE := hide (HK.out.trans hkE)
  clear hkE
  go_wp2_with (at_builtin
               refine app_bysN rfl (.tmp 34) (.tmp 38) rfl w3.heap.size _ [] (cut L 8 n) rfl (some ⟨b, off + 8, none⟩) (cap - 8) n HXL.out rfl HCE.out (fun e => by cases e) HO0.out (by have := HN.out; rw [HXL.out]; simp; omega) (by simp) ?_
               intro v' wA ho hg
               obtain ⟨ab, cb, hve, hnc, hbo⟩ := Born.of_owns3 (w := w3) (xs := bys (cut L 8 n)) (n := (cut L 8 n).length) (by simpa using ho)
               rw [hve]
               have hrow : ∀ k, Value.ownBlock (.slice (some ⟨w3.heap.size, 0, none⟩) 0 0) = some k → w3.heap.size ≤ k := fun k hk => by simp [Value.ownBlock] at hk; omega
               have HNC := hide hnc
               have HY := hide hbo.toOwn
               have HYN : Hid (∀ x ∈ fp [(ab, bys (cut L 8 n))], x ≠ w.heap.size ∧ x ≠ w.heap.size + 1 ∧ w.heap.size ≤ x) := fun x hx => (by have h1 := hbo.new x hx; have h2 := HSZ.out; omega)
               replace HR := hide (own_grown HRE.out hg (fun x hx e => by have h1 := hrow x e; have h2 := HR.out.mem.lt x hx; omega))
               replace HV := hide (own_grown HVE.out hg (fun x hx e => by have h1 := hrow x e; have h2 := HV.out.mem.lt x hx; omega))
               replace HK := hide (Keeps.grown HKE.out hg (fun k hk => Nat.le_trans HK.out.size (hrow k hk)))
               have cV := own_cellS HV.out 2 (by simp) (v := .slice none 0 0) rfl
               have fV := own_freeS HV.out (by simp) 2
               have e0 := own_cellS HV.out 0 (by simp) (v := .int .i64 (q : Int)) rfl
               have e1 := own_cellS HV.out 1 (by simp) (v := .int .i64 (e : Int)) rfl
               clear ho hg hve hnc hbo hrow)
  clear cV fV e0 e1 HRE HVE HKE HCE HO0
  replace HV : Hid (Own (wA.setCell ⟨w.heap.size + 1, 2, none⟩ (.slice ab (cut L 8 n).length cb)) [(some ⟨w.heap.size + 1, 0, none⟩, [.int .i64 (q : Int), .int .i64 (e : Int), .slice ab (cut L 8 n).length cb])]) := own_set HV.out 2 (by simp) (.slice ab (cut L 8 n).length cb)
  replace HR := hide (own_setB (a := ⟨w.heap.size + 1, 2, none⟩) HR.out (.slice ab (cut L 8 n).length cb) (fp_ne HNV.out.symm))
  replace HY := hide (own_setB (a := ⟨w.heap.size + 1, 2, none⟩) HY.out (.slice ab (cut L 8 n).length cb) (fun x hx => (HYN.out x hx).2.1))
  replace HK := hide (HK.out.setCell (p := ⟨w.heap.size + 1, 2, none⟩) (Nat.le_succ _) (.slice ab (cut L 8 n).length cb))
  generalize wA.setCell ⟨w.heap.size + 1, 2, none⟩ (.slice ab (cut L 8 n).length cb) = wB at *
  clear HSZ
  go_at_call 39
  refine (secbytes_spec q e ab cb (cut L 8 n) wB HY.out.one HNC.out.1 (by have := HN.out; rw [HXL.out]; omega)).mono ?_
  rintro x wC ⟨v, rfl, ho, hk⟩
  rw [HOK.out]
  replace HR := hide (HR.out.kept hk)
  replace HV := hide (HV.out.kept hk)
  have HO := hide ho
  replace HK := hide (HK.out.trans hk)
  replace HY := hide (HY.out.kept hk)
  clear hk ho
  obtain ⟨ax, cx, hve, hcn, hbo⟩ : ∃ (ax : Option Addr) (cx : Nat), v = .slice ax (secR q e (cut L 8 n)).length cx ∧ (∃ bb ob, ax = some ⟨bb, ob, none⟩) ∧ Cells wC ax (bys (secR q e (cut L 8 n))) := by
    obtain ⟨ax, cx, hv, _, _, _, hown, _⟩ := Own.of_owns HO.out
    refine ⟨ax, cx, hv, ?_, hown.one⟩
    have hlen : (secR q e (cut L 8 n)).length = 128 := by unfold secR; rw [if_pos HOK.out, secL_length ((secB_true HOK.out).2.2.2.2)]
    rcases hown.one with h' | ⟨bb, ob, e, _⟩
    · rw [bys_nil] at h'; rw [h'] at hlen; simp at hlen
    · exact ⟨bb, ob, e⟩
  rw [hve]
  clear hve HO v
  obtain ⟨bb, ob, rfl⟩ := hcn
  have s1 := str_of (some ⟨bb, ob, none⟩) cx (secR q e (cut L 8 n)) wC bb ob rfl hbo
  have s2 := str_of (some ⟨b, off, none⟩) cap L wC b off rfl (HC.out.kept HK.out)
  have s3 : ((strL (secR q e (cut L 8 n))).toList == (strL L).toList) = true := by rw [strL_beq]; exact decide_eq_true HEQ.out
  generalize (secR q e (cut L 8 n)) = M at *
  clear hbo
  have c0 := own_cellS HR.out 0 (by simp) (v := .int .i64 0) rfl
  have c1 := own_cellS HR.out 1 (by simp) (v := .int .i64 0) rfl
  have c2 := own_cellS HR.out 2 (by simp) (v := .slice none 0 0) rfl
  have fR := own_freeS HR.out (by simp)
  have HF := hide (own_threeB HR.out (.int .i64 (q : Int)) (.int .i64 (e : Int)) (.slice ab (cut L 8 n).length cb))
  have HK2 := hide (keeps_threeB HK.out (Nat.le_refl w.heap.size) (.int .i64 (q : Int)) (.int .i64 (e : Int)) (.slice ab (cut L 8 n).length cb))
  have HYF := hide (own_threeO HY.out (fun x hx => (HYN.out x hx).1) (.int .i64 (q : Int)) (.int .i64 (e : Int)) (.slice ab (cut L 8 n).length cb))
  have e0 := own_cellS HV.out 0 (by simp) (v := .int .i64 (q : Int)) rfl
  have e1 := own_cellS HV.out 1 (by simp) (v := .int .i64 (e : Int)) rfl
  have e2 := own_cellS HV.out 2 (by simp) (v := .slice ab (cut L 8 n).length cb) rfl
  go_wp2_with fail
  generalize (((wC.setCell ⟨w.heap.size, 0, none⟩ (.int .i64 (q : Int))).setCell ⟨w.heap.size, 1, none⟩ (.int .i64 (e : Int))).setCell ⟨w.heap.size, 2, none⟩ (.slice ab (cut L 8 n).length cb)) = wF at *
  clear c0 c1 c2
  have c0 := own_cellS HF.out 0 (by simp) (v := .int .i64 (q : Int)) rfl
  have c1 := own_cellS HF.out 1 (by simp) (v := .int .i64 (e : Int)) rfl
  have c2 := own_cellS HF.out 2 (by simp) (v := .slice ab (cut L 8 n).length cb) rfl
  refine bodyPost_ret (v := .tuple #[.agg #[.int .i64 (q : Int), .int .i64 (e : Int), .slice ab (cut L 8 n).length cb], .bool true]) ?_ rfl (SrPost.yes HSR.out FQ.out FE.out FN.out HNC.out ⟨HYF.out, fun x hx => (HYN.out x hx).2.2⟩ HK2.out)
  simp [results, Tryz.results42, go_sem, c0, c1, c2]
set_option maxHeartbeats 4000000 in
theorem secspec_b_ok (b off : Nat) (L : List UInt8) (cap : Nat) (w : World) (hc : Cells w (some ⟨b, off, none⟩) (bys L)) (hl : L.length ≤ 16777216) (q e n : Nat) (eq : getV L 1 3 = (q : Nat)) (ee : getV L 4 3 = (e : Nat)) (en : getV L 7 1 = (n : Nat)) (hn : n ≤ 100) (h128 : L.length = 128) (hcap : L.length ≤ cap) (hcm : cap ≤ 9223372036854775807) (hok : secB q e (cut L 8 n).length = false) (hsr : srB L = false) :
    Calls Tryz.prog 42 #[.slice (some ⟨b, off, none⟩) L.length cap] w (SrPost w L) := by
  have hbR := born_alloc w #[.int .i64 0, .int .i64 0, .slice none 0 0] 72
  have hkR := Keeps.alloc (Keeps.refl w) (.cells #[.int .i64 0, .int .i64 0, .slice none 0 0] 72)
  have hbV := born_alloc (w.alloc (.cells #[.int .i64 0, .int .i64 0, .slice none 0 0] 72)) #[.int .i64 0, .int .i64 0, .slice none 0 0] 72
  have hkV := Keeps.alloc (Keeps.refl (w.alloc (.cells #[.int .i64 0, .int .i64 0, .slice none 0 0] 72))) (.cells #[.int .i64 0, .int .i64 0, .slice none 0 0] 72)
  dsimp only at hbR hbV
  rw [World.size_alloc] at hbV
  have HR := hide (hbR.toOwn.kept hkV)
  have HV := hide hbV.toOwn
  have HK := hide (hkR.trans hkV)
  have HSZ : Hid (w.heap.size + 2 ≤ ((w.alloc (.cells #[.int .i64 0, .int .i64 0, .slice none 0 0] 72)).alloc (.cells #[.int .i64 0, .int .i64 0, .slice none 0 0] 72)).heap.size) := by show _ ≤ _; simp
  have HC := hide hc
  have HL := hide hl
  have HOK := hide hok
  have HSR := hide hsr
  have Nq := hide eq
  have Ne := hide ee
  have Nn := hide en
  clear hbR hkR hbV hkV hc hl hok hsr eq ee en
  have h128' : ((L.length : Int) == 128) = true := by rw [h128]; rfl
  have hn2 : (n : Int) ≤ 100 := by omega
  have hn3 : (0 : Int) ≤ (n : Int) := by omega
  have hw8 : IntKind.i64.wrap (8 + (n : Int)) = 8 + (n : Int) := by rw [IntKind.wrap_i64]; omega
  have hs1 : (8 : Int) ≤ 8 + (n : Int) := by omega
  have hs2 : (8 : Int) + (n : Int) ≤ (cap : Int) := by omega
  have hs3 : (8 : Int) < (cap : Int) := by omega
  have hs4 : (8 : Int) ≤ (cap : Int) := by omega
  have hs5 : ((8 : Int) + (n : Int)).toNat - 8 = n := by omega
  have HXL : Hid ((cut L 8 n).length = n) := cut_length (by omega)
  have HX8 : Hid (8 + n ≤ L.length) := by show _ ≤ _; omega
  have HN := hide hn
  clear hn h128 hcap
  have HNV : Hid (w.heap.size + 1 ≠ w.heap.size) := by show _ ≠ _; omega
  go_enter Tryz.func42, Tryz.ntmps42
  go_wp2_with fail
  generalize (w.alloc (.cells #[.int .i64 0, .int .i64 0, .slice none 0 0] 72)).alloc (.cells #[.int .i64 0, .int .i64 0, .slice none 0 0] 72) = w1 at *
  go_at_call 79
  refine (get_isS b off L cap 1 3 (q : Nat) Nq.out _ (HC.out.kept HK.out) HL.out).mono ?_
  rintro x w' ⟨rfl, hw'⟩
  obtain rfl := Eq.symm hw'
  clear hw'
  have cV := own_cellS HV.out 0 (by simp) (v := .int .i64 0) rfl
  have fV := own_freeS HV.out (by simp) 0
  replace HV : Hid (Own (w1.setCell ⟨w.heap.size + 1, 0, none⟩ (.int .i64 (q : Int))) [(some ⟨w.heap.size + 1, 0, none⟩, [.int .i64 (q : Int), .int .i64 0, .slice none 0 0])]) := own_set HV.out 0 (by simp) (.int .i64 (q : Int))
  replace HR := hide (own_setB (a := ⟨w.heap.size + 1, 0, none⟩) HR.out (.int .i64 (q : Int)) (fp_ne HNV.out.symm))
  replace HK := hide (HK.out.setCell (p := ⟨w.heap.size + 1, 0, none⟩) (Nat.le_succ _) (.int .i64 (q : Int)))
  replace HSZ : Hid (w.heap.size + 2 ≤ (w1.setCell ⟨w.heap.size + 1, 0, none⟩ (.int .i64 (q : Int))).heap.size) := by show _ ≤ _; rw [nblk_setCell]; exact HSZ.out
  go_wp2_with fail
  clear cV fV
  generalize w1.setCell ⟨w.heap.size + 1, 0, none⟩ (.int .i64 (q : Int)) = w2 at *
  clear w1
  go_at_call 79
  refine (get_isS b off L cap 4 3 (e : Nat) Ne.out _ (HC.out.kept HK.out) HL.out).mono ?_
  rintro x w' ⟨rfl, hw'⟩
  obtain rfl := Eq.symm hw'
  clear hw'
  have cV := own_cellS HV.out 1 (by simp) (v := .int .i64 0) rfl
  have fV := own_freeS HV.out (by simp) 1
  replace HV : Hid (Own (w2.setCell ⟨w.heap.size + 1, 1, none⟩ (.int .i64 (e : Int))) [(some ⟨w.heap.size + 1, 0, none⟩, [.int .i64 (q : Int), .int .i64 (e : Int), .slice none 0 0])]) := own_set HV.out 1 (by simp) (.int .i64 (e : Int))
  replace HR := hide (own_setB (a := ⟨w.heap.size + 1, 1, none⟩) HR.out (.int .i64 (e : Int)) (fp_ne HNV.out.symm))
  replace HK := hide (HK.out.setCell (p := ⟨w.heap.size + 1, 1, none⟩) (Nat.le_succ _) (.int .i64 (e : Int)))
  replace HSZ : Hid (w.heap.size + 2 ≤ (w2.setCell ⟨w.heap.size + 1, 1, none⟩ (.int .i64 (e : Int))).heap.size) := by show _ ≤ _; rw [nblk_setCell]; exact HSZ.out
  go_wp2_with fail
  clear cV fV
  generalize w2.setCell ⟨w.heap.size + 1, 1, none⟩ (.int .i64 (e : Int)) = w3 at *
  clear w2
  go_at_call 79
  refine (get_isS b off L cap 7 1 (n : Nat) Nn.out _ (HC.out.kept HK.out) HL.out).mono ?_
  rintro x w' ⟨rfl, hw'⟩
  obtain rfl := Eq.symm hw'
  clear hw'
  have HO0 := hide (World.ownsRow_made (base := w3.heap.size) (e := 5) (size := 1) w3 #[] 0 (Nat.le_refl _) (by decide) rfl)
  have hkE := Keeps.alloc (Keeps.refl w3) (.cells #[] 5)
  have HCE := hide (cells_cut (HC.out.kept (HK.out.trans hkE)) 8 n HX8.out)
  have HRE := hide (HR.out.kept hkE)
  have HVE := hide (HV.out.kept hkE)
  have HKE := hide (HK.out.trans hkE)
  clear hkE
  go_wp2_with (at_builtin
               refine app_bysN rfl (.tmp 34) (.tmp 38) rfl w3.heap.size _ [] (cut L 8 n) rfl (some ⟨b, off + 8, none⟩) (cap - 8) n HXL.out rfl HCE.out (fun e => by cases e) HO0.out (by have := HN.out; rw [HXL.out]; simp; omega) (by simp) ?_
               intro v' wA ho hg
               obtain ⟨ab, cb, hve, hnc, hbo⟩ := Born.of_owns3 (w := w3) (xs := bys (cut L 8 n)) (n := (cut L 8 n).length) (by simpa using ho)
               rw [hve]
               have hrow : ∀ k, Value.ownBlock (.slice (some ⟨w3.heap.size, 0, none⟩) 0 0) = some k → w3.heap.size ≤ k := fun k hk => by simp [Value.ownBlock] at hk; omega
               have HNC := hide hnc
               have HY := hide hbo.toOwn
               have HYN : Hid (∀ x ∈ fp [(ab, bys (cut L 8 n))], x ≠ w.heap.size ∧ x ≠ w.heap.size + 1 ∧ w.heap.size ≤ x) := fun x hx => (by have h1 := hbo.new x hx; have h2 := HSZ.out; omega)
               replace HR := hide (own_grown HRE.out hg (fun x hx e => by have h1 := hrow x e; have h2 := HR.out.mem.lt x hx; omega))
               replace HV := hide (own_grown HVE.out hg (fun x hx e => by have h1 := hrow x e; have h2 := HV.out.mem.lt x hx; omega))
               replace HK := hide (Keeps.grown HKE.out hg (fun k hk => Nat.le_trans HK.out.size (hrow k hk)))
               have cV := own_cellS HV.out 2 (by simp) (v := .slice none 0 0) rfl
               have fV := own_freeS HV.out (by simp) 2
               have e0 := own_cellS HV.out 0 (by simp) (v := .int .i64 (q : Int)) rfl
               have e1 := own_cellS HV.out 1 (by simp) (v := .int .i64 (e : Int)) rfl
               clear ho hg hve hnc hbo hrow)
  clear cV fV e0 e1 HRE HVE HKE HCE HO0
  replace HV : Hid (Own (wA.setCell ⟨w.heap.size + 1, 2, none⟩ (.slice ab (cut L 8 n).length cb)) [(some ⟨w.heap.size + 1, 0, none⟩, [.int .i64 (q : Int), .int .i64 (e : Int), .slice ab (cut L 8 n).length cb])]) := own_set HV.out 2 (by simp) (.slice ab (cut L 8 n).length cb)
  replace HR := hide (own_setB (a := ⟨w.heap.size + 1, 2, none⟩) HR.out (.slice ab (cut L 8 n).length cb) (fp_ne HNV.out.symm))
  replace HY := hide (own_setB (a := ⟨w.heap.size + 1, 2, none⟩) HY.out (.slice ab (cut L 8 n).length cb) (fun x hx => (HYN.out x hx).2.1))
  replace HK := hide (HK.out.setCell (p := ⟨w.heap.size + 1, 2, none⟩) (Nat.le_succ _) (.slice ab (cut L 8 n).length cb))
  generalize wA.setCell ⟨w.heap.size + 1, 2, none⟩ (.slice ab (cut L 8 n).length cb) = wB at *
  clear HSZ
  go_at_call 39
  refine (secbytes_spec q e ab cb (cut L 8 n) wB HY.out.one HNC.out.1 (by have := HN.out; rw [HXL.out]; omega)).mono ?_
  rintro x wC ⟨v, rfl, ho, hk⟩
  rw [HOK.out]
  replace HR := hide (HR.out.kept hk)
  replace HV := hide (HV.out.kept hk)
  have HO := hide ho
  replace HK := hide (HK.out.trans hk)
  replace HY := hide (HY.out.kept hk)
  clear hk ho
  have c0 := own_cellS HR.out 0 (by simp) (v := .int .i64 0) rfl
  have c1 := own_cellS HR.out 1 (by simp) (v := .int .i64 0) rfl
  have c2 := own_cellS HR.out 2 (by simp) (v := .slice none 0 0) rfl
  have fR := own_freeS HR.out (by simp)
  have HF := hide (own_threeB HR.out (.int .i64 0) (.int .i64 0) (.slice none 0 0))
  have HK2 := hide (keeps_threeB HK.out (Nat.le_refl w.heap.size) (.int .i64 0) (.int .i64 0) (.slice none 0 0))
  go_wp2_with fail
  generalize (((wC.setCell ⟨w.heap.size, 0, none⟩ (.int .i64 0)).setCell ⟨w.heap.size, 1, none⟩ (.int .i64 0)).setCell ⟨w.heap.size, 2, none⟩ (.slice none 0 0)) = wF at *
  clear c0 c1 c2
  have c0 := own_cellS HF.out 0 (by simp) (v := .int .i64 0) rfl
  have c1 := own_cellS HF.out 1 (by simp) (v := .int .i64 0) rfl
  have c2 := own_cellS HF.out 2 (by simp) (v := .slice none 0 0) rfl
  refine bodyPost_ret (v := .tuple #[.agg #[.int .i64 0, .int .i64 0, .slice none 0 0], .bool false]) ?_ rfl (SrPost.no HSR.out HK2.out)
  simp [results, Tryz.results42, go_sem, c0, c1, c2]
set_option maxHeartbeats 4000000 in
theorem secspec_b_ne (b off : Nat) (L : List UInt8) (cap : Nat) (w : World) (hc : Cells w (some ⟨b, off, none⟩) (bys L)) (hl : L.length ≤ 16777216) (q e n : Nat) (eq : getV L 1 3 = (q : Nat)) (ee : getV L 4 3 = (e : Nat)) (en : getV L 7 1 = (n : Nat)) (hn : n ≤ 100) (h128 : L.length = 128) (hcap : L.length ≤ cap) (hcm : cap ≤ 9223372036854775807) (hok : secB q e (cut L 8 n).length = true) (heq : secR q e (cut L 8 n) ≠ L) (hsr : srB L = false) :
    Calls Tryz.prog 42 #[.slice (some ⟨b, off, none⟩) L.length cap] w (SrPost w L) := by
  have hbR := born_alloc w #[.int .i64 0, .int .i64 0, .slice none 0 0] 72
  have hkR := Keeps.alloc (Keeps.refl w) (.cells #[.int .i64 0, .int .i64 0, .slice none 0 0] 72)
  have hbV := born_alloc (w.alloc (.cells #[.int .i64 0, .int .i64 0, .slice none 0 0] 72)) #[.int .i64 0, .int .i64 0, .slice none 0 0] 72
  have hkV := Keeps.alloc (Keeps.refl (w.alloc (.cells #[.int .i64 0, .int .i64 0, .slice none 0 0] 72))) (.cells #[.int .i64 0, .int .i64 0, .slice none 0 0] 72)
  dsimp only at hbR hbV
  rw [World.size_alloc] at hbV
  have HR := hide (hbR.toOwn.kept hkV)
  have HV := hide hbV.toOwn
  have HK := hide (hkR.trans hkV)
  have HSZ : Hid (w.heap.size + 2 ≤ ((w.alloc (.cells #[.int .i64 0, .int .i64 0, .slice none 0 0] 72)).alloc (.cells #[.int .i64 0, .int .i64 0, .slice none 0 0] 72)).heap.size) := by show _ ≤ _; simp
  have HC := hide hc
  have HL := hide hl
  have HOK := hide hok
  have HSR := hide hsr
  have Nq := hide eq
  have Ne := hide ee
  have Nn := hide en
  clear hbR hkR hbV hkV hc hl hok hsr eq ee en
  have HEQ := hide heq
  clear heq
  have h128' : ((L.length : Int) == 128) = true := by rw [h128]; rfl
  have hn2 : (n : Int) ≤ 100 := by omega
  have hn3 : (0 : Int) ≤ (n : Int) := by omega
  have hw8 : IntKind.i64.wrap (8 + (n : Int)) = 8 + (n : Int) := by rw [IntKind.wrap_i64]; omega
  have hs1 : (8 : Int) ≤ 8 + (n : Int) := by omega
  have hs2 : (8 : Int) + (n : Int) ≤ (cap : Int) := by omega
  have hs3 : (8 : Int) < (cap : Int) := by omega
  have hs4 : (8 : Int) ≤ (cap : Int) := by omega
  have hs5 : ((8 : Int) + (n : Int)).toNat - 8 = n := by omega
  have HXL : Hid ((cut L 8 n).length = n) := cut_length (by omega)
  have HX8 : Hid (8 + n ≤ L.length) := by show _ ≤ _; omega
  have HN := hide hn
  clear hn h128 hcap
  have HNV : Hid (w.heap.size + 1 ≠ w.heap.size) := by show _ ≠ _; omega
  go_enter Tryz.func42, Tryz.ntmps42
  go_wp2_with fail
  generalize (w.alloc (.cells #[.int .i64 0, .int .i64 0, .slice none 0 0] 72)).alloc (.cells #[.int .i64 0, .int .i64 0, .slice none 0 0] 72) = w1 at *
  go_at_call 79
  refine (get_isS b off L cap 1 3 (q : Nat) Nq.out _ (HC.out.kept HK.out) HL.out).mono ?_
  rintro x w' ⟨rfl, hw'⟩
  obtain rfl := Eq.symm hw'
  clear hw'
  have cV := own_cellS HV.out 0 (by simp) (v := .int .i64 0) rfl
  have fV := own_freeS HV.out (by simp) 0
  replace HV : Hid (Own (w1.setCell ⟨w.heap.size + 1, 0, none⟩ (.int .i64 (q : Int))) [(some ⟨w.heap.size + 1, 0, none⟩, [.int .i64 (q : Int), .int .i64 0, .slice none 0 0])]) := own_set HV.out 0 (by simp) (.int .i64 (q : Int))
  replace HR := hide (own_setB (a := ⟨w.heap.size + 1, 0, none⟩) HR.out (.int .i64 (q : Int)) (fp_ne HNV.out.symm))
  replace HK := hide (HK.out.setCell (p := ⟨w.heap.size + 1, 0, none⟩) (Nat.le_succ _) (.int .i64 (q : Int)))
  replace HSZ : Hid (w.heap.size + 2 ≤ (w1.setCell ⟨w.heap.size + 1, 0, none⟩ (.int .i64 (q : Int))).heap.size) := by show _ ≤ _; rw [nblk_setCell]; exact HSZ.out
  go_wp2_with fail
  clear cV fV
  generalize w1.setCell ⟨w.heap.size + 1, 0, none⟩ (.int .i64 (q : Int)) = w2 at *
  clear w1
  go_at_call 79
  refine (get_isS b off L cap 4 3 (e : Nat) Ne.out _ (HC.out.kept HK.out) HL.out).mono ?_
  rintro x w' ⟨rfl, hw'⟩
  obtain rfl := Eq.symm hw'
  clear hw'
  have cV := own_cellS HV.out 1 (by simp) (v := .int .i64 0) rfl
  have fV := own_freeS HV.out (by simp) 1
  replace HV : Hid (Own (w2.setCell ⟨w.heap.size + 1, 1, none⟩ (.int .i64 (e : Int))) [(some ⟨w.heap.size + 1, 0, none⟩, [.int .i64 (q : Int), .int .i64 (e : Int), .slice none 0 0])]) := own_set HV.out 1 (by simp) (.int .i64 (e : Int))
  replace HR := hide (own_setB (a := ⟨w.heap.size + 1, 1, none⟩) HR.out (.int .i64 (e : Int)) (fp_ne HNV.out.symm))
  replace HK := hide (HK.out.setCell (p := ⟨w.heap.size + 1, 1, none⟩) (Nat.le_succ _) (.int .i64 (e : Int)))
  replace HSZ : Hid (w.heap.size + 2 ≤ (w2.setCell ⟨w.heap.size + 1, 1, none⟩ (.int .i64 (e : Int))).heap.size) := by show _ ≤ _; rw [nblk_setCell]; exact HSZ.out
  go_wp2_with fail
  clear cV fV
  generalize w2.setCell ⟨w.heap.size + 1, 1, none⟩ (.int .i64 (e : Int)) = w3 at *
  clear w2
  go_at_call 79
  refine (get_isS b off L cap 7 1 (n : Nat) Nn.out _ (HC.out.kept HK.out) HL.out).mono ?_
  rintro x w' ⟨rfl, hw'⟩
  obtain rfl := Eq.symm hw'
  clear hw'
  have HO0 := hide (World.ownsRow_made (base := w3.heap.size) (e := 5) (size := 1) w3 #[] 0 (Nat.le_refl _) (by decide) rfl)
  have hkE := Keeps.alloc (Keeps.refl w3) (.cells #[] 5)
  have HCE := hide (cells_cut (HC.out.kept (HK.out.trans hkE)) 8 n HX8.out)
  have HRE := hide (HR.out.kept hkE)
  have HVE := hide (HV.out.kept hkE)
  have HKE := hide (HK.out.trans hkE)
  clear hkE
  go_wp2_with (at_builtin
               refine app_bysN rfl (.tmp 34) (.tmp 38) rfl w3.heap.size _ [] (cut L 8 n) rfl (some ⟨b, off + 8, none⟩) (cap - 8) n HXL.out rfl HCE.out (fun e => by cases e) HO0.out (by have := HN.out; rw [HXL.out]; simp; omega) (by simp) ?_
               intro v' wA ho hg
               obtain ⟨ab, cb, hve, hnc, hbo⟩ := Born.of_owns3 (w := w3) (xs := bys (cut L 8 n)) (n := (cut L 8 n).length) (by simpa using ho)
               rw [hve]
               have hrow : ∀ k, Value.ownBlock (.slice (some ⟨w3.heap.size, 0, none⟩) 0 0) = some k → w3.heap.size ≤ k := fun k hk => by simp [Value.ownBlock] at hk; omega
               have HNC := hide hnc
               have HY := hide hbo.toOwn
               have HYN : Hid (∀ x ∈ fp [(ab, bys (cut L 8 n))], x ≠ w.heap.size ∧ x ≠ w.heap.size + 1 ∧ w.heap.size ≤ x) := fun x hx => (by have h1 := hbo.new x hx; have h2 := HSZ.out; omega)
               replace HR := hide (own_grown HRE.out hg (fun x hx e => by have h1 := hrow x e; have h2 := HR.out.mem.lt x hx; omega))
               replace HV := hide (own_grown HVE.out hg (fun x hx e => by have h1 := hrow x e; have h2 := HV.out.mem.lt x hx; omega))
               replace HK := hide (Keeps.grown HKE.out hg (fun k hk => Nat.le_trans HK.out.size (hrow k hk)))
               have cV := own_cellS HV.out 2 (by simp) (v := .slice none 0 0) rfl
               have fV := own_freeS HV.out (by simp) 2
               have e0 := own_cellS HV.out 0 (by simp) (v := .int .i64 (q : Int)) rfl
               have e1 := own_cellS HV.out 1 (by simp) (v := .int .i64 (e : Int)) rfl
               clear ho hg hve hnc hbo hrow)
  clear cV fV e0 e1 HRE HVE HKE HCE HO0
  replace HV : Hid (Own (wA.setCell ⟨w.heap.size + 1, 2, none⟩ (.slice ab (cut L 8 n).length cb)) [(some ⟨w.heap.size + 1, 0, none⟩, [.int .i64 (q : Int), .int .i64 (e : Int), .slice ab (cut L 8 n).length cb])]) := own_set HV.out 2 (by simp) (.slice ab (cut L 8 n).length cb)
  replace HR := hide (own_setB (a := ⟨w.heap.size + 1, 2, none⟩) HR.out (.slice ab (cut L 8 n).length cb) (fp_ne HNV.out.symm))
  replace HY := hide (own_setB (a := ⟨w.heap.size + 1, 2, none⟩) HY.out (.slice ab (cut L 8 n).length cb) (fun x hx => (HYN.out x hx).2.1))
  replace HK := hide (HK.out.setCell (p := ⟨w.heap.size + 1, 2, none⟩) (Nat.le_succ _) (.slice ab (cut L 8 n).length cb))
  generalize wA.setCell ⟨w.heap.size + 1, 2, none⟩ (.slice ab (cut L 8 n).length cb) = wB at *
  clear HSZ
  go_at_call 39
  refine (secbytes_spec q e ab cb (cut L 8 n) wB HY.out.one HNC.out.1 (by have := HN.out; rw [HXL.out]; omega)).mono ?_
  rintro x wC ⟨v, rfl, ho, hk⟩
  rw [HOK.out]
  replace HR := hide (HR.out.kept hk)
  replace HV := hide (HV.out.kept hk)
  have HO := hide ho
  replace HK := hide (HK.out.trans hk)
  replace HY := hide (HY.out.kept hk)
  clear hk ho
  obtain ⟨ax, cx, hve, hcn, hbo⟩ : ∃ (ax : Option Addr) (cx : Nat), v = .slice ax (secR q e (cut L 8 n)).length cx ∧ (∃ bb ob, ax = some ⟨bb, ob, none⟩) ∧ Cells wC ax (bys (secR q e (cut L 8 n))) := by
    obtain ⟨ax, cx, hv, _, _, _, hown, _⟩ := Own.of_owns HO.out
    refine ⟨ax, cx, hv, ?_, hown.one⟩
    have hlen : (secR q e (cut L 8 n)).length = 128 := by unfold secR; rw [if_pos HOK.out, secL_length ((secB_true HOK.out).2.2.2.2)]
    rcases hown.one with h' | ⟨bb, ob, e, _⟩
    · rw [bys_nil] at h'; rw [h'] at hlen; simp at hlen
    · exact ⟨bb, ob, e⟩
  rw [hve]
  clear hve HO v
  obtain ⟨bb, ob, rfl⟩ := hcn
  have s1 := str_of (some ⟨bb, ob, none⟩) cx (secR q e (cut L 8 n)) wC bb ob rfl hbo
  have s2 := str_of (some ⟨b, off, none⟩) cap L wC b off rfl (HC.out.kept HK.out)
  have s3 : ((strL (secR q e (cut L 8 n))).toList == (strL L).toList) = false := by rw [strL_beq]; exact decide_eq_false HEQ.out
  generalize (secR q e (cut L 8 n)) = M at *
  clear hbo
  have c0 := own_cellS HR.out 0 (by simp) (v := .int .i64 0) rfl
  have c1 := own_cellS HR.out 1 (by simp) (v := .int .i64 0) rfl
  have c2 := own_cellS HR.out 2 (by simp) (v := .slice none 0 0) rfl
  have fR := own_freeS HR.out (by simp)
  have HF := hide (own_threeB HR.out (.int .i64 0) (.int .i64 0) (.slice none 0 0))
  have HK2 := hide (keeps_threeB HK.out (Nat.le_refl w.heap.size) (.int .i64 0) (.int .i64 0) (.slice none 0 0))
  go_wp2_with fail
  generalize (((wC.setCell ⟨w.heap.size, 0, none⟩ (.int .i64 0)).setCell ⟨w.heap.size, 1, none⟩ (.int .i64 0)).setCell ⟨w.heap.size, 2, none⟩ (.slice none 0 0)) = wF at *
  clear c0 c1 c2
  have c0 := own_cellS HF.out 0 (by simp) (v := .int .i64 0) rfl
  have c1 := own_cellS HF.out 1 (by simp) (v := .int .i64 0) rfl
  have c2 := own_cellS HF.out 2 (by simp) (v := .slice none 0 0) rfl
  refine bodyPost_ret (v := .tuple #[.agg #[.int .i64 0, .int .i64 0, .slice none 0 0], .bool false]) ?_ rfl (SrPost.no HSR.out HK2.out)
  simp [results, Tryz.results42, go_sem, c0, c1, c2]
set_option maxHeartbeats 4000000 in
theorem secspec_n_ok (b off : Nat) (L : List UInt8) (cap : Nat) (w : World) (hc : Cells w (some ⟨b, off, none⟩) (bys L)) (hl : L.length ≤ 16777216) (q e n : Nat) (eq : getV L 1 3 = (q : Nat)) (ee : getV L 4 3 = (e : Nat)) (en : getV L 7 1 = (n : Nat)) (hb : ¬ (n ≤ 100 ∧ L.length = 128)) (hok : secB q e (([] : List UInt8)).length = false) (hsr : srB L = false) :
    Calls Tryz.prog 42 #[.slice (some ⟨b, off, none⟩) L.length cap] w (SrPost w L) := by
  have hbR := born_alloc w #[.int .i64 0, .int .i64 0, .slice none 0 0] 72
  have hkR := Keeps.alloc (Keeps.refl w) (.cells #[.int .i64 0, .int .i64 0, .slice none 0 0] 72)
  have hbV := born_alloc (w.alloc (.cells #[.int .i64 0, .int .i64 0, .slice none 0 0] 72)) #[.int .i64 0, .int .i64 0, .slice none 0 0] 72
  have hkV := Keeps.alloc (Keeps.refl (w.alloc (.cells #[.int .i64 0, .int .i64 0, .slice none 0 0] 72))) (.cells #[.int .i64 0, .int .i64 0, .slice none 0 0] 72)
  dsimp only at hbR hbV
  rw [World.size_alloc] at hbV
  have HR := hide (hbR.toOwn.kept hkV)
  have HV := hide hbV.toOwn
  have HK := hide (hkR.trans hkV)
  have HSZ : Hid (w.heap.size + 2 ≤ ((w.alloc (.cells #[.int .i64 0, .int .i64 0, .slice none 0 0] 72)).alloc (.cells #[.int .i64 0, .int .i64 0, .slice none 0 0] 72)).heap.size) := by show _ ≤ _; simp
  have HC := hide hc
  have HL := hide hl
  have HOK := hide hok
  have HSR := hide hsr
  have Nq := hide eq
  have Ne := hide ee
  have Nn := hide en
  clear hbR hkR hbV hkV hc hl hok hsr eq ee en
  have hb2 : (decide ((n : Int) ≤ 100) && ((L.length : Int) == 128)) = false := by
    rw [Bool.eq_false_iff]
    intro h
    simp only [Bool.and_eq_true, decide_eq_true_eq, beq_iff_eq] at h
    exact hb ⟨by omega, by omega⟩
  by_cases hn2 : (n : Int) ≤ 100
  case' pos => have hb3 : ((L.length : Int) == 128) = false := by rw [decide_eq_true hn2, Bool.true_and] at hb2; exact hb2
  case' neg => have hb3 : decide ((n : Int) ≤ 100) = false := decide_eq_false hn2
  all_goals clear hb2 hb
  all_goals
    have HNV : Hid (w.heap.size + 1 ≠ w.heap.size) := by show _ ≠ _; omega
    go_enter Tryz.func42, Tryz.ntmps42
    go_wp2_with fail
    generalize (w.alloc (.cells #[.int .i64 0, .int .i64 0, .slice none 0 0] 72)).alloc (.cells #[.int .i64 0, .int .i64 0, .slice none 0 0] 72) = w1 at *
    go_at_call 79
    refine (get_isS b off L cap 1 3 (q : Nat) Nq.out _ (HC.out.kept HK.out) HL.out).mono ?_
    rintro x w' ⟨rfl, hw'⟩
    obtain rfl := Eq.symm hw'
    clear hw'
    have cV := own_cellS HV.out 0 (by simp) (v := .int .i64 0) rfl
    have fV := own_freeS HV.out (by simp) 0
    replace HV : Hid (Own (w1.setCell ⟨w.heap.size + 1, 0, none⟩ (.int .i64 (q : Int))) [(some ⟨w.heap.size + 1, 0, none⟩, [.int .i64 (q : Int), .int .i64 0, .slice none 0 0])]) := own_set HV.out 0 (by simp) (.int .i64 (q : Int))
    replace HR := hide (own_setB (a := ⟨w.heap.size + 1, 0, none⟩) HR.out (.int .i64 (q : Int)) (fp_ne HNV.out.symm))
    replace HK := hide (HK.out.setCell (p := ⟨w.heap.size + 1, 0, none⟩) (Nat.le_succ _) (.int .i64 (q : Int)))
    replace HSZ : Hid (w.heap.size + 2 ≤ (w1.setCell ⟨w.heap.size + 1, 0, none⟩ (.int .i64 (q : Int))).heap.size) := by show _ ≤ _; rw [nblk_setCell]; exact HSZ.out
    go_wp2_with fail
    clear cV fV
    generalize w1.setCell ⟨w.heap.size + 1, 0, none⟩ (.int .i64 (q : Int)) = w2 at *
    clear w1
    go_at_call 79
    refine (get_isS b off L cap 4 3 (e : Nat) Ne.out _ (HC.out.kept HK.out) HL.out).mono ?_
    rintro x w' ⟨rfl, hw'⟩
    obtain rfl := Eq.symm hw'
    clear hw'
    have cV := own_cellS HV.out 1 (by simp) (v := .int .i64 0) rfl
    have fV := own_freeS HV.out (by simp) 1
    replace HV : Hid (Own (w2.setCell ⟨w.heap.size + 1, 1, none⟩ (.int .i64 (e : Int))) [(some ⟨w.heap.size + 1, 0, none⟩, [.int .i64 (q : Int), .int .i64 (e : Int), .slice none 0 0])]) := own_set HV.out 1 (by simp) (.int .i64 (e : Int))
    replace HR := hide (own_setB (a := ⟨w.heap.size + 1, 1, none⟩) HR.out (.int .i64 (e : Int)) (fp_ne HNV.out.symm))
    replace HK := hide (HK.out.setCell (p := ⟨w.heap.size + 1, 1, none⟩) (Nat.le_succ _) (.int .i64 (e : Int)))
    replace HSZ : Hid (w.heap.size + 2 ≤ (w2.setCell ⟨w.heap.size + 1, 1, none⟩ (.int .i64 (e : Int))).heap.size) := by show _ ≤ _; rw [nblk_setCell]; exact HSZ.out
    go_wp2_with fail
    clear cV fV
    generalize w2.setCell ⟨w.heap.size + 1, 1, none⟩ (.int .i64 (e : Int)) = w3 at *
    clear w2
    go_at_call 79
    refine (get_isS b off L cap 7 1 (n : Nat) Nn.out _ (HC.out.kept HK.out) HL.out).mono ?_
    rintro x w' ⟨rfl, hw'⟩
    obtain rfl := Eq.symm hw'
    clear hw'
    have e0 := own_cellS HV.out 0 (by simp) (v := .int .i64 (q : Int)) rfl
    have e1 := own_cellS HV.out 1 (by simp) (v := .int .i64 (e : Int)) rfl
    have e2 := own_cellS HV.out 2 (by simp) (v := .slice none 0 0) rfl
    go_wp2_with fail
    clear e0 e1 e2 HSZ
    go_at_call 39
    refine (secbytes_spec q e none 0 [] w3 (Cells.nil _ _) (fun _ => rfl) (by simp)).mono ?_
    rintro x wC ⟨v, rfl, ho, hk⟩
    rw [HOK.out]
    replace HR := hide (HR.out.kept hk)
    replace HV := hide (HV.out.kept hk)
    have HO := hide ho
    replace HK := hide (HK.out.trans hk)
    clear hk ho
    have c0 := own_cellS HR.out 0 (by simp) (v := .int .i64 0) rfl
    have c1 := own_cellS HR.out 1 (by simp) (v := .int .i64 0) rfl
    have c2 := own_cellS HR.out 2 (by simp) (v := .slice none 0 0) rfl
    have fR := own_freeS HR.out (by simp)
    have HF := hide (own_threeB HR.out (.int .i64 0) (.int .i64 0) (.slice none 0 0))
    have HK2 := hide (keeps_threeB HK.out (Nat.le_refl w.heap.size) (.int .i64 0) (.int .i64 0) (.slice none 0 0))
    go_wp2_with fail
    generalize (((wC.setCell ⟨w.heap.size, 0, none⟩ (.int .i64 0)).setCell ⟨w.heap.size, 1, none⟩ (.int .i64 0)).setCell ⟨w.heap.size, 2, none⟩ (.slice none 0 0)) = wF at *
    clear c0 c1 c2
    have c0 := own_cellS HF.out 0 (by simp) (v := .int .i64 0) rfl
    have c1 := own_cellS HF.out 1 (by simp) (v := .int .i64 0) rfl
    have c2 := own_cellS HF.out 2 (by simp) (v := .slice none 0 0) rfl
    refine bodyPost_ret (v := .tuple #[.agg #[.int .i64 0, .int .i64 0, .slice none 0 0], .bool false]) ?_ rfl (SrPost.no HSR.out HK2.out)
    simp [results, Tryz.results42, go_sem, c0, c1, c2]
set_option maxHeartbeats 4000000 in
theorem secspec_n_ne (b off : Nat) (L : List UInt8) (cap : Nat) (w : World) (hc : Cells w (some ⟨b, off, none⟩) (bys L)) (hl : L.length ≤ 16777216) (q e n : Nat) (eq : getV L 1 3 = (q : Nat)) (ee : getV L 4 3 = (e : Nat)) (en : getV L 7 1 = (n : Nat)) (hb : ¬ (n ≤ 100 ∧ L.length = 128)) (hok : secB q e (([] : List UInt8)).length = true) (heq : secR q e (([] : List UInt8)) ≠ L) (hsr : srB L = false) :
    Calls Tryz.prog 42 #[.slice (some ⟨b, off, none⟩) L.length cap] w (SrPost w L) := by
  have hbR := born_alloc w #[.int .i64 0, .int .i64 0, .slice none 0 0] 72
  have hkR := Keeps.alloc (Keeps.refl w) (.cells #[.int .i64 0, .int .i64 0, .slice none 0 0] 72)
  have hbV := born_alloc (w.alloc (.cells #[.int .i64 0, .int .i64 0, .slice none 0 0] 72)) #[.int .i64 0, .int .i64 0, .slice none 0 0] 72
  have hkV := Keeps.alloc (Keeps.refl (w.alloc (.cells #[.int .i64 0, .int .i64 0, .slice none 0 0] 72))) (.cells #[.int .i64 0, .int .i64 0, .slice none 0 0] 72)
  dsimp only at hbR hbV
  rw [World.size_alloc] at hbV
  have HR := hide (hbR.toOwn.kept hkV)
  have HV := hide hbV.toOwn
  have HK := hide (hkR.trans hkV)
  have HSZ : Hid (w.heap.size + 2 ≤ ((w.alloc (.cells #[.int .i64 0, .int .i64 0, .slice none 0 0] 72)).alloc (.cells #[.int .i64 0, .int .i64 0, .slice none 0 0] 72)).heap.size) := by show _ ≤ _; simp
  have HC := hide hc
  have HL := hide hl
  have HOK := hide hok
  have HSR := hide hsr
  have Nq := hide eq
  have Ne := hide ee
  have Nn := hide en
  clear hbR hkR hbV hkV hc hl hok hsr eq ee en
  have HEQ := hide heq
  clear heq
  have hb2 : (decide ((n : Int) ≤ 100) && ((L.length : Int) == 128)) = false := by
    rw [Bool.eq_false_iff]
    intro h
    simp only [Bool.and_eq_true, decide_eq_true_eq, beq_iff_eq] at h
    exact hb ⟨by omega, by omega⟩
  by_cases hn2 : (n : Int) ≤ 100
  case' pos => have hb3 : ((L.length : Int) == 128) = false := by rw [decide_eq_true hn2, Bool.true_and] at hb2; exact hb2
  case' neg => have hb3 : decide ((n : Int) ≤ 100) = false := decide_eq_false hn2
  all_goals clear hb2 hb
  all_goals
    have HNV : Hid (w.heap.size + 1 ≠ w.heap.size) := by show _ ≠ _; omega
    go_enter Tryz.func42, Tryz.ntmps42
    go_wp2_with fail
    generalize (w.alloc (.cells #[.int .i64 0, .int .i64 0, .slice none 0 0] 72)).alloc (.cells #[.int .i64 0, .int .i64 0, .slice none 0 0] 72) = w1 at *
    go_at_call 79
    refine (get_isS b off L cap 1 3 (q : Nat) Nq.out _ (HC.out.kept HK.out) HL.out).mono ?_
    rintro x w' ⟨rfl, hw'⟩
    obtain rfl := Eq.symm hw'
    clear hw'
    have cV := own_cellS HV.out 0 (by simp) (v := .int .i64 0) rfl
    have fV := own_freeS HV.out (by simp) 0
    replace HV : Hid (Own (w1.setCell ⟨w.heap.size + 1, 0, none⟩ (.int .i64 (q : Int))) [(some ⟨w.heap.size + 1, 0, none⟩, [.int .i64 (q : Int), .int .i64 0, .slice none 0 0])]) := own_set HV.out 0 (by simp) (.int .i64 (q : Int))
    replace HR := hide (own_setB (a := ⟨w.heap.size + 1, 0, none⟩) HR.out (.int .i64 (q : Int)) (fp_ne HNV.out.symm))
    replace HK := hide (HK.out.setCell (p := ⟨w.heap.size + 1, 0, none⟩) (Nat.le_succ _) (.int .i64 (q : Int)))
    replace HSZ : Hid (w.heap.size + 2 ≤ (w1.setCell ⟨w.heap.size + 1, 0, none⟩ (.int .i64 (q : Int))).heap.size) := by show _ ≤ _; rw [nblk_setCell]; exact HSZ.out
    go_wp2_with fail
    clear cV fV
    generalize w1.setCell ⟨w.heap.size + 1, 0, none⟩ (.int .i64 (q : Int)) = w2 at *
    clear w1
    go_at_call 79
    refine (get_isS b off L cap 4 3 (e : Nat) Ne.out _ (HC.out.kept HK.out) HL.out).mono ?_
    rintro x w' ⟨rfl, hw'⟩
    obtain rfl := Eq.symm hw'
    clear hw'
    have cV := own_cellS HV.out 1 (by simp) (v := .int .i64 0) rfl
    have fV := own_freeS HV.out (by simp) 1
    replace HV : Hid (Own (w2.setCell ⟨w.heap.size + 1, 1, none⟩ (.int .i64 (e : Int))) [(some ⟨w.heap.size + 1, 0, none⟩, [.int .i64 (q : Int), .int .i64 (e : Int), .slice none 0 0])]) := own_set HV.out 1 (by simp) (.int .i64 (e : Int))
    replace HR := hide (own_setB (a := ⟨w.heap.size + 1, 1, none⟩) HR.out (.int .i64 (e : Int)) (fp_ne HNV.out.symm))
    replace HK := hide (HK.out.setCell (p := ⟨w.heap.size + 1, 1, none⟩) (Nat.le_succ _) (.int .i64 (e : Int)))
    replace HSZ : Hid (w.heap.size + 2 ≤ (w2.setCell ⟨w.heap.size + 1, 1, none⟩ (.int .i64 (e : Int))).heap.size) := by show _ ≤ _; rw [nblk_setCell]; exact HSZ.out
    go_wp2_with fail
    clear cV fV
    generalize w2.setCell ⟨w.heap.size + 1, 1, none⟩ (.int .i64 (e : Int)) = w3 at *
    clear w2
    go_at_call 79
    refine (get_isS b off L cap 7 1 (n : Nat) Nn.out _ (HC.out.kept HK.out) HL.out).mono ?_
    rintro x w' ⟨rfl, hw'⟩
    obtain rfl := Eq.symm hw'
    clear hw'
    have e0 := own_cellS HV.out 0 (by simp) (v := .int .i64 (q : Int)) rfl
    have e1 := own_cellS HV.out 1 (by simp) (v := .int .i64 (e : Int)) rfl
    have e2 := own_cellS HV.out 2 (by simp) (v := .slice none 0 0) rfl
    go_wp2_with fail
    clear e0 e1 e2 HSZ
    go_at_call 39
    refine (secbytes_spec q e none 0 [] w3 (Cells.nil _ _) (fun _ => rfl) (by simp)).mono ?_
    rintro x wC ⟨v, rfl, ho, hk⟩
    rw [HOK.out]
    replace HR := hide (HR.out.kept hk)
    replace HV := hide (HV.out.kept hk)
    have HO := hide ho
    replace HK := hide (HK.out.trans hk)
    clear hk ho
    obtain ⟨ax, cx, hve, hcn, hbo⟩ : ∃ (ax : Option Addr) (cx : Nat), v = .slice ax (secR q e (([] : List UInt8))).length cx ∧ (∃ bb ob, ax = some ⟨bb, ob, none⟩) ∧ Cells wC ax (bys (secR q e (([] : List UInt8)))) := by
      obtain ⟨ax, cx, hv, _, _, _, hown, _⟩ := Own.of_owns HO.out
      refine ⟨ax, cx, hv, ?_, hown.one⟩
      have hlen : (secR q e (([] : List UInt8))).length = 128 := by unfold secR; rw [if_pos HOK.out, secL_length ((secB_true HOK.out).2.2.2.2)]
      rcases hown.one with h' | ⟨bb, ob, e, _⟩
      · rw [bys_nil] at h'; rw [h'] at hlen; simp at hlen
      · exact ⟨bb, ob, e⟩
    rw [hve]
    clear hve HO v
    obtain ⟨bb, ob, rfl⟩ := hcn
    have s1 := str_of (some ⟨bb, ob, none⟩) cx (secR q e (([] : List UInt8))) wC bb ob rfl hbo
    have s2 := str_of (some ⟨b, off, none⟩) cap L wC b off rfl (HC.out.kept HK.out)
    have s3 : ((strL (secR q e (([] : List UInt8)))).toList == (strL L).toList) = false := by rw [strL_beq]; exact decide_eq_false HEQ.out
    generalize (secR q e (([] : List UInt8))) = M at *
    clear hbo
    have c0 := own_cellS HR.out 0 (by simp) (v := .int .i64 0) rfl
    have c1 := own_cellS HR.out 1 (by simp) (v := .int .i64 0) rfl
    have c2 := own_cellS HR.out 2 (by simp) (v := .slice none 0 0) rfl
    have fR := own_freeS HR.out (by simp)
    have HF := hide (own_threeB HR.out (.int .i64 0) (.int .i64 0) (.slice none 0 0))
    have HK2 := hide (keeps_threeB HK.out (Nat.le_refl w.heap.size) (.int .i64 0) (.int .i64 0) (.slice none 0 0))
    go_wp2_with fail
    generalize (((wC.setCell ⟨w.heap.size, 0, none⟩ (.int .i64 0)).setCell ⟨w.heap.size, 1, none⟩ (.int .i64 0)).setCell ⟨w.heap.size, 2, none⟩ (.slice none 0 0)) = wF at *
    clear c0 c1 c2
    have c0 := own_cellS HF.out 0 (by simp) (v := .int .i64 0) rfl
    have c1 := own_cellS HF.out 1 (by simp) (v := .int .i64 0) rfl
    have c2 := own_cellS HF.out 2 (by simp) (v := .slice none 0 0) rfl
    refine bodyPost_ret (v := .tuple #[.agg #[.int .i64 0, .int .i64 0, .slice none 0 0], .bool false]) ?_ rfl (SrPost.no HSR.out HK2.out)
    simp [results, Tryz.results42, go_sem, c0, c1, c2]
end Go.Proofs.YtdlgoccbmemjgaaGreatDoor
