/- SectorRead of the model. -/
import Derived.Test.YtecjjkgdgmjgmaaDoorSRF
import Derived.Test.YtecjjkgdgmjgmaaDoorSBS
import Derived.Test.YtecjjkgdgmjgmaaDoorStr
namespace Go.Proofs.YtecjjkgdgmjgmaaDoor
open Go.RowKit Go.Deep
set_option linter.unusedVariables false
set_option linter.unusedSimpArgs false
set_option maxRecDepth 10000
theorem app_bysN {ops : Array Oper} {rest : List Oper} {o : Oper} {a : Act} {Q : Exit → Act → World → Prop} {wr : World} (hgd : o.guard = none) (s x : Operand)
    (ho : o.op = .call { callee := .builtin .append, args := #[s, x], argTypes := #[22, 22] }) (base : Nat) (v : Value) (L M : List UInt8) (hs : a.eval s = v) (xa : Option Addr) (c m : Nat) (hm : M.length = m)
    (hx : a.eval x = .slice xa m c) (hM : Cells wr xa (bys M)) (hn : xa = none → c = 0) (hown : OwnsB wr base v L) (hl : L.length + M.length ≤ 4194304) (hbase : base ≤ wr.heap.size)
    (h : ∀ v' w', OwnsB w' base v' (L ++ M) → wr.grownBy w' v.ownBlock → wpList Tryd.prog ops Q rest (a.put o.dst v') w') :
    wpList Tryd.prog ops Q (o :: rest) a wr := by
  subst hm
  exact app_bys hgd s x ho base v L M hs xa c hx hM hn hown hl hbase h
theorem own_freeS {w : World} {R : Nat} {xs : List Value} (h : Own w [(some ⟨R, 0, none⟩, xs)]) (hx : xs ≠ []) : ∀ i, w.frozen? ⟨R, i, none⟩ = false := h.free R (by rw [fp_one, fpS_some hx]; simp)
theorem own_cellS {w : World} {R : Nat} {xs : List Value} (h : Own w [(some ⟨R, 0, none⟩, xs)]) (i : Nat) (hi : i < xs.length) {v : Value} (hv : xs[i] = v) : w.cell? ⟨R, i, none⟩ = some v := by
  have := cell_at h.mem i hi
  rw [Nat.zero_add, hv] at this
  exact this
theorem own_grown {w w' : World} {S : List Seg} {row : Option Nat} (h : Own w S) (hg : w.grownBy w' row) (hn : ∀ x ∈ fp S, row ≠ some x) : Own w' S :=
  h.turn (Turn.of_grown (fs := row.toList) hg (fun k hk => by rw [hk]; simp)) (fun x hx hb => hn x hx (by simpa using hb))
end Go.Proofs.YtecjjkgdgmjgmaaDoor
