/- Steps as data. -/
import Derived.Test.YtjihinkjcplgcaaDoorTnR
import Derived.Test.YtjihinkjcplgcaaDoorEtI
import Derived.Test.YtjihinkjcplgcaaDoorEvJ
import Derived.Test.YtjihinkjcplgcaaDoorAa
namespace Go.Proofs.YtjihinkjcplgcaaDoor
open Go.RowKit Go.Deep
set_option linter.unusedVariables false
set_option linter.unusedSimpArgs false
set_option maxRecDepth 10000
structure Stp where
  k : Int
  e : Ev
  ks : List Int
  r : Rul
abbrev Stp.cells (D : Stp) (a : Option Addr) (c : Nat) : Array Value := #[.int .i64 D.k, .int .i64 D.e.k, .int .i64 D.e.y, .int .i64 D.e.c, .int .i64 D.e.t, .int .i64 D.e.m, .int .i64 D.e.f, .bool D.e.b, .slice a D.ks.length c, .int .i64 D.r.lo, .int .i64 D.r.hi, .int .i64 D.r.st, .int .i64 D.r.mi, .int .i64 D.r.ma]
abbrev Stp.v (D : Stp) (a : Option Addr) (c : Nat) : Value := .agg (D.cells a c)
def noE : Ev := ⟨0, 0, 0, 0, 0, 0, false⟩
def noR : Rul := ⟨0, 0, 0, 0, 0⟩
def zeroE (e : Ev) : Bool := evEq e.k e.y e.c e.t e.m e.f e.b 0 0 0 0 0 0 false
def rulEq (r s : Rul) : Bool := decide (r.lo = s.lo) && decide (r.hi = s.hi) && decide (r.st = s.st) && decide (r.mi = s.mi) && decide (r.ma = s.ma)
def zeroR (r : Rul) : Bool := rulEq r noR
theorem zeroE_eq {e : Ev} (h : zeroE e = true) : e = noE := by
  obtain ⟨k, y, c, t, m, f, b⟩ := e
  simp only [zeroE, evEq, Bool.and_eq_true, decide_eq_true_eq] at h
  obtain ⟨⟨⟨⟨⟨⟨rfl, rfl⟩, rfl⟩, rfl⟩, rfl⟩, rfl⟩, rfl⟩ := h
  rfl
theorem zeroR_eq {r : Rul} (h : zeroR r = true) : r = noR := by
  obtain ⟨a, b, c, d, e⟩ := r
  have h2 : rulEq ⟨a, b, c, d, e⟩ ⟨0, 0, 0, 0, 0⟩ = true := h
  simp only [rulEq, Bool.and_eq_true, decide_eq_true_eq] at h2
  obtain ⟨⟨⟨⟨rfl, rfl⟩, rfl⟩, rfl⟩, rfl⟩ := h2
  rfl
theorem infoRule : Tryd.prog.underlying 32 = some (.struct (Tryd.prog.fieldsOf 32)) := by kernel_rfl
set_option maxHeartbeats 2000000 in
theorem rul_eql (r s : Rul) (w : World) : (binOp .eql 32 r.v s.v).run Tryd.prog w = .ok (.bool (rulEq r s)) w := by
  obtain ⟨k, y, c, t, m⟩ := r
  obtain ⟨k', y', c', t', m'⟩ := s
  have hs : Tryd.prog.stoodInHeld 32 = false := by kernel_rfl
  have hf : (Tryd.prog.fieldsOf 32).toList.map (fun f => (f.name, f.type, f.offset)) = [("Lo", 3, 0), ("Hi", 3, 1), ("Step", 3, 2), ("Min", 3, 3), ("Max", 3, 4)] := by kernel_rfl
  unfold Rul.v
  dsimp only
  rw [run_eql_struct, run_equalIn_agg _ _ _ _ _ infoRule hs]
  generalize (Tryd.prog.fieldsOf 32).toList = fs at hf
  simp only [List.map_eq_cons_iff, List.map_eq_nil_iff, Prod.mk.injEq] at hf
  obtain ⟨f0, r0, rfl, ⟨n0, t0, o0⟩, f1, r1, rfl, ⟨n1, t1, o1⟩, f2, r2, rfl, ⟨n2, t2, o2⟩, f3, r3, rfl, ⟨n3, t3, o3⟩, f4, r4, rfl, ⟨n4, t4, o4⟩, rfl⟩ := hf
  have hi : Tryd.prog.underlying 3 = some (.int .i64) := Tryd.underlying3
  by_cases e0 : k = k'
  case neg => simp [Op.eqFields, go_sem, n0, t0, o0, n1, t1, o1, n2, t2, o2, n3, t3, o3, n4, t4, o4, rulEq, hi, e0]
  by_cases e1 : y = y'
  case neg => simp [Op.eqFields, go_sem, n0, t0, o0, n1, t1, o1, n2, t2, o2, n3, t3, o3, n4, t4, o4, rulEq, hi, e0, e1]
  by_cases e2 : c = c'
  case neg => simp [Op.eqFields, go_sem, n0, t0, o0, n1, t1, o1, n2, t2, o2, n3, t3, o3, n4, t4, o4, rulEq, hi, e0, e1, e2]
  by_cases e3 : t = t'
  case neg => simp [Op.eqFields, go_sem, n0, t0, o0, n1, t1, o1, n2, t2, o2, n3, t3, o3, n4, t4, o4, rulEq, hi, e0, e1, e2, e3]
  by_cases e4 : m = m'
  case neg => simp [Op.eqFields, go_sem, n0, t0, o0, n1, t1, o1, n2, t2, o2, n3, t3, o3, n4, t4, o4, rulEq, hi, e0, e1, e2, e3, e4]
  simp [Op.eqFields, go_sem, n0, t0, o0, n1, t1, o1, n2, t2, o2, n3, t3, o3, n4, t4, o4, rulEq, hi, e0, e1, e2, e3, e4]
def noK (ks : List Int) : Bool := ks.length == 0
theorem noK_eq {ks : List Int} (h : noK ks = true) : ks = [] := by simpa [noK] using h
/-- Whether what a step's kind has is right, and the rest zero. -/
def stpB (D : Stp) : Bool :=
  if D.k = 1 then evB D.e.k D.e.y D.e.c D.e.t D.e.m D.e.f D.e.b && noK D.ks && zeroR D.r
  else if D.k = 2 ∨ D.k = 4 then zeroE D.e && noK D.ks && zeroR D.r
  else if D.k = 3 then zeroE D.e && allA D.ks && zeroR D.r
  else if D.k = 5 then zeroE D.e && noK D.ks && ruleB D.r
  else false
def stT (D : Stp) : List UInt8 :=
  if D.k = 1 then [116, 97, 107, 101, 32] ++ evT D.e.k D.e.y D.e.c D.e.t D.e.m D.e.f D.e.b
  else if D.k = 2 then [115, 121, 110, 99]
  else if D.k = 3 then sen [99, 114, 97, 115, 104] D.ks
  else if D.k = 4 then [115, 116, 97, 114, 116]
  else sen [116, 117, 114, 110] [D.r.lo, D.r.hi, D.r.st, D.r.mi, D.r.ma]
def stL (D : Stp) : List UInt8 := if stpB D = true then stT D else []
theorem stp_box (D : Stp) (a : Option Addr) (c : Nat) (w : World) (ty : TypeId) : ∀ w', Keeps (w.alloc (.cells (D.cells a c) ty)) w' → w'.cell? ⟨w.heap.size, 0, none⟩ = some (.int .i64 D.k) ∧ (w'.cell? ⟨w.heap.size, 1, none⟩ = some (.int .i64 D.e.k) ∧ w'.cell? ⟨w.heap.size, 2, none⟩ = some (.int .i64 D.e.y) ∧ w'.cell? ⟨w.heap.size, 3, none⟩ = some (.int .i64 D.e.c) ∧ w'.cell? ⟨w.heap.size, 4, none⟩ = some (.int .i64 D.e.t) ∧ w'.cell? ⟨w.heap.size, 5, none⟩ = some (.int .i64 D.e.m) ∧ w'.cell? ⟨w.heap.size, 6, none⟩ = some (.int .i64 D.e.f) ∧ w'.cell? ⟨w.heap.size, 7, none⟩ = some (.bool D.e.b)) ∧ w'.cell? ⟨w.heap.size, 8, none⟩ = some (.slice a D.ks.length c) ∧ w'.cell? ⟨w.heap.size, 9, none⟩ = some (.int .i64 D.r.lo) ∧ w'.cell? ⟨w.heap.size, 10, none⟩ = some (.int .i64 D.r.hi) ∧ w'.cell? ⟨w.heap.size, 11, none⟩ = some (.int .i64 D.r.st) ∧ w'.cell? ⟨w.heap.size, 12, none⟩ = some (.int .i64 D.r.mi) ∧ w'.cell? ⟨w.heap.size, 13, none⟩ = some (.int .i64 D.r.ma) :=
  fun w' hk => ⟨hk.cell (by simp), ⟨hk.cell (by simp), hk.cell (by simp), hk.cell (by simp), hk.cell (by simp), hk.cell (by simp), hk.cell (by simp), hk.cell (by simp)⟩, hk.cell (by simp), hk.cell (by simp), hk.cell (by simp), hk.cell (by simp), hk.cell (by simp), hk.cell (by simp)⟩
end Go.Proofs.YtjihinkjcplgcaaDoor
