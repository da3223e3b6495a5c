/- Rules by which fees turn, told of data alone. -/
import Derived.Test.YtjihinkjcplgcaaDoorPd
import Derived.Test.YtjihinkjcplgcaaDoorBk
namespace Go.Proofs.YtjihinkjcplgcaaDoor
open Go.RowKit Go.Deep
set_option linter.unusedVariables false
set_option linter.unusedSimpArgs false
set_option maxRecDepth 10000

structure Rul where
  lo : Int
  hi : Int
  st : Int
  mi : Int
  ma : Int
def Rul.v (r : Rul) : Value := .agg #[.int .i64 r.lo, .int .i64 r.hi, .int .i64 r.st, .int .i64 r.mi, .int .i64 r.ma]
def ruleB (r : Rul) : Bool := bandB r.lo r.hi && ppmB r.st && ppmB r.mi && ppmB r.ma && decide (r.mi ≤ r.ma)
theorem ppmB_true {n : Int} (h : ppmB n = true) : 0 ≤ n ∧ n ≤ 1000000 := by simpa [ppmB] using h
theorem ruleB_true {r : Rul} (h : ruleB r = true) : bandB r.lo r.hi = true ∧ (0 ≤ r.st ∧ r.st ≤ 1000000) ∧ (0 ≤ r.mi ∧ r.mi ≤ 1000000) ∧ (0 ≤ r.ma ∧ r.ma ≤ 1000000) ∧ r.mi ≤ r.ma := by
  simp only [ruleB, Bool.and_eq_true, decide_eq_true_eq] at h
  exact ⟨h.1.1.1.1, ppmB_true h.1.1.1.2, ppmB_true h.1.1.2, ppmB_true h.1.2, h.2⟩
def clampV (n lo hi : Int) : Int := if n < lo then lo else if hi < n then hi else n
def stepV (c : Chn) (r : Rul) : Int := if c.lo < endV c.sz r.lo r.lo r.hi then c.pp + r.st else if endV c.sz r.hi r.lo r.hi < c.lo then c.pp - r.st else c.pp
def nextV (c : Chn) (r : Rul) : Int := clampV (stepV c r) r.mi r.ma
def nppB (c : Chn) (r : Rul) : Bool := ruleB r && amtB c.sz && amtB c.lo && ppmB c.pp
def nppV (c : Chn) (r : Rul) : Int := if nppB c r = true then nextV c r else -1
theorem clampV_bound {n lo hi : Int} (h : lo ≤ hi) : lo ≤ clampV n lo hi ∧ clampV n lo hi ≤ hi := by unfold clampV; split <;> (try split) <;> omega
theorem nextV_bound {c : Chn} {r : Rul} (h : ruleB r = true) : 0 ≤ nextV c r ∧ nextV c r ≤ 1000000 := by
  obtain ⟨_, _, h1, h2, h3⟩ := ruleB_true h
  have := clampV_bound (n := stepV c r) h3
  unfold nextV; omega
theorem chanB_npp {B : Bk} {c : Chn} {r : Rul} (h : chanB B c = true) (hr : ruleB r = true) : nppB c r = true := by
  simp only [chanB, fieldsB, sizeB, Bool.and_eq_true, decide_eq_true_eq] at h
  simp [nppB, hr, h.1.1.1.1.1, h.1.1.2, h.2.1]
end Go.Proofs.YtjihinkjcplgcaaDoor
