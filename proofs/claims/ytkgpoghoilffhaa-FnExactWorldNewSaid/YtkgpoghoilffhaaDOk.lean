/- DiskOk, the program's and the model's. -/
import Derived.Test.YtkgpoghoilffhaaDGK
namespace Go.Proofs.Ytkgpoghoilffhaa
open Go.RowKit Go.Deep
set_option linter.unusedVariables false
set_option maxRecDepth 10000

/-- Is the cell right? -/
def cokB (b : Bs) : Bool := decide (b.L.length = 0) || decide (b.L.length = 128)
def wokB (n : Nat) (x : Wr) : Bool := decide (0 ≤ x.i) && decide (x.i < n) && decide (x.b.L.length = 128)
/-- Is the disk right? -/
def dokB (cs : List Bs) (ds : List Wr) : Bool := decide (1 ≤ cs.length) && decide (cs.length ≤ 600) && decide (ds.length ≤ 600) && cs.all cokB && ds.all (wokB cs.length)
theorem dok_bad1 {cs : List Bs} {ds : List Wr} (h : cs.length < 1 ∨ 600 < cs.length ∨ 600 < ds.length) : dokB cs ds = false := by
  unfold dokB
  rcases h with h | h | h
  · rw [decide_eq_false (show ¬ 1 ≤ cs.length by omega)]; simp
  · rw [decide_eq_false (show ¬ cs.length ≤ 600 by omega)]; simp
  · rw [decide_eq_false (show ¬ ds.length ≤ 600 by omega)]; simp
theorem dok_bad2 {cs : List Bs} {ds : List Wr} {k : Nat} (h : k < cs.length) (hb : cokB cs[k] = false) : dokB cs ds = false := by
  have : cs.all cokB = false := by rw [List.all_eq_false]; exact ⟨_, List.getElem_mem h, by simp [hb]⟩
  unfold dokB; rw [this]; simp
theorem dok_bad3 {cs : List Bs} {ds : List Wr} {k : Nat} (h : k < ds.length) (hb : wokB cs.length ds[k] = false) : dokB cs ds = false := by
  have : ds.all (wokB cs.length) = false := by rw [List.all_eq_false]; exact ⟨_, List.getElem_mem h, by simp [hb]⟩
  unfold dokB; rw [this]; simp
theorem dok_good {cs : List Bs} {ds : List Wr} (h1 : 1 ≤ cs.length) (h2 : cs.length ≤ 600) (h3 : ds.length ≤ 600) (hc : ∀ k (h : k < cs.length), cokB cs[k] = true) (hd : ∀ k (h : k < ds.length), wokB cs.length ds[k] = true) : dokB cs ds = true := by
  have e1 : cs.all cokB = true := by
    rw [List.all_eq_true]; intro b hb
    obtain ⟨k, hk, rfl⟩ := List.getElem_of_mem hb
    exact hc k hk
  have e2 : ds.all (wokB cs.length) = true := by
    rw [List.all_eq_true]; intro b hb
    obtain ⟨k, hk, rfl⟩ := List.getElem_of_mem hb
    exact hd k hk
  unfold dokB; rw [e1, e2]; simp [h1, h2, h3]
theorem ne_false {a b : Nat} (h : a = b) : ((a : Int) != (b : Int)) = false := by rw [h]; simp
theorem ne_true {a b : Nat} (h : a ≠ b) : ((a : Int) != (b : Int)) = true := by rw [bne_iff_ne]; omega
end Go.Proofs.Ytkgpoghoilffhaa
