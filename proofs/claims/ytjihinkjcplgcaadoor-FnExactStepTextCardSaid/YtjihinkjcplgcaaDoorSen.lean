/- The program's sentence: a word, and numbers behind it. -/
import Derived.Test.YtjihinkjcplgcaaDoorBld
import Derived.Test.YtjihinkjcplgcaaDoorNumK
import Derived.Test.YtjihinkjcplgcaaDoorMem
import Derived.Deep.Heap
namespace Go.Proofs.YtjihinkjcplgcaaDoor
open Go.RowKit Go.Deep
set_option linter.unusedVariables false
set_option maxRecDepth 10000
/-- A word, and numbers behind it, each behind a blank. -/
def senN (ns : List Int) : List UInt8 := ns.flatMap fun n => 32 :: numT n
def sen (W : List UInt8) (ns : List Int) : List UInt8 := W ++ senN ns
def nums (K : List Int) : List Value := K.map fun k => .int .i64 k
theorem nums_length (K : List Int) : (nums K).length = K.length := by simp [nums]
theorem nums_at {w : World} {a : Option Addr} {K : List Int} (h : Cells w a (nums K)) (i : Nat) (hi : i < K.length) : ∃ b off, a = some ⟨b, off, none⟩ ∧ w.cell? ⟨b, off + i, none⟩ = some (.int .i64 K[i]) := by
  rcases h with h | ⟨b, off, e, h⟩
  · have : K = [] := by simpa [nums] using h
    subst this
    simp at hi
  · have := h i (by rw [nums_length]; exact hi)
    exact ⟨b, off, e, by simpa [nums] using this⟩
theorem strCells_of (l : List UInt8) : Lib.strCells ⟨l.toArray⟩ = Lib.byteCells l := by simp [Lib.strCells, Lib.byteCells]
theorem byteCells_app (l m : List UInt8) : Lib.byteCells (l ++ m) = Lib.byteCells l ++ Lib.byteCells m := by simp [Lib.byteCells]
theorem new_bld (w : World) : Bldr w.heap.size w.heap.size [] (w.alloc (.cells #[.pointer none, .slice none 0 0] 66)) := by
  refine .inl ⟨Nat.le_refl _, .slice none 0 0, blk_alloc_new w _, World.ownsRow_nil _ _ _ _, by simp [Value.ownBlock]⟩
theorem senN_succ (ns : List Int) (k : Nat) (h : k < ns.length) : senN (ns.take (k + 1)) = senN (ns.take k) ++ [32] ++ numT ns[k] := by
  unfold senN
  rw [List.take_succ_eq_append_getElem h, List.flatMap_append]
  simp
theorem senN_len (ns : List Int) : (senN ns).length ≤ 22 * ns.length := by
  induction ns with
  | nil => simp [senN]
  | cons n t ih =>
    have := numT_len n
    simp only [senN, List.flatMap_cons, List.length_append, List.length_cons] at ih ⊢
    omega
theorem write_l (B b : Nat) (l m : List UInt8) (w : World) (h : Bldr B b (Lib.byteCells l) w) (hl : l.length + m.length ≤ 4294967296) (hB : B ≤ w.heap.size) :
    Calls Tryd.prog 34 #[.pointer (some ⟨b, 0, none⟩), .string ⟨m.toArray⟩] w fun e w' => (∃ z : Int, e = .returned (.tuple #[.int .i64 z, .nilIface])) ∧ Bldr B b (Lib.byteCells (l ++ m)) w' ∧ Below B w w' := by
  refine (write_any B b _ ⟨m.toArray⟩ w h (by rw [Lib.byteCells_length]; exact hl) hB).mono ?_
  rintro e w' ⟨rfl, h1, h2⟩
  exact ⟨⟨_, rfl⟩, by rw [byteCells_app, ← strCells_of m]; exact h1, h2⟩
theorem owns_keptS {base n : Nat} {e : TypeId} {sz : Nat} {v : Value} {xs : List Value} {w w1 : World} (hk : Keeps w w1) (h : w.ownsRow base e sz v n xs) : w1.ownsRow base e sz v n xs := by
  refine ⟨h.1, ?_⟩
  rcases h.2 with h' | ⟨g, cap, cur, rfl, hb, hg, rest⟩
  · exact .inl h'
  · refine .inr ⟨g, cap, cur, rfl, hb, ?_, rest⟩
    rw [Below.block hk g (Array.getElem?_eq_some_iff.1 hg).1]; exact hg
theorem bld_kept {B b : Nat} {bs : List Value} {w w' : World} (h : Bldr B b bs w) (hk : Keeps w w') : Bldr B b bs w' := by
  have aux : ∀ p, Lib.BuilderAt 66 5 B b p bs w → Lib.BuilderAt 66 5 B b p bs w' := by
    rintro p ⟨hB, v, hb, ho, hn⟩
    have hlt : b < w.heap.size := by
      rcases Nat.lt_or_ge b w.heap.size with h' | h'
      · exact h'
      · simp [Array.getElem?_eq_none h'] at hb
    exact ⟨hB, v, by rw [Below.block hk b hlt]; exact hb, owns_keptS hk ho, hn⟩
  exact h.elim (fun x => .inl (aux _ x)) (fun x => .inr (aux _ x))
set_option maxHeartbeats 4000000 in
theorem sentence_big (W : List UInt8) (a : Option Addr) (cap : Nat) (ns : List Int) (w : World) (hW : W ≠ []) (hW2 : W.length ≤ 20) (hn : ns.length ≤ 1048576) (hc : Cells w a (nums ns)) (ht : Tab w) :
    Calls Tryd.prog 21 #[.string ⟨W.toArray⟩, .slice a ns.length cap] w fun e w' => e = .returned (.string ⟨(sen W ns).toArray⟩) ∧ Keeps w w' := by
  have HB0 := hide (new_bld w)
  have HK0 := hide (Keeps.alloc (Keeps.refl w) (.cells #[.pointer none, .slice none 0 0] 66))
  have HC := hide hc
  have HT := hide ht
  clear hc ht
  go_enter Tryd.func21, Tryd.ntmps21
  go_wp2_with fail
  refine (write_l w.heap.size w.heap.size [] W _ HB0.out (by simp; omega) (by simp)).mono ?_
  rintro e w1 ⟨⟨z, rfl⟩, h1, hb1⟩
  have HB1 := hide h1
  have HK1 : Hid (Keeps w w1) := Below.trans HK0.out hb1
  clear h1 hb1 HB0 HK0
  go_wp2_with fail
  go_loopw [12] (fun y wr => ∃ k : Nat, k ≤ ns.length ∧ y = .int .i64 (k : Int) ∧ Hid (Bldr w.heap.size w.heap.size (Lib.byteCells (W ++ senN (ns.take k))) wr) ∧ Hid (Keeps w wr)) (fun y _ => ns.length - (intOf y).toNat)
  case atStart => exact ⟨0, Nat.zero_le _, rfl, by show Bldr _ _ _ _; simpa [senN] using HB1.out, HK1⟩
  case round =>
    clear HB1 HK1
    obtain ⟨k, hk, rfl, HB, HK⟩ := hrel
    have hsz := HK.out.size
    by_cases hlt : k < ns.length
    · obtain ⟨b, off, ea, c0⟩ := nums_at (HC.out.kept HK.out) k hlt
      subst ea
      have HS := hide (senN_succ ns k hlt)
      have hl1 := senN_len (ns.take k)
      have hl2 : (ns.take k).length ≤ k := by simp; omega
      generalize hx : ns[k] = x at *
      generalize senN (ns.take k) = Z at *
      clear hx
      go_wp2_with fail
      refine (write_l w.heap.size w.heap.size (W ++ Z) [32] _ HB.out (by simp; omega) hsz).mono ?_
      rintro e w2 ⟨⟨z2, rfl⟩, h2, hb2⟩
      have HB2 := hide h2
      have HK2 : Hid (Keeps w w2) := Below.trans HK.out hb2
      have hsz2 := HK2.out.size
      clear h2 hb2 HB HK
      go_wp2_with fail
      refine (num_impl x w2 (HT.out.kept HK2.out)).mono ?_
      rintro e w3 ⟨rfl, hk3⟩
      have HK3 := hide (HK2.out.trans hk3)
      have HB3 := hide (bld_kept HB2.out hk3)
      have hsz3 := HK3.out.size
      have hl3 := numT_len x
      clear hk3 HB2 HK2
      go_wp2_with fail
      refine (write_l w.heap.size w.heap.size (W ++ Z ++ [32]) (numT x) _ HB3.out (by simp; omega) hsz3).mono ?_
      rintro e w4 ⟨⟨z4, rfl⟩, h4, hb4⟩
      have HB4 := hide h4
      have HK4 : Hid (Keeps w w4) := Below.trans HK3.out hb4
      clear h4 hb4 HB3 HK3
      go_wp2_with fail
      go_roundw
      case rel => exact ⟨k + 1, by omega, by go_num, by show Bldr _ _ _ _; rw [HS.out]; simpa [List.append_assoc] using HB4.out, HK4⟩
      case measure => simp [intOf]; omega
    · have e : k = ns.length := by omega
      subst e
      rw [List.take_length] at HB
      go_wp2_with fail
      refine (Tryd.Builder_String w.heap.size w.heap.size (W ++ senN ns) _ HB.out (by simp [hW])).mono ?_
      rintro e w5 ⟨rfl, hb5⟩
      have HK5 : Hid (Keeps w w5) := Below.trans HK.out hb5
      go_wp2_with fail
      go_ret
      exact ⟨rfl, HK5.out⟩
theorem sentence_k (W : List UInt8) (a : Option Addr) (cap : Nat) (ns : List Int) (w : World) (hW : W ≠ []) (hW2 : W.length ≤ 20) (hn : ns.length ≤ 8) (hc : Cells w a (nums ns)) (ht : Tab w) :
    Calls Tryd.prog 21 #[.string ⟨W.toArray⟩, .slice a ns.length cap] w fun e w' => e = .returned (.string ⟨(sen W ns).toArray⟩) ∧ Keeps w w' := sentence_big W a cap ns w hW hW2 (by omega) hc ht
end Go.Proofs.YtjihinkjcplgcaaDoor
