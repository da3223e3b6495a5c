/- copyWrite of the program, by contract. -/
import Derived.Test.YtphabdjhmahemaaCpC
namespace Go.Proofs.Ytphabdjhmahemaa
open Go.RowKit Go.Deep
set_option linter.unusedVariables false
set_option maxRecDepth 10000
attribute [local go_sem ↓] Go.wp_at_zero Go.wp_at_succ

set_option maxHeartbeats 2000000 in
theorem copyWrite_k (i : Int) (a : Option Addr) (cap : Nat) (L : List UInt8) (w : World) (hc : Cells w a (bys L)) (hn : a = none → cap = 0) (hl : L.length ≤ 4194304) :
    Calls Try.prog 38 #[.agg #[.int .i64 i, .slice a L.length cap]] w fun e w' => ∃ a1 c1, e = .returned (.agg #[.int .i64 i, .slice a1 L.length c1]) ∧ ((a1 = none → c1 = 0) ∧ L.length ≤ c1) ∧ Born w w' [(a1, bys L)] ∧ Keeps w w' := by
  have HKA := hide (Keeps.alloc (Keeps.alloc (Keeps.refl w) (.cells #[.int .i64 i, .slice a L.length cap] 75)) (.cells #[.int .i64 0, .slice none 0 0] 75))
  have HR := hide (row_new (w.alloc (.cells #[.int .i64 i, .slice a L.length cap] 75)) #[.int .i64 0, .slice none 0 0] 75)
  have HZ : Hid ((w.alloc (.cells #[.int .i64 i, .slice a L.length cap] 75)).heap.size = w.heap.size + 1) := by show _ = _; rw [World.size_alloc]
  have HZ2 : Hid (((w.alloc (.cells #[.int .i64 i, .slice a L.length cap] 75)).alloc (.cells #[.int .i64 0, .slice none 0 0] 75)).heap.size = w.heap.size + 1 + 1) := by show _ = _; rw [World.size_alloc, World.size_alloc]
  have HD : Hid (∀ w', Keeps ((w.alloc (.cells #[.int .i64 i, .slice a L.length cap] 75)).alloc (.cells #[.int .i64 0, .slice none 0 0] 75)) w' → w'.cell? ⟨w.heap.size, 0, none⟩ = some (.int .i64 i) ∧ w'.cell? ⟨w.heap.size, 1, none⟩ = some (.slice a L.length cap)) :=
    fun w' hk => ⟨hk.cell (by simp), hk.cell (by simp)⟩
  have HC := hide (hc.kept HKA.out)
  have HCl : Hid (∀ w', Keeps ((w.alloc (.cells #[.int .i64 i, .slice a L.length cap] 75)).alloc (.cells #[.int .i64 0, .slice none 0 0] 75)) w' → Calls Try.prog 70 #[.slice a L.length cap] w' fun e w'' => ∃ v, e = .returned v ∧ OwnsB w'' w'.heap.size v L ∧ Keeps w' w'') :=
    fun w' hk => clone_k a cap L w' (HC.out.kept hk) hn hl
  rw [HZ.out] at HR
  clear hc hn hl
  go_enter Try.func38, Try.ntmps38
  go_wp2_with fail
  generalize (w.alloc (.cells #[.int .i64 i, .slice a L.length cap] 75)).alloc (.cells #[.int .i64 0, .slice none 0 0] 75) = W0 at *
  obtain ⟨d0, d1⟩ := HD.out _ (Keeps.refl _)
  have r0 := HR.out.cell (i := 0) (by decide)
  have r1 := HR.out.cell (i := 1) (by decide)
  have f0 := HR.out.frozen 0
  have f1 := HR.out.frozen 1
  simp at r0 r1
  go_region_held3 (fun w' => w'.cell? ⟨w.heap.size, 0, none⟩ = some (.int .i64 i) ∧ w'.cell? ⟨w.heap.size, 1, none⟩ = some (.slice a L.length cap)) (go_keep)
    (first
      | (go_at_call 70
         refine (unhide HCl _ ((Keeps.refl W0).drew)).mono ?_
         rintro x w1 ⟨v1, rfl, ho1, hk1⟩
         have hk2 := ((Keeps.refl W0).drew).trans hk1
         have HK1 := hide hk2
         have HR1 := hide (hk2.row HR.out)
         obtain ⟨a1, c1, rfl, hn1, hb1⟩ := Born.of_owns (w := W0) ho1
         have HB1 := hide hb1
         have HN1 := hide hn1
         clear d0 d1 r0 r1 f0 f1
         obtain ⟨d0, d1⟩ := HD.out _ hk2
         have r0 := HR1.out.cell (i := 0) (by decide)
         have r1 := HR1.out.cell (i := 1) (by decide)
         have f0 := HR1.out.frozen 0
         have f1 := HR1.out.frozen 1
         simp at r0 r1
         clear hk1 hk2 ho1 hb1 hn1))
  go_wp2_with fail
  have r3 := (HR1.out.set 0 (.int .i64 i)).set 1 (.slice a1 L.length c1)
  have e0 := r3.cell (i := 0) (by decide)
  have e1 := r3.cell (i := 1) (by decide)
  simp at e0 e1
  have HS : Hid (Turn [w.heap.size + 1] w1 ((w1.setCell ⟨w.heap.size + 1, 0, none⟩ (.int .i64 i)).setCell ⟨w.heap.size + 1, 1, none⟩ (.slice a1 L.length c1))) := (Turn.set (by simp) _).trans' (Turn.set (by simp) _)
  clear r3 r0 r1 f0 f1 d0 d1
  revert e0 e1 HS
  generalize World.setCell _ _ _ = W
  intro e0 e1 HS
  refine bodyPost_ret (v := .agg #[.int .i64 i, .slice a1 L.length c1]) ?_ rfl ⟨a1, c1, rfl, HN1.out, ?_, ?_⟩
  · simp [results, Try.results38, go_sem, e0, e1]
  · refine (HB1.out.turn HS.out ?_).old HKA.out
    intro b hb hx
    have := HB1.out.new b hb
    have := HZ2.out
    simp at hx
    omega
  · refine HS.out.keeps (HKA.out.trans HK1.out) ?_
    intro b hb
    simp at hb
    omega
end Go.Proofs.Ytphabdjhmahemaa
