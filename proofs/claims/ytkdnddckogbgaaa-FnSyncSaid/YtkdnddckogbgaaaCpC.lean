/- copyCells of the program, by contract. -/
import Derived.Test.YtkdnddckogbgaaaCpy
import Derived.Lib.AppendZeros
namespace Go.Proofs.Ytkdnddckogbgaaa
open Go.RowKit Go.Deep
set_option linter.unusedVariables false
set_option maxRecDepth 10000

theorem make_cells0 (n : Nat) (hn : n ≤ 1048576) (w : World) : (Instr.makeSlice 23 (.int .i64 0) (.int .i64 (n : Int))).run Try.prog w = .ok (.slice (some ⟨w.heap.size, 0, none⟩) 0 n) (w.alloc (.cells (madeCells #[.slice none 0 0] n) 54)) := by
  have hI := infoCell
  cases hi : Try.prog.info? 54 with
  | none => rw [hi] at hI; simp at hI
  | some i =>
    rw [hi] at hI
    simp at hI
    obtain ⟨hz, hs, hb⟩ := hI
    have h := run_make (P := Try.prog) w 23 54 i _ underCells hi hz .i64 .i64 0 n (by omega) (by omega) (by rw [hb]; omega) (by omega)
    rw [hs] at h
    simpa [Value.cells] using h
set_option maxHeartbeats 2000000 in
theorem copyCells_k (a : Option Addr) (cap : Nat) (cs : List Bs) (w : World) (hc : Cells w a (ccells cs)) (hm : Mem w (cs.map Bs.seg)) (hn : ∀ b ∈ cs, b.fit) (hl : cs.length ≤ 1048576) (ht : ∀ b ∈ cs, b.L.length ≤ 4194304) :
    Calls Try.prog 21 #[.slice a cs.length cap] w fun e w' => ∃ v nb, e = .returned v ∧ nb.map Bs.L = cs.map Bs.L ∧ (∀ b ∈ nb, b.fit) ∧ LG 54 1 Bs.cells Bs.seg w w' v nb := by
  have HC := hide hc
  have HM := hide hm
  have HN := hide hn
  have HT := hide ht
  clear hc hm hn ht
  have hmk := make_cells0 cs.length hl
  have HLG : Hid (LG 54 1 Bs.cells Bs.seg w (w.alloc (.cells (madeCells #[.slice none 0 0] cs.length) 54)) (.slice (some ⟨w.heap.size, 0, none⟩) 0 cs.length) []) :=
    LG.nil _ _ _ _ (World.ownsRow_made w _ _ (Nat.le_refl _) (by simp only [maxLen]; omega) (by rw [size_madeCells]; simp)) (Keeps.alloc (Keeps.refl _) _)
  go_enter Try.func21, Try.ntmps21
  go_wp2_with fail
  clear hmk
  generalize w.alloc (.cells (madeCells #[.slice none 0 0] cs.length) 54) = W0 at *
  go_loopw [3, 11] (fun x y wr => ∃ (k : Nat) (nb : List Bs), k ≤ cs.length ∧ nb.length = k ∧ y = .int .i64 (k : Int) ∧ Hid (nb.map Bs.L = (cs.take k).map Bs.L) ∧ Hid (∀ b ∈ nb, b.fit) ∧ Hid (LG 54 1 Bs.cells Bs.seg w wr x nb)) (fun _ y _ => cs.length - (intOf y).toNat)
  case atStart => exact ⟨0, [], by omega, rfl, rfl, rfl, fun b hb => absurd hb (by simp), HLG⟩
  case round =>
    clear HLG
    obtain ⟨k, nb, hk, rfl, rfl, HD, HNb, HG⟩ := hrel
    by_cases hlt : nb.length < cs.length
    · have HK := hide HG.out.keeps
      obtain ⟨b, off, ea, c0⟩ := cell1 (HC.out.kept HK.out) nb.length hlt
      subst ea
      have HMk : Hid (Cells wr cs[nb.length].a (bys cs[nb.length].L)) := (mem_seg HM.out nb.length hlt).kept HK.out
      have HTk := hide (HT.out _ (List.getElem_mem hlt))
      have HNk := hide (HN.out _ (List.getElem_mem hlt)).1
      have HDk : Hid ((cs.take (nb.length + 1)).map Bs.L = (cs.take nb.length).map Bs.L ++ [cs[nb.length].L]) := by show _ = _; rw [List.take_succ_eq_append_getElem hlt, List.map_append]; rfl
      generalize cs[nb.length] = c at *
      obtain ⟨xa, xc, xL⟩ := c
      dsimp only [Bs.v] at c0 HMk HTk HNk HDk
      have HKa := hide (Keeps.alloc (Keeps.refl wr) (.cells #[.slice xa xL.length xc] 54))
      have HCl := hide (clone_k xa xc xL _ (HMk.out.kept HKa.out) HNk.out HTk.out)
      go_wp2_with (first
        | (go_at_call 38; refine (unhide HCl).mono ?_; rintro x w1 ⟨v1, rfl, ho1, hk1⟩; have HK1 := hide (HKa.out.trans hk1); have HO1 := hide (OwnsB.older ho1 HKa.out.size); obtain ⟨a1, c1, rfl, hn1, hb1⟩ := Born.of_owns HO1.out; have HB1 := hide hb1; have HN1 := hide hn1; obtain ⟨v2, w2, hr2, ho2, hg2, hv2⟩ := run_cell w1 w.heap.size u3 nb.length (ccells nb) (.slice a1 xL.length c1) rfl 23 (owns_kept HK1.out HG.out.row) (by omega) (HK.out.trans HK1.out).size; have HR2 := hide hr2; have HS2 := hide (HG.out.snoc HK1.out (x := Bs.mk a1 c1 xL) hb1.toOwn hb1.new hg2 ho2 hv2); clear hk1 ho1 hb1 hn1 hr2 ho2 hg2 hv2)
        | (at_builtin; refine Lib.wpList_append_run _ rfl (.tmp 15) (.tmp 20) _ _ rfl _ _ rfl rfl v2 w2 HR2.out ?_))
      go_roundw
      case rel =>
        refine ⟨nb.length + 1, nb ++ [Bs.mk a1 c1 xL], by omega, by simp, by go_num, ?_, ?_, HS2⟩
        · show _ = _
          rw [HDk.out, ← HD.out]; simp
        · intro b hb
          rcases List.mem_append.1 hb with hb | hb
          · exact HNb.out b hb
          · rw [List.mem_singleton.1 hb]; exact HN1.out
      case measure => simp [intOf]; omega
    · have e : nb.length = cs.length := by omega
      go_wp2_with fail
      go_ret
      exact ⟨_, nb, rfl, by rw [HD.out, e, List.take_length], HNb.out, HG.out⟩
end Go.Proofs.Ytkdnddckogbgaaa
