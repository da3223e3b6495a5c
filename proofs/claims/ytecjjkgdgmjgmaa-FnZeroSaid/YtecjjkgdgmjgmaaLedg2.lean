/- The program's ledger: the walk. -/
import Derived.Test.YtecjjkgdgmjgmaaLedg
namespace Go.Proofs.Ytecjjkgdgmjgmaa
open Go.RowKit Go.Maps
set_option linter.unusedVariables false

/-- What ledger answers. -/
def IsLedg (id : Int) (M : List Ln) (w w' : World) (e : Ending) : Prop := ∃ g cap, e = .returned (.agg #[.int .i64 id, .slice (some ⟨g, 0, none⟩) M.length cap]) ∧ Cells w' (some ⟨g, 0, none⟩) (flat M) ∧ w.heap.size ≤ g ∧ ∀ j, w'.frozen? ⟨g, j, none⟩ = false

set_option maxHeartbeats 4000000 in
theorem ledg_impl (J b n : Nat) (D : DataW Unit) (M : List Ln) (id : Int) (w : World) (hJ : w.rowIs J 82 2 (jf id b)) (hO : OwnsJ w b n D) (hR : Rep D M) (hg : Good M) :
    Calls Try.prog 43 #[.pointer (some ⟨J, 0, none⟩)] w fun e w' => IsLedg id M w w' e ∧ Keeps w w' := by
  have h302 := good_len hg
  have hblt := hO.lt
  have hJlt := hJ.lt
  have HJ := hide hJ
  have HO := hide hO
  have HRep := hide hR
  have HG := hide hg
  have HKA := hide (Keeps.alloc (Keeps.refl w) (.cells #[.int .i64 0, .slice none 0 0] 25))
  have HR0 := hide (World.rowIs_alloc w #[.int .i64 0, .slice none 0 0] 25 _ (two_row _ _))
  have HO0 := hide (HO.out.alloc (.cells #[.int .i64 0, .slice none 0 0] 25))
  have hlen : ∀ ty, (Builtin.len_ #[80] ty #[.map (some b)]).run Try.prog (w.alloc (.cells #[.int .i64 0, .slice none 0 0] 25)) = .ok (.int .i64 (M.length : Int)) (w.alloc (.cells #[.int .i64 0, .slice none 0 0] 25)) := by
    intro ty
    rw [World.ownsMap.len HO0.out Try.underlying80 ty, HRep.out.size]
  have j1 := hJ.cell (i := 1) (by decide)
  have j0 := hJ.cell (i := 0) (by decide)
  simp [jf] at j0 j1
  obtain ⟨i0, hi, hz0, hz1, hz2⟩ : ∃ i, Try.prog.info? 35 = some i ∧ i.zero = some (.agg #[.int .i64 0, .int .i64 0, .int .i64 0]) ∧ i.size = 3 ∧ i.bytes = 24 := by
    have hI := infoLine
    cases hi : Try.prog.info? 35 with
    | none => rw [hi] at hI; simp at hI
    | some i =>
      rw [hi] at hI
      simp at hI
      exact ⟨i, rfl, hI.1, hI.2.1, hI.2.2⟩
  clear hJ hO hR hg
  go_enter Try.func43, Try.ntmps43
  go_wp2_with (first
    | (at_make; refine wpList_make_own _ rfl _ _ 23 rfl (w.heap.size + 1) 35 i0 _ 3 underLines hi hz0 hz1 _ _ _ M.length rfl rfl rfl (by rw [hz2]; omega) (by unfold maxLen; omega) (by simp) ?_; intro w1 hrow1 hg1; have e1 := hg1.cell ((Keeps.alloc (Keeps.refl w) _).cell j1) (by simp))
    | (at_range; refine wpList_range_own _ rfl _ 80 rfl 33 3 accKeyed Try.underlying80 _ b n D rfl (HO0.out.kept hg1 (by simp)) ?_; intro w0 hrg0 hg0 hs0))
  go_frame
  have hz1' : w1.heap.size ≥ w.heap.size + 2 := by
    have := (hrow1.lt (w.heap.size + 1) (by simp [Value.ownBlock])).2
    omega
  have HG1 := hide hg1
  have HG0 := hide hg0
  have HRow1 := hide hrow1
  have HRg0 := hide hrg0
  have HSz := hide hz1'
  clear hlen hrow1 hg1 hrg0 hg0 hs0 e1 hz1'
  go_loopw [3] (fun v wr => ∃ (left : Lit → Bool) (cnt : Nat) (C : List Ln), Hid (wr.ranges Try.prog 33 (plainElem Try.prog 3) b w1.heap.size n D left cnt) ∧ C.length + cnt ≤ M.length ∧ Hid (wr.ownsRow (w.heap.size + 1) 35 3 v C.length (flat C)) ∧ Hid (v ≠ .slice none 0 0) ∧ Hid (Coll M D left C) ∧ Hid (Keeps (w.alloc (.cells #[.int .i64 0, .slice none 0 0] 25)) wr))
    (fun _ wr => wr.rangeLeft b w1.heap.size)
  case atStart =>
    refine ⟨_, _, [], HRg0, ?_, ?_, ?_, coll_start HG.out HRep.out, ?_⟩
    · rw [HRep.out.size]; simp
    · show World.ownsRow _ _ _ _ _ _ _
      have := HRow1.out.kept HG0.out (Or.inr (by simp [Value.ownBlock]))
      simpa [flat] using this
    · show _ ≠ _
      simp
    · exact keeps_of (keeps_of (Keeps.refl _) HG1.out (by simp)) HG0.out (by simp)
  case round =>
    obtain ⟨left, cnt, C, HRg, hcs, HRow, HNn, HC, HK⟩ := hrel
    have hrg := HRg.out
    go_wp2_with (at_next; refine wpList_next_ranges _ rfl _ rfl 33 accKeyed (plainElem Try.prog 3) (fun x : Int × Int => accV x.1 x.2) (Value.int .i64) (fun key kl hk => by obtain ⟨k, c, rfl, _⟩ := key_inv hk; exact ⟨(k, c), rfl⟩) (fun v y hv => by obtain ⟨c, rfl, _⟩ := plainElem_int_inv Try.underlying3 hv; exact ⟨c, rfl⟩) b w1.heap.size n D left cnt rfl hrg ?_ ?_)
    · clear hrg
      intro hc0 hl0
      have HPerm := hide (coll_perm HG.out HC.out hl0)
      rcases HRow.out.2 with ⟨hnil, _⟩ | ⟨g, cap, cur, rfl, hbase, hb, h1, h2, h3, h4⟩
      · exact absurd hnil HNn.out
      have hgl : g < wr.heap.size := (Array.getElem?_eq_some_iff.1 hb).1
      obtain ⟨aa, cc, ev, hcl⟩ := own_cells HRow.out
      have hcells : ∀ j (h : j < (flat C).length), wr.cell? ⟨g, j, none⟩ = some (flat C)[j] := by
        injection ev with e1 e2 e3
        subst e1
        rcases hcl with h | ⟨b', off', e', h⟩
        · intro j hj; rw [h] at hj; simp at hj
        · injection e' with e'; injection e' with e1 e2
          subst e1 e2
          intro j hj
          have := h j hj
          rwa [Nat.zero_add] at this
      have hfz : ∀ j, wr.frozen? ⟨g, j, none⟩ = false := fun j => by simp [World.frozen?, hb]
      have HS := hide (sort_lines g cap C wr hcells hfz hgl (by omega))
      have HFz := hide hfz
      have HBase := hide hbase
      clear h1 h2 h3 h4 hb hcells hfz hcl ev HRow HNn HRg HC hc0 hl0
      go_wp2_with fail
      refine (unhide HS).mono ?_
      rintro e w4 ⟨rfl, C', hp, hs, hc4, hf4, hg4⟩
      have HF4 : Hid (∀ j, w4.frozen? ⟨g, j, none⟩ = false) := fun j => (hf4 j).trans (HFz.out j)
      have eM : C' = M := sorted_is HG.out (hp.trans HPerm.out) hs
      subst eM
      have hCl : C.length = C'.length := HPerm.out.length_eq
      have HK4 := hide (keeps_of HK.out hg4 (by intro r hr; injection hr with hr; have := HBase.out; simp; omega))
      have HRow4 := hide (Keeps.row HK4.out HR0.out)
      have q0 := HK4.out.cell ((Keeps.alloc (Keeps.refl w) (.cells #[.int .i64 0, .slice none 0 0] 25)).cell j0)
      have f0 := HRow4.out.frozen 0
      have f1 := HRow4.out.frozen 1
      have z0 := HRow4.out.cell (i := 0) (by decide)
      have z1 := HRow4.out.cell (i := 1) (by decide)
      simp at z0 z1
      have HC4 := hide hc4
      clear hp hs hg4 hc4 HS hf4 HFz
      go_wp2_with fail
      obtain ⟨o0, o1⟩ := row2_out HRow4.out (.int .i64 id) (.slice (some ⟨g, 0, none⟩) C'.length cap)
      refine bodyPost_ret (v := .agg #[.int .i64 id, .slice (some ⟨g, 0, none⟩) C'.length cap]) ?_ rfl ⟨⟨g, cap, rfl, Or.inr ⟨g, 0, rfl, fun j hj => ?_⟩, by have := HBase.out; omega, fun j => by rw [World.frozen?_setCell, World.frozen?_setCell]; exact HF4.out j⟩, Keeps.setCell (Keeps.setCell (HKA.out.trans HK4.out) (Nat.le_refl _) _) (Nat.le_refl _) _⟩
      · revert o0 o1
        clear HRow4 HK4 q0 f0 f1 z0 z1 HC4
        generalize World.setCell _ _ _ = W
        intro o0 o1
        simp [results, Try.results43, go_sem, o0, o1]
      · rw [Nat.zero_add, World.cell?_setCell_other _ _ _ _ (by have := HBase.out; simp; try omega), World.cell?_setCell_other _ _ _ _ (by have := HBase.out; simp; try omega)]
        exact HC4.out j hj
    · clear hrg
      intro k kc c kl yd yp w2 cnt2 hkey hlk hv hat hrg2 hlt hg2 hs2 hen
      have hC2 := (coll_step HG.out HRep.out HC.out hkey hlk hv hat).1
      have hrow2 := HRow.out.kept hg2 (Or.inr (fun e => own_not_iter HRow.out HRg.out e.symm))
      have HRow2 := hide (hrow2.alloc (.cells #[.int .i64 k, .int .i64 kc] 33))
      have HRow2a := hide ((hrow2.alloc (.cells #[.int .i64 k, .int .i64 kc] 33)).alloc (.cells #[.int .i64 k, .int .i64 kc, .int .i64 c] 35))
      have HRg2 := hide ((hrg2.alloc (.cells #[.int .i64 k, .int .i64 kc] 33)).alloc (.cells #[.int .i64 k, .int .i64 kc, .int .i64 c] 35))
      have HC2 := hide hC2
      have HK2 := hide (Keeps.alloc (Keeps.alloc (keeps_of HK.out hg2 (by intro r hr; injection hr with hr; have := HSz.out; simp; omega)) (.cells #[.int .i64 k, .int .i64 kc] 33)) (.cells #[.int .i64 k, .int .i64 kc, .int .i64 c] 35))
      have hbs : w.heap.size + 1 ≤ w2.heap.size := by
        have := HK.out.size
        have := hg2.size
        simp at *
        omega
      have HLt := hide hlt
      clear hkey hlk hv hat hrg2 hlt hg2 hs2 hC2 hrow2 HRow
      go_wp2_with (at_builtin; refine app_lineG (wr := w2.alloc (.cells #[.int .i64 k, .int .i64 kc] 33)) rfl (.tmp 22) (.tmp 26) rfl (w.heap.size + 1) u3 C ⟨k, kc, c⟩ rfl (by simp; rfl) HRow2.out (by omega) (by simp; omega) ?_; intro v' w3 hown' hg3 hnn')
      have hrg3 := HRg2.out.kept hg3 (own_not_map HRow2a.out HRg2.out.owns) (own_not_iter HRow2a.out HRg2.out)
      go_roundw
      case rel => exact ⟨_, cnt2, C ++ [Ln.mk k kc c], hide hrg3, by have := HLt.out; simp; omega, hide hown', hide hnn', HC2, keeps_of HK2.out hg3 (fun r hr => by have := (HRow2a.out.lt r hr).1; simp; omega)⟩
      case measure => rw [hrg3.left_eq, HRg.out.left_eq]; exact HLt.out
end Go.Proofs.Ytecjjkgdgmjgmaa
