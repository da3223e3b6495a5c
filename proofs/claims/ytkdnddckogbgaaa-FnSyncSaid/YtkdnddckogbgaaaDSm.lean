/- DiskSync of the model, by contract. -/
import Derived.Test.YtkdnddckogbgaaaDCm
import Derived.Test.YtkdnddckogbgaaaItg
namespace Go.Proofs.Ytkdnddckogbgaaa
open Go.RowKit Go.Deep
set_option linter.unusedVariables false
set_option linter.unusedSimpArgs false
set_option maxRecDepth 10000

theorem crashTo_congr {C : List (List UInt8)} {D : List (Int × List UInt8)} {f f' : Nat → Nat} (h : ∀ i, i < D.length → f i = f' i) : ∀ k, crashTo C D f k = crashTo C D f' k
  | 0 => rfl
  | k + 1 => by
    simp only [crashTo]
    rw [crashTo_congr h k]
    cases hD : D[k]? with
    | none => rfl
    | some x =>
      obtain ⟨hk, _⟩ := List.getElem?_eq_some_iff.1 hD
      simp only
      rw [h k hk]
theorem crash_sync (cs : List Bs) (ds : List Wr) : crashM (dat cs ds) (keepN (List.replicate ds.length 128)) = crashM (dat cs ds) (fun _ => 128) := by
  have e : ∀ i, i < (dat cs ds).dirty.length → keepN (List.replicate ds.length 128) i = (fun _ => 128) i := fun i hi => by
    have hi' : i < ds.length := by simpa [dat] using hi
    unfold keepN
    rw [List.getElem?_replicate, if_pos hi']
    rfl
  unfold crashM
  rw [crashTo_congr e]
theorem DiskRes.turned {w w1 w2 W : World} {v : Value} {M : DkM} {R : Nat} (h : DiskRes w1 w2 v M) (hk : Keeps w w1) (hT : Turn [R] w2 W) (hR : R < w1.heap.size) : DiskRes w W v M := by
  obtain ⟨ca, cc, cs, da, dc, ds, e1, e2, h1, h2, h3, hb⟩ := h
  refine ⟨ca, cc, cs, da, dc, ds, e1, e2, h1, h2, h3, ?_⟩
  refine (hb.turn hT (fun b hb' hx => ?_)).old hk
  have := hb.new b hb'
  have e : b = R := by simpa using hx
  omega
set_option maxHeartbeats 8000000 in
theorem disksync_spec (ca : Option Addr) (cc : Nat) (cs : List Bs) (da : Option Addr) (dc : Nat) (ds : List Wr) (w : World) (hm : Mem w (dsk ca cs da ds)) (h : DOk cs ds) :
    Calls Try.prog 49 #[dskV ca cs.length cc da ds.length dc] w fun e w' => ∃ v, e = .returned v ∧ DiskRes w w' v (crashM (dat cs ds) (fun _ => 128)) ∧ Keeps w w' := by
  have HKA := hide (Keeps.alloc (Keeps.alloc (Keeps.refl w) (.cells #[.slice ca cs.length cc, .slice da ds.length dc] 26)) (.cells #[.slice none 0 0, .slice none 0 0] 26))
  have HM := hide (hm.kept HKA.out)
  have HD : Hid (∀ w', Keeps ((w.alloc (.cells #[.slice ca cs.length cc, .slice da ds.length dc] 26)).alloc (.cells #[.slice none 0 0, .slice none 0 0] 26)) w' → w'.cell? ⟨w.heap.size, 0, none⟩ = some (.slice ca cs.length cc) ∧ w'.cell? ⟨w.heap.size, 1, none⟩ = some (.slice da ds.length dc)) :=
    fun w' hk => ⟨hk.cell (by simp), hk.cell (by simp)⟩
  have HZ : Hid (((w.alloc (.cells #[.slice ca cs.length cc, .slice da ds.length dc] 26)).alloc (.cells #[.slice none 0 0, .slice none 0 0] 26)).heap.size = w.heap.size + 1 + 1) := by show _ = _; rw [World.size_alloc, World.size_alloc]
  have HR := hide ((born_alloc (w.alloc (.cells #[.slice ca cs.length cc, .slice da ds.length dc] 26)) #[.slice none 0 0, .slice none 0 0] 26).toOwn)
  rw [World.size_alloc] at HR
  have HDO := hide h
  have hdl := h.d
  have HK0 := hide (Keeps.alloc (Keeps.refl ((w.alloc (.cells #[.slice ca cs.length cc, .slice da ds.length dc] 26)).alloc (.cells #[.slice none 0 0, .slice none 0 0] 26))) (.cells #[] 3))
  have HO0 := hide (World.ownsRow_made (base := ((w.alloc (.cells #[.slice ca cs.length cc, .slice da ds.length dc] 26)).alloc (.cells #[.slice none 0 0, .slice none 0 0] 26)).heap.size) (e := 3) (size := 1) ((w.alloc (.cells #[.slice ca cs.length cc, .slice da ds.length dc] 26)).alloc (.cells #[.slice none 0 0, .slice none 0 0] 26)) #[] 0 (Nat.le_refl _) (by decide) rfl)
  obtain ⟨d0, d1⟩ := HD.out _ HK0.out
  clear hm h
  go_enter Try.func49, Try.ntmps49
  go_wp2_with fail
  go_loopw [3, 8] (fun x y wr => ∃ k : Nat, k ≤ ds.length ∧ y = .int .i64 (k : Int) ∧ Hid (OwnsI wr (w.heap.size + 1 + 1) x (List.replicate k 128)) ∧ Hid (Keeps ((w.alloc (.cells #[.slice ca cs.length cc, .slice da ds.length dc] 26)).alloc (.cells #[.slice none 0 0, .slice none 0 0] 26)) wr)) (fun _ y _ => ds.length - (intOf y).toNat)
  case atStart => exact ⟨0, by omega, rfl, by have h := HO0.out; rw [HZ.out] at h; show OwnsI _ _ _ _; exact h, HK0⟩
  case round =>
    obtain ⟨k, hk, rfl, HOr, HKr⟩ := hrel
    clear d0 d1
    by_cases hlt : k < ds.length
    · have HOa := hide (World.ownsRow.alloc HOr.out (.cells #[.int .i64 128] 3))
      have HKa := hide (Keeps.alloc HKr.out (.cells #[.int .i64 128] 3))
      have HCx : Hid (∀ j u, (its [128])[j]? = some u → (wr.alloc (.cells #[.int .i64 128] 3)).cell? ((⟨wr.heap.size, 0, none⟩ : Addr).add j) = some u) := fun j u hj => by
        match j, hj with
        | 0, hj => simp [its] at hj; subst hj; simp [Addr.add]
        | n + 1, hj => simp [its] at hj
      have HLn : Hid ((List.replicate k (128 : Int)).length + [(128 : Int)].length ≤ 1048576) := by show _ ≤ _; simp; omega
      have hbz : w.heap.size + 1 + 1 ≤ wr.heap.size := by have := HKr.out.size; rw [HZ.out] at this; exact this
      go_wp2_with (at_builtin; refine app_its rfl (.tmp 10) (.tmp 11) rfl (w.heap.size + 1 + 1) _ (List.replicate k 128) [128] rfl ⟨wr.heap.size, 0, none⟩ 1 rfl HCx.out HOa.out HLn.out (by simp; omega) ?_; intro v' w' ho hg _)
      have HOn : Hid (OwnsI w' (w.heap.size + 1 + 1) v' (List.replicate (k + 1) 128)) := by show OwnsI _ _ _ _; rw [List.replicate_succ']; exact ho
      have HKn := hide (Keeps.grown HKa.out hg (fun j hj => by
        have h1 := (HOa.out.lt j hj).1
        rw [HZ.out]; exact h1))
      clear ho hg
      go_roundw
      case rel => exact ⟨k + 1, by omega, by go_num, HOn, HKn⟩
      case measure => simp [intOf]; omega
    · have e : k = ds.length := by omega
      subst e
      obtain ⟨ka, kc, hve, _, _, _, hown, _⟩ := Own.of_owns HOr.out
      have hrl : (List.replicate ds.length (128 : Int)).length = ds.length := by simp
      have HC := hide (diskcrash_spec ca cc cs da dc ds ka kc (List.replicate ds.length 128) wr (HM.out.kept HKr.out) HDO.out hown.one (by simp; omega))
      rw [hrl] at hve HC
      obtain ⟨d0, d1⟩ := HD.out _ HKr.out
      subst hve
      clear hown hrl
      go_wp2_with fail
      refine (unhide HC).mono ?_
      rintro x w4 ⟨v, rfl, hdr, hk4⟩
      rw [crash_sync] at hdr
      have HDR : Hid (∀ W, Turn [w.heap.size + 1] w4 W → DiskRes w W v (crashM (dat cs ds) (fun _ => 128))) := fun W hT => hdr.turned (HKA.out.trans HKr.out) hT (by have := HKr.out.size; rw [HZ.out] at this; omega)
      obtain ⟨ca', cc', cs', da', dc', ds', hv, _⟩ := hdr
      have hO := (HR.out.kept HKr.out).kept hk4
      have r0 := cell_at hO.mem 0 (by simp)
      have r1 := cell_at hO.mem 1 (by simp)
      simp only [Nat.zero_add, List.getElem_cons_zero, List.getElem_cons_succ] at r0 r1
      have fR : ∀ i, w4.frozen? ⟨w.heap.size + 1, i, none⟩ = false := hO.free (w.heap.size + 1) (by rw [fp_one, fpS_some (by simp)]; simp)
      have HT1 : Hid (Turn [w.heap.size + 1] w4 ((w4.setCell ⟨w.heap.size + 1, 0, none⟩ (.slice ca' cs'.length cc')).setCell ⟨w.heap.size + 1, 1, none⟩ (.slice da' ds'.length dc'))) := (Turn.set (by simp) _).trans' (Turn.set (by simp) _)
      have HKF := hide ((((HKA.out.trans HKr.out).trans hk4).setCell (p := ⟨w.heap.size + 1, 0, none⟩) (Nat.le_succ _) (.slice ca' cs'.length cc')).setCell (p := ⟨w.heap.size + 1, 1, none⟩) (Nat.le_succ _) (.slice da' ds'.length dc'))
      have E0 : Hid (((w4.setCell ⟨w.heap.size + 1, 0, none⟩ (.slice ca' cs'.length cc')).setCell ⟨w.heap.size + 1, 1, none⟩ (.slice da' ds'.length dc')).cell? ⟨w.heap.size + 1, 0, none⟩ = some (.slice ca' cs'.length cc')) := by
        show _ = _
        rw [World.cell?_setCell_other _ _ _ _ (by simp)]; exact World.cell?_setCell_same _ _ _ r0
      have E1 : Hid (((w4.setCell ⟨w.heap.size + 1, 0, none⟩ (.slice ca' cs'.length cc')).setCell ⟨w.heap.size + 1, 1, none⟩ (.slice da' ds'.length dc')).cell? ⟨w.heap.size + 1, 1, none⟩ = some (.slice da' ds'.length dc')) := by
        show _ = _
        refine World.cell?_setCell_same _ _ _ (u := .slice none 0 0) ?_
        rw [World.cell?_setCell_other _ _ _ _ (by simp)]; exact r1
      subst hv
      clear hO hk4 d0 d1
      go_wp2_with fail
      have e0 := E0.out
      have e1 := E1.out
      have hT := HT1.out
      have hK := HKF.out
      clear r0 r1 fR E0 E1 HT1 HKF
      revert e0 e1 hT hK
      generalize (w4.setCell ⟨w.heap.size + 1, 0, none⟩ (.slice ca' cs'.length cc')).setCell ⟨w.heap.size + 1, 1, none⟩ (.slice da' ds'.length dc') = W
      intro e0 e1 hT hK
      refine bodyPost_ret (v := dskV ca' cs'.length cc' da' ds'.length dc') (by simp [results, Try.results49, go_sem, e0, e1]) rfl ⟨_, rfl, HDR.out W hT, hK⟩
end Go.Proofs.Ytkdnddckogbgaaa
