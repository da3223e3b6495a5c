/- What the laws do with disks. -/
import Derived.Test.YtkgpoghoilffhaaDGX
namespace Go.Proofs.Ytkgpoghoilffhaa
open Go.RowKit Go.Deep Go.ChangeShapes Go.WideShapes
set_option linter.unusedVariables false
set_option maxRecDepth 10000

abbrev dskV (ca : Option Addr) (cn cc : Nat) (da : Option Addr) (dn dc : Nat) : Value := .agg #[.slice ca cn cc, .slice da dn dc]
/-- The lists of a disk. -/
def dsk (ca : Option Addr) (cs : List Bs) (da : Option Addr) (ds : List Wr) : List Seg := ((ca, ccells cs) :: cs.map Bs.seg) ++ ((da, wcells ds) :: ds.map Wr.seg)
theorem dsk_mem {w : World} {ca : Option Addr} {cs : List Bs} {da : Option Addr} {ds : List Wr} (h : Mem w (dsk ca cs da ds)) : Cells w ca (ccells cs) ∧ Mem w (cs.map Bs.seg) ∧ Cells w da (wcells ds) ∧ Mem w (ds.map Wr.seg) := by
  obtain ⟨h1, h2⟩ := mem_append.1 h
  obtain ⟨h3, h4⟩ := mem_cons.1 h1
  obtain ⟨h5, h6⟩ := mem_cons.1 h2
  exact ⟨h3, h4, h5, h6⟩
set_option maxHeartbeats 1000000 in
theorem eqDisk_k (ca : Option Addr) (cc : Nat) (cs : List Bs) (da : Option Addr) (dc : Nat) (ds : List Wr) (ca' : Option Addr) (cc' : Nat) (cs' : List Bs) (da' : Option Addr) (dc' : Nat) (ds' : List Wr) (w : World)
    (e1 : cs'.map Bs.L = cs.map Bs.L) (e2 : ds'.map Wr.key = ds.map Wr.key) (hm : Mem w (dsk ca cs da ds)) (hm' : Mem w (dsk ca' cs' da' ds')) (hl : cs.length ≤ 1048576) (hl' : ds.length ≤ 1048576) (ht : ∀ b ∈ cs, b.L.length ≤ 16777216) (ht' : ∀ x ∈ ds, x.b.L.length ≤ 16777216) :
    Calls Try.prog 12 #[dskV ca cs.length cc da ds.length dc, dskV ca' cs'.length cc' da' ds'.length dc'] w fun e w' => e = .returned (.bool true) ∧ Keeps w w' := by
  have HKA := hide (Keeps.alloc (Keeps.alloc (Keeps.refl w) (.cells #[.slice ca cs.length cc, .slice da ds.length dc] 25)) (.cells #[.slice ca' cs'.length cc', .slice da' ds'.length dc'] 25))
  have HD : Hid (∀ w', Keeps ((w.alloc (.cells #[.slice ca cs.length cc, .slice da ds.length dc] 25)).alloc (.cells #[.slice ca' cs'.length cc', .slice da' ds'.length dc'] 25)) w' → w'.cell? ⟨w.heap.size, 1, none⟩ = some (.slice da ds.length dc) ∧ w'.cell? ⟨w.heap.size + 1, 1, none⟩ = some (.slice da' ds'.length dc')) :=
    fun w' hk => ⟨hk.cell (by simp), hk.cell (by simp)⟩
  have HM := hide (hm.kept HKA.out)
  have HM' := hide (hm'.kept HKA.out)
  have HQ := hide (eqCellS_k ca ca' cc cc' cs cs' _ e1 (dsk_mem HM.out).1 (dsk_mem HM.out).2.1 (dsk_mem HM'.out).1 (dsk_mem HM'.out).2.1 hl ht)
  have HQ2 := hide (fun w1 (hm : Mem w1 (dsk ca cs da ds)) (hm' : Mem w1 (dsk ca' cs' da' ds')) => eqWriteS_k da da' dc dc' ds ds' w1 e2 (dsk_mem hm).2.2.1 (dsk_mem hm).2.2.2 (dsk_mem hm').2.2.1 (dsk_mem hm').2.2.2 hl' ht')
  clear hm hm' e1 e2 hl hl' ht ht'
  go_enter Try.func12, Try.ntmps12
  go_wp2_with fail
  refine (unhide HQ).mono ?_
  rintro x w1 ⟨rfl, hk⟩
  obtain ⟨d0, d1⟩ := HD.out _ hk
  replace HQ2 := hide (HQ2.out w1 (HM.out.kept hk) (HM'.out.kept hk))
  replace HKA := hide (HKA.out.trans hk)
  clear hk HQ HD
  go_wp2_with fail
  refine (unhide HQ2).mono ?_
  rintro x w2 ⟨rfl, hk⟩
  replace HKA := hide (HKA.out.trans hk)
  clear hk
  go_wp2_with fail
  go_ret
  exact ⟨rfl, HKA.out⟩
theorem fp_segC : ∀ (n : Nat) (cs : List Bs), fp ((markC n cs).map Bs.seg) = fp (cs.map Bs.seg)
  | _, [] => rfl
  | n, b :: t => by
    simp only [markC, List.map_cons, fp_cons, fp_segC (n + b.L.length) t]
    congr 1
    exact fpS_len (by simp [bys_length, marksB_length])
theorem fp_markC (n : Nat) (ca : Option Addr) (cs : List Bs) : fp ((ca, ccells cs) :: (markC n cs).map Bs.seg) = fp ((ca, ccells cs) :: cs.map Bs.seg) := by
  rw [fp_cons, fp_cons, fp_segC]
theorem fp_segW : ∀ (n : Nat) (ds : List Wr), fp ((markW n ds).map Wr.seg) = fp (ds.map Wr.seg)
  | _, [] => rfl
  | n, b :: t => by
    simp only [markW, List.map_cons, fp_cons, fp_segW (n + 1 + b.b.L.length) t]
    congr 1
    exact fpS_len (by simp [bys_length, marksB_length])
theorem fp_markW (n : Nat) (da : Option Addr) (ds : List Wr) : fp ((da, wcells (markW n ds)) :: (markW n ds).map Wr.seg) = fp ((da, wcells ds) :: ds.map Wr.seg) := by
  rw [fp_cons, fp_cons, fp_segW]
  congr 1
  exact fpS_len (by simp [wcells_len, markW_len])
set_option maxHeartbeats 1000000 in
theorem markDisk_k (ca : Option Addr) (cc : Nat) (cs : List Bs) (da : Option Addr) (dc : Nat) (ds : List Wr) (n : Nat) (w : World) (h : Own w (dsk ca cs da ds)) (hl : cs.length ≤ 1048576) (hl' : ds.length ≤ 1048576) (ht : tot cs ≤ 16777216) (ht' : totW ds ≤ 16777216) (hn : n ≤ 100000000) :
    Calls Try.prog 16 #[dskV ca cs.length cc da ds.length dc, .int .i64 (n : Int)] w fun e w' => e = .returned (.int .i64 ((n + tot cs + ds.length + totW ds : Nat) : Int)) ∧ Own w' (dsk ca (markC n cs) da (markW (n + tot cs) ds)) ∧ Turn (fp (dsk ca cs da ds)) w w' := by
  have HKA := hide (Keeps.alloc (Keeps.refl w) (.cells #[.slice ca cs.length cc, .slice da ds.length dc] 25))
  have HO := hide (h.kept HKA.out)
  have HX : Hid (∀ b ∈ fp (dsk ca cs da ds), b < w.heap.size) := h.mem.lt
  have HM := hide (markCellS_k ca cc cs n _ (Own.left HO.out) hl ht (by omega))
  clear h
  go_enter Try.func16, Try.ntmps16
  go_wp2_with fail
  have hcell : (w.alloc (.cells #[.slice ca cs.length cc, .slice da ds.length dc] 25)).cell? ⟨w.heap.size, 1, none⟩ = some (.slice da ds.length dc) := by simp
  generalize w.alloc (.cells #[.slice ca cs.length cc, .slice da ds.length dc] 25) = W at *
  refine (unhide HM).mono ?_
  rintro e w1 ⟨rfl, ho, htu⟩
  have d1 := htu.cell (p := ⟨w.heap.size, 1, none⟩) (fun hx => by have := HX.out w.heap.size (by unfold dsk; rw [fp_append]; exact List.mem_append_left _ hx); omega) hcell
  have hr : Own w1 ((da, wcells ds) :: ds.map Wr.seg) := (Own.right HO.out).turn htu (fun b hb hb' => HO.out.apart b hb' hb)
  have HA : Hid (∀ b ∈ fp ((ca, ccells cs) :: cs.map Bs.seg), b ∉ fp ((da, wcells ds) :: ds.map Wr.seg)) := HO.out.apart
  have HO1 := hide ho
  have HT := hide ((Turn.of_keeps HKA.out (fp (dsk ca cs da ds))).trans' (htu.mono (fun x hx => by unfold dsk; rw [fp_append]; exact List.mem_append_left _ hx)))
  have hm2 := markWriteS_k da dc ds (n + tot cs) w1 hr hl' ht' (by omega)
  simp only [Int.natCast_add] at hm2
  have HM2 := hide hm2
  clear ho htu hr HO hm2 hcell
  go_wp2_with fail
  refine (unhide HM2).mono ?_
  rintro e w2 ⟨rfl, ho, htu⟩
  have HO2 := hide ho
  have hfC : fp ((ca, ccells cs) :: (markC n cs).map Bs.seg) = fp ((ca, ccells cs) :: cs.map Bs.seg) := fp_markC n ca cs
  have HO3 : Hid (Own w2 ((ca, ccells cs) :: (markC n cs).map Bs.seg)) := HO1.out.turn htu (fun b hb => HA.out b (by rw [hfC] at hb; exact hb))
  have HT2 := hide (HT.out.trans' (htu.mono (fun x hx => by unfold dsk; rw [fp_append]; exact List.mem_append_right _ hx)))
  clear ho htu
  go_wp2_with fail
  go_ret
  refine ⟨by simp, ?_, HT2.out⟩
  unfold dsk
  rw [markC_cells]
  refine HO3.out.append HO2.out (fun b hb hb' => ?_)
  rw [hfC] at hb
  rw [fp_markW] at hb'
  exact HA.out b hb hb'
set_option maxHeartbeats 1000000 in
theorem heldDisk_k (ca : Option Addr) (cc : Nat) (cs : List Bs) (da : Option Addr) (dc : Nat) (ds : List Wr) (n : Nat) (w : World) (h : Mem w (dsk ca (markC n cs) da (markW (n + tot cs) ds))) (hl : cs.length ≤ 1048576) (hl' : ds.length ≤ 1048576) (ht : tot cs ≤ 16777216) (ht' : totW ds ≤ 16777216) (hn : n ≤ 100000000) :
    Calls Try.prog 20 #[dskV ca cs.length cc da ds.length dc, .int .i64 (n : Int)] w fun e w' => e = .returned (.int .i64 ((n + tot cs + ds.length + totW ds : Nat) : Int)) ∧ Keeps w w' := by
  have HKA := hide (Keeps.alloc (Keeps.refl w) (.cells #[.slice ca cs.length cc, .slice da ds.length dc] 25))
  obtain ⟨h1, h2, h3, h4⟩ := dsk_mem (h.kept HKA.out)
  rw [markC_cells] at h1
  have HH := hide (heldCellS_k ca cc cs n _ h1 h2 hl ht (by omega))
  have hh2 := heldWriteS_k da dc ds (n + tot cs) _ h3 h4 hl' ht' (by omega)
  simp only [Int.natCast_add] at hh2
  have HH2 := hide hh2
  clear h h1 h2 h3 h4 hh2
  go_enter Try.func20, Try.ntmps20
  go_wp2_with fail
  refine (unhide HH).mono ?_
  rintro e w1 ⟨rfl, hw⟩
  subst hw
  go_wp2_with fail
  refine (unhide HH2).mono ?_
  rintro e w1 ⟨rfl, hw⟩
  subst hw
  go_wp2_with fail
  go_ret
  exact ⟨by simp, HKA.out⟩
section
variable {H : Type} {enc : TypeId × Value → H} {W : World} {n : Nat} {cs : List Value} {y : DataW H × List MemPlace} {base : Nat} {sp : Nat → Bool} {hd : Bool} {v : Value} {d : DataW H} {ps : List MemPlace}
theorem cells_of : ∀ M : List (List Value), (∀ c ∈ M, c.length = 1 ∧ ∃ b : Bs, c = b.cells ∧ Cells W b.a (bys b.L) ∧ b.ok) → ∃ cs : List Bs, cs.length = M.length ∧ M.flatten = ccells cs ∧ Mem W (cs.map Bs.seg) ∧ ∀ b ∈ cs, b.ok
  | [], _ => ⟨[], rfl, rfl, Mem.nil W, fun b hb => absurd hb (by simp)⟩
  | c :: M, h => by
    obtain ⟨cs, hl, hf, hm, ho⟩ := cells_of M (fun c hc => h c (List.mem_cons_of_mem _ hc))
    obtain ⟨_, b, rfl, hc, hb⟩ := h c (List.mem_cons_self ..)
    refine ⟨b :: cs, by simp [hl], by simp [ccells, hf], mem_cons.2 ⟨hc, hm⟩, ?_⟩
    intro x hx
    rcases List.mem_cons.1 hx with rfl | hx
    · exact hb
    · exact ho x hx
theorem writes_of : ∀ M : List (List Value), (∀ c ∈ M, c.length = 2 ∧ ∃ x : Wr, c = x.cells ∧ Cells W x.b.a (bys x.b.L) ∧ x.b.ok ∧ (Lit.int .i64 x.i).wf = true) → ∃ ds : List Wr, ds.length = M.length ∧ M.flatten = wcells ds ∧ Mem W (ds.map Wr.seg) ∧ ∀ x ∈ ds, x.b.ok ∧ (Lit.int .i64 x.i).wf = true
  | [], _ => ⟨[], rfl, rfl, Mem.nil W, fun b hb => absurd hb (by simp)⟩
  | c :: M, h => by
    obtain ⟨ds, hl, hf, hm, ho⟩ := writes_of M (fun c hc => h c (List.mem_cons_of_mem _ hc))
    obtain ⟨_, b, rfl, hc, hb⟩ := h c (List.mem_cons_self ..)
    refine ⟨b :: ds, by simp [hl], by simp [wcells, hf], mem_cons.2 ⟨hc, hm⟩, ?_⟩
    intro x hx
    rcases List.mem_cons.1 hx with rfl | hx
    · exact hb
    · exact ho x hx
end
end Go.Proofs.Ytkgpoghoilffhaa
