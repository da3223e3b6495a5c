/- What the laws do with logs, and LogSync. -/
import Derived.Test.YtphabdjhmahemaaDSm
namespace Go.Proofs.Ytphabdjhmahemaa
open Go.RowKit Go.Deep
set_option linter.unusedVariables false
set_option maxRecDepth 10000

abbrev logV (ca : Option Addr) (cn cc : Nat) (da : Option Addr) (dn dc : Nat) (nx ep : Int) : Value := .agg #[.slice ca cn cc, .slice da dn dc, .int .i64 nx, .int .i64 ep]
/-- A log that was made behind w. -/
def LogRes (w w' : World) (v : Value) (M : DkM) (nx ep : Int) : Prop := ∃ (ca : Option Addr) (cc : Nat) (cs : List Bs) (da : Option Addr) (dc : Nat) (ds : List Wr), v = logV ca cs.length cc da ds.length dc nx ep ∧ dat cs ds = M ∧ DOk cs ds ∧ (ca = none → cc = 0) ∧ (da = none → dc = 0) ∧ Born w w' (dsk ca cs da ds)
def noM : DkM := ⟨[], []⟩
theorem LogRes.none (w w' : World) : LogRes w w' (.agg #[.slice none 0 0, .slice none 0 0, .int .i64 0, .int .i64 0]) noM 0 0 :=
  ⟨Option.none, 0, [], Option.none, 0, [], rfl, rfl, ⟨by simp, by simp, by simp [tot], by simp [totW], by simp, by simp⟩, fun _ => rfl, fun _ => rfl, by
    refine ⟨⟨?_, ?_, ?_⟩, ?_⟩
    · intro s hs
      have : s = (Option.none, []) := by simpa [dsk, ccells, wcells] using hs
      rw [this]
      exact Or.inl rfl
    · simp [fp, fpS, dsk, ccells, wcells]
    · intro b hb
      simp [fp, fpS, dsk, ccells, wcells] at hb
    · intro b hb
      simp [fp, fpS, dsk, ccells, wcells] at hb⟩
set_option maxHeartbeats 2000000 in
theorem toLog' (ca : Option Addr) (cc : Nat) (cs : List Bs) (da : Option Addr) (dc : Nat) (ds : List Wr) (nx ep : Int) (w : World) (hm : Mem w (dsk ca cs da ds)) (h : DOk cs ds) :
    Calls Try.prog 18 #[logV ca cs.length cc da ds.length dc nx ep] w fun e w' => ∃ v, e = .returned v ∧ LogRes w w' v (dat cs ds) nx ep ∧ Keeps w w' := by
  have HKA := hide (Keeps.alloc (Keeps.alloc (Keeps.alloc (Keeps.refl w) (.cells #[.slice ca cs.length cc, .slice da ds.length dc, .int .i64 nx, .int .i64 ep] 42)) (.cells #[.slice none 0 0, .slice none 0 0, .int .i64 0, .int .i64 0] 47)) (.cells #[.slice none 0 0, .slice none 0 0, .int .i64 0, .int .i64 0] 47))
  have HZ : Hid ((((w.alloc (.cells #[.slice ca cs.length cc, .slice da ds.length dc, .int .i64 nx, .int .i64 ep] 42)).alloc (.cells #[.slice none 0 0, .slice none 0 0, .int .i64 0, .int .i64 0] 47)).alloc (.cells #[.slice none 0 0, .slice none 0 0, .int .i64 0, .int .i64 0] 47)).heap.size = w.heap.size + 3) := by show _ = _; rw [World.size_alloc, World.size_alloc, World.size_alloc]
  have HM := hide (hm.kept HKA.out)
  have HT := hide (toDisk' ca cc cs da dc ds _ HM.out h)
  have HR1 := hide ((row_new (w.alloc (.cells #[.slice ca cs.length cc, .slice da ds.length dc, .int .i64 nx, .int .i64 ep] 42)) #[.slice none 0 0, .slice none 0 0, .int .i64 0, .int .i64 0] 47).alloc (.cells #[.slice none 0 0, .slice none 0 0, .int .i64 0, .int .i64 0] 47))
  have HR2 := hide (row_new ((w.alloc (.cells #[.slice ca cs.length cc, .slice da ds.length dc, .int .i64 nx, .int .i64 ep] 42)).alloc (.cells #[.slice none 0 0, .slice none 0 0, .int .i64 0, .int .i64 0] 47)) #[.slice none 0 0, .slice none 0 0, .int .i64 0, .int .i64 0] 47)
  have HS : Hid (((w.alloc (.cells #[.slice ca cs.length cc, .slice da ds.length dc, .int .i64 nx, .int .i64 ep] 42)).alloc (.cells #[.slice none 0 0, .slice none 0 0, .int .i64 0, .int .i64 0] 47)).heap.size = w.heap.size + 1 + 1 ∧ (w.alloc (.cells #[.slice ca cs.length cc, .slice da ds.length dc, .int .i64 nx, .int .i64 ep] 42)).heap.size = w.heap.size + 1) := by show _ ∧ _; exact ⟨by simp, by simp⟩
  have HC2 : Hid ((((w.alloc (.cells #[.slice ca cs.length cc, .slice da ds.length dc, .int .i64 nx, .int .i64 ep] 42)).alloc (.cells #[.slice none 0 0, .slice none 0 0, .int .i64 0, .int .i64 0] 47)).alloc (.cells #[.slice none 0 0, .slice none 0 0, .int .i64 0, .int .i64 0] 47)).cell? ⟨w.heap.size, 2, none⟩ = some (.int .i64 nx)) := Keeps.cell (w := (w.alloc (.cells #[.slice ca cs.length cc, .slice da ds.length dc, .int .i64 nx, .int .i64 ep] 42))) (Keeps.alloc (Keeps.alloc (Keeps.refl _) _) _) (by simp)
  have HC3 : Hid ((((w.alloc (.cells #[.slice ca cs.length cc, .slice da ds.length dc, .int .i64 nx, .int .i64 ep] 42)).alloc (.cells #[.slice none 0 0, .slice none 0 0, .int .i64 0, .int .i64 0] 47)).alloc (.cells #[.slice none 0 0, .slice none 0 0, .int .i64 0, .int .i64 0] 47)).cell? ⟨w.heap.size, 3, none⟩ = some (.int .i64 ep)) := Keeps.cell (w := (w.alloc (.cells #[.slice ca cs.length cc, .slice da ds.length dc, .int .i64 nx, .int .i64 ep] 42))) (Keeps.alloc (Keeps.alloc (Keeps.refl _) _) _) (by simp)
  rw [HS.out.1] at HR2
  rw [HS.out.2] at HR1
  clear hm h HS HM
  go_enter Try.func18, Try.ntmps18
  go_wp2_with fail
  generalize (((w.alloc (.cells #[.slice ca cs.length cc, .slice da ds.length dc, .int .i64 nx, .int .i64 ep] 42)).alloc (.cells #[.slice none 0 0, .slice none 0 0, .int .i64 0, .int .i64 0] 47)).alloc (.cells #[.slice none 0 0, .slice none 0 0, .int .i64 0, .int .i64 0] 47)) = W0 at *
  refine (unhide HT).mono ?_
  rintro e w1 ⟨v, rfl, hr, hk⟩
  obtain ⟨ca2, cc2, cs2, da2, dc2, ds2, rfl, he, hok, hna, hnd, hb⟩ := hr
  replace HR1 := hide (hk.row HR1.out)
  replace HR2 := hide (hk.row HR2.out)
  have c2 := hk.cell HC2.out
  have c3 := hk.cell HC3.out
  have r0 := HR2.out.cell (i := 0) (by decide)
  have r1 := HR2.out.cell (i := 1) (by decide)
  have r2 := HR2.out.cell (i := 2) (by decide)
  have r3 := HR2.out.cell (i := 3) (by decide)
  have f0 := HR2.out.frozen 0
  have f1 := HR2.out.frozen 1
  have f2 := HR2.out.frozen 2
  have f3 := HR2.out.frozen 3
  have q0 := HR1.out.cell (i := 0) (by decide)
  have q1 := HR1.out.cell (i := 1) (by decide)
  have q2 := HR1.out.cell (i := 2) (by decide)
  have q3 := HR1.out.cell (i := 3) (by decide)
  have g0 := HR1.out.frozen 0
  have g1 := HR1.out.frozen 1
  have g2 := HR1.out.frozen 2
  have g3 := HR1.out.frozen 3
  simp only [Array.getD] at r0 r1 r2 r3 q0 q1 q2 q3
  simp at r0 r1 r2 r3 q0 q1 q2 q3
  have hz : w.heap.size + 3 ≤ w1.heap.size := by have := hk.size; have := HZ.out; omega
  have HK := hide hk
  have HB := hide hb
  have HF := hide (⟨he, hok, hna, hnd⟩ : _ ∧ _ ∧ _ ∧ _)
  clear hk hb he hok hna hnd HT HR2 HC2 HC3
  go_wp2_with fail
  have r9 := ((((((((HR1.out.setOther (a := ⟨w.heap.size + 1 + 1, 0, none⟩) (by simp) (.slice ca2 cs2.length cc2)).setOther (a := ⟨w.heap.size + 1 + 1, 1, none⟩) (by simp) (.slice da2 ds2.length dc2)).setOther (a := ⟨w.heap.size + 1 + 1, 2, none⟩) (by simp) (.int .i64 nx)).setOther (a := ⟨w.heap.size + 1 + 1, 3, none⟩) (by simp) (.int .i64 ep)).set 0 (.slice ca2 cs2.length cc2)).set 1 (.slice da2 ds2.length dc2)).set 2 (.int .i64 nx)).set 3 (.int .i64 ep))
  have c0 := r9.cell (i := 0) (by decide)
  have c1 := r9.cell (i := 1) (by decide)
  have c2 := r9.cell (i := 2) (by decide)
  have c3 := r9.cell (i := 3) (by decide)
  simp at c0 c1 c2 c3
  have HS : Hid (Turn [w.heap.size + 1, w.heap.size + 1 + 1] w1 ((((((((w1.setCell ⟨w.heap.size + 1 + 1, 0, none⟩ (.slice ca2 cs2.length cc2)).setCell ⟨w.heap.size + 1 + 1, 1, none⟩ (.slice da2 ds2.length dc2)).setCell ⟨w.heap.size + 1 + 1, 2, none⟩ (.int .i64 nx)).setCell ⟨w.heap.size + 1 + 1, 3, none⟩ (.int .i64 ep)).setCell ⟨w.heap.size + 1, 0, none⟩ (.slice ca2 cs2.length cc2)).setCell ⟨w.heap.size + 1, 1, none⟩ (.slice da2 ds2.length dc2)).setCell ⟨w.heap.size + 1, 2, none⟩ (.int .i64 nx)).setCell ⟨w.heap.size + 1, 3, none⟩ (.int .i64 ep))) := ((((((((Turn.set (by simp) _).trans' (Turn.set (by simp) _)).trans' (Turn.set (by simp) _)).trans' (Turn.set (by simp) _)).trans' (Turn.set (by simp) _)).trans' (Turn.set (by simp) _)).trans' (Turn.set (by simp) _)).trans' (Turn.set (by simp) _))
  clear r9 HR1 r0 r1 r2 r3 f0 f1 f2 f3 q0 q1 q2 q3 g0 g1 g2 g3
  revert c0 c1 c2 c3 HS
  generalize World.setCell _ _ _ = W
  intro c0 c1 c2 c3 HS
  refine bodyPost_ret (v := logV ca2 cs2.length cc2 da2 ds2.length dc2 nx ep) ?_ rfl ⟨_, rfl, ⟨ca2, cc2, cs2, da2, dc2, ds2, rfl, HF.out.1, HF.out.2.1, HF.out.2.2.1, HF.out.2.2.2, ?_⟩, ?_⟩
  · simp [results, Try.results18, go_sem, c0, c1, c2, c3]
  · refine (HB.out.turn HS.out ?_).old HKA.out
    intro b hb hx
    have := HB.out.new b hb
    have := HZ.out
    simp at hx
    omega
  · refine HS.out.keeps (HKA.out.trans HK.out) ?_
    intro b hb
    simp at hb
    omega
set_option maxHeartbeats 2000000 in
theorem eqLog' (ca : Option Addr) (cc : Nat) (cs : List Bs) (da : Option Addr) (dc : Nat) (ds : List Wr) (ca2 : Option Addr) (cc2 : Nat) (cs2 : List Bs) (da2 : Option Addr) (dc2 : Nat) (ds2 : List Wr) (nx ep : Int) (w : World) (e : dat cs2 ds2 = dat cs ds) (hm : Mem w (dsk ca cs da ds)) (hm' : Mem w (dsk ca2 cs2 da2 ds2)) (h : DOk cs ds) :
    Calls Try.prog 21 #[logV ca cs.length cc da ds.length dc nx ep, logV ca2 cs2.length cc2 da2 ds2.length dc2 nx ep] w fun e w' => e = .returned (.bool true) ∧ Keeps w w' := by
  have HKA := hide (Keeps.alloc (Keeps.alloc (Keeps.refl w) (.cells #[.slice ca cs.length cc, .slice da ds.length dc, .int .i64 nx, .int .i64 ep] 47)) (.cells #[.slice ca2 cs2.length cc2, .slice da2 ds2.length dc2, .int .i64 nx, .int .i64 ep] 47))
  have HT := hide (eqDisk' ca cc cs da dc ds ca2 cc2 cs2 da2 dc2 ds2 _ e (hm.kept HKA.out) (hm'.kept HKA.out) h)
  have HD : Hid (∀ w', Keeps ((w.alloc (.cells #[.slice ca cs.length cc, .slice da ds.length dc, .int .i64 nx, .int .i64 ep] 47)).alloc (.cells #[.slice ca2 cs2.length cc2, .slice da2 ds2.length dc2, .int .i64 nx, .int .i64 ep] 47)) w' → (w'.cell? ⟨w.heap.size, 2, none⟩ = some (.int .i64 nx) ∧ w'.cell? ⟨w.heap.size, 3, none⟩ = some (.int .i64 ep)) ∧ (w'.cell? ⟨w.heap.size + 1, 2, none⟩ = some (.int .i64 nx) ∧ w'.cell? ⟨w.heap.size + 1, 3, none⟩ = some (.int .i64 ep))) :=
    fun w' hk => ⟨⟨hk.cell (by simp), hk.cell (by simp)⟩, ⟨hk.cell (by simp), hk.cell (by simp)⟩⟩
  clear hm hm' h e
  go_enter Try.func21, Try.ntmps21
  go_wp2_with fail
  refine (unhide HT).mono ?_
  rintro x w1 ⟨rfl, hk⟩
  obtain ⟨⟨c0, c1⟩, c2, c3⟩ := HD.out _ hk
  replace HKA := hide (HKA.out.trans hk)
  clear hk HD HT
  go_wp2_with fail
  go_ret
  exact ⟨rfl, HKA.out⟩
set_option maxHeartbeats 2000000 in
theorem szLog' (ca : Option Addr) (cc : Nat) (cs : List Bs) (da : Option Addr) (dc : Nat) (ds : List Wr) (nx ep : Int) (w : World) (hm : Mem w (dsk ca cs da ds)) (ho : Dk.ok ⟨ca, cc, cs, da, dc, ds⟩) :
    Calls Try.prog 16 #[logV ca cs.length cc da ds.length dc nx ep, .int .i64 1048576] w fun e w' => ∃ r : Int, e = .returned (.int .i64 r) ∧ (0 ≤ r → DOk cs ds) ∧ Keeps w w' := by
  have HKA := hide (Keeps.alloc (Keeps.refl w) (.cells #[.slice ca cs.length cc, .slice da ds.length dc, .int .i64 nx, .int .i64 ep] 42))
  have HT := hide (szDisk' ca cc cs da dc ds _ (hm.kept HKA.out) ho)
  clear hm ho
  go_enter Try.func16, Try.ntmps16
  go_wp2_with fail
  refine (unhide HT).mono ?_
  rintro x w1 ⟨r, rfl, hr, hk⟩
  have HR := hide hr
  replace HKA := hide (HKA.out.trans hk)
  clear hk hr HT
  by_cases h0 : r < 0
  · go_wp2_with fail
    go_ret
    exact ⟨-1, rfl, fun h => absurd h (by decide), HKA.out⟩
  · go_wp2_with fail
    go_ret
    exact ⟨r, rfl, HR.out, HKA.out⟩
set_option maxHeartbeats 2000000 in
theorem markLog' (ca : Option Addr) (cc : Nat) (cs : List Bs) (da : Option Addr) (dc : Nat) (ds : List Wr) (nx ep : Int) (w : World) (ho : Own w (dsk ca cs da ds)) (h : DOk cs ds) :
    Calls Try.prog 22 #[logV ca cs.length cc da ds.length dc nx ep, .int .i64 1] w fun e w' => e = .returned (.int .i64 ((1 + tot cs + ds.length + totW ds : Nat) : Int)) ∧ Own w' (dsk ca (markC 1 cs) da (markW (1 + tot cs) ds)) ∧ Turn (fp (dsk ca cs da ds)) w w' := by
  have HKA := hide (Keeps.alloc (Keeps.refl w) (.cells #[.slice ca cs.length cc, .slice da ds.length dc, .int .i64 nx, .int .i64 ep] 47))
  have HT := hide (markDisk' ca cc cs da dc ds _ (ho.kept HKA.out) h)
  clear ho h
  go_enter Try.func22, Try.ntmps22
  go_wp2_with fail
  refine (unhide HT).mono ?_
  rintro x w1 ⟨rfl, ho, ht⟩
  have HO := hide ho
  have HTu := hide (((Turn.of_keeps HKA.out (fp (dsk ca cs da ds))).trans' ht))
  clear ho ht HT HKA
  go_wp2_with fail
  go_ret
  exact ⟨rfl, HO.out, HTu.out⟩
set_option maxHeartbeats 2000000 in
theorem heldLog' (ca : Option Addr) (cc : Nat) (cs : List Bs) (da : Option Addr) (dc : Nat) (ds : List Wr) (nx ep : Int) (w : World) (hm : Mem w (dsk ca (markC 1 cs) da (markW (1 + tot cs) ds))) (h : DOk cs ds) :
    Calls Try.prog 23 #[logV ca cs.length cc da ds.length dc nx ep, .int .i64 1] w fun e w' => e = .returned (.int .i64 ((1 + tot cs + ds.length + totW ds : Nat) : Int)) ∧ Keeps w w' := by
  have HKA := hide (Keeps.alloc (Keeps.refl w) (.cells #[.slice ca cs.length cc, .slice da ds.length dc, .int .i64 nx, .int .i64 ep] 47))
  have HT := hide (heldDisk' ca cc cs da dc ds _ (hm.kept HKA.out) h)
  obtain ⟨z, hz⟩ : ∃ z : Nat, 1 + tot cs + ds.length + totW ds = z := ⟨_, rfl⟩
  rw [hz] at HT ⊢
  have hn : ¬ ((z : Int) < 0) := by omega
  clear hm h hz
  go_enter Try.func23, Try.ntmps23
  go_wp2_with fail
  refine (unhide HT).mono ?_
  rintro x w1 ⟨rfl, hk⟩
  replace HKA := hide (HKA.out.trans hk)
  clear hk HT
  go_wp2_with fail
  go_ret
  exact ⟨rfl, HKA.out⟩
end Go.Proofs.Ytphabdjhmahemaa
