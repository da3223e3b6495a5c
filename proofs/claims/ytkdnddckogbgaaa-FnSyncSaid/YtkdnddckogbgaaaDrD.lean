/- The model's draws of disks: l03Disk. -/
import Derived.Test.YtkdnddckogbgaaaDrS
import Derived.Test.YtkdnddckogbgaaaDSm
import Derived.Test.YtkdnddckogbgaaaDWs
import Derived.Test.YtkdnddckogbgaaaSBS
import Derived.Test.YtkdnddckogbgaaaVars
import Derived.Deep.RegionWith
namespace Go.Proofs.Ytkdnddckogbgaaa
open Go.RowKit Go.Deep
set_option linter.unusedVariables false
set_option maxRecDepth 10000
theorem dok_crash {m : DkM} {f : Nat → Nat} (h : dokM m = true) (hf : ∀ k, f k ≤ 128) : dokM (crashM m f) = true ∧ (crashM m f).cells.length = m.cells.length ∧ (crashM m f).dirty = [] := by
  have h' := h
  simp only [dokM, Bool.and_eq_true, decide_eq_true_eq, List.all_eq_true, Bool.or_eq_true] at h'
  obtain ⟨⟨⟨⟨h1, h2⟩, h3⟩, h4⟩, h5⟩ := h'
  have hl := crashTo_len m.cells m.dirty f m.dirty.length
  unfold crashM
  rw [if_pos h]
  refine ⟨?_, hl, rfl⟩
  simp only [dokM, Bool.and_eq_true, decide_eq_true_eq, List.all_eq_true, Bool.or_eq_true]
  refine ⟨⟨⟨⟨by rw [hl]; exact h1, by rw [hl]; exact h2⟩, by simp⟩, crashTo_ok h hf m.dirty.length⟩, fun x hx => by simp at hx⟩
theorem two_rowD (x y : Value) : ∀ i, i < (#[x, y] : Array Value).size → (#[x, y] : Array Value)[i]? = some ((fun i : Nat => if i = 0 then x else y) i)
  | 0, _ => rfl
  | 1, _ => rfl
  | n + 2, h => absurd h (by simp)
/-- While a disk is drawn: its variable's block, its lists. -/
structure DSt (base : Nat) (Db : Nat) (ca : Option Addr) (cc : Nat) (cs : List Bs) (da : Option Addr) (dc : Nat) (ds : List Wr) (W : World) : Prop where
  row : W.rowIs Db 26 2 (fun i : Nat => if i = 0 then .slice ca cs.length cc else .slice da ds.length dc)
  own : Own W (dsk ca cs da ds)
  far : ∀ b ∈ fp (dsk ca cs da ds), base ≤ b ∧ b ≠ Db
  new : base ≤ Db
  ok : DOk cs ds
  na : ca = none → cc = 0
  nd : da = none → dc = 0
section
variable {W W' : World} {base Db : Nat} {ca : Option Addr} {cc : Nat} {cs : List Bs} {da : Option Addr} {dc : Nat} {ds : List Wr}
theorem DSt.grown (s : DSt base Db ca cc cs da dc ds W) {B : Nat} (g : W.grownBy W' (some B)) (hB : B < base) : DSt base Db ca cc cs da dc ds W' :=
  ⟨grown_row g (by have := s.new; intro e; injection e with e; omega) s.row, s.own.turn (Turn.of_grown (fs := [B]) g (by simp)) (fun b hb hx => by have := (s.far b hb).1; have h2 : b = B := (by simpa using hx); omega), s.far, s.new, s.ok, s.na, s.nd⟩
theorem DSt.kept (s : DSt base Db ca cc cs da dc ds W) (hk : Keeps W W') : DSt base Db ca cc cs da dc ds W' :=
  ⟨Keeps.row hk s.row, s.own.kept hk, s.far, s.new, s.ok, s.na, s.nd⟩
theorem row_two' {b : Nat} {t : TypeId} {f : Nat → Value} (h : W.rowIs b t 2 f) (x y : Value) : ((W.setCell ⟨b, 0, none⟩ x).setCell ⟨b, 1, none⟩ y).rowIs b t 2 (fun i : Nat => if i = 0 then x else y) :=
  ((h.set 0 x).set 1 y).congr (fun i hi => by
    match i, hi with
    | 0, _ => simp
    | 1, _ => simp)
/-- The variable gets another disk. -/
theorem DSt.put {V : World} {ca' : Option Addr} {cc' : Nat} {cs' : List Bs} {da' : Option Addr} {dc' : Nat} {ds' : List Wr} (s : DSt base Db ca cc cs da dc ds W) (hk : Keeps W V) (hw : base ≤ W.heap.size) (hb : Born V W' (dsk ca' cs' da' ds')) (hk' : Keeps V W') (ho : DOk cs' ds') (hna : ca' = none → cc' = 0) (hnd : da' = none → dc' = 0) :
    DSt base Db ca' cc' cs' da' dc' ds' ((W'.setCell ⟨Db, 0, none⟩ (.slice ca' cs'.length cc')).setCell ⟨Db, 1, none⟩ (.slice da' ds'.length dc')) := by
  have hr := Keeps.row (hk.trans hk') s.row
  have hlt := s.row.lt
  have hf : ∀ b ∈ fp (dsk ca' cs' da' ds'), base ≤ b ∧ b ≠ Db := fun b hb' => by
    have h1 := hb.new b hb'
    have h2 := hk.size
    omega
  have ht : Turn [Db] W' ((W'.setCell ⟨Db, 0, none⟩ (.slice ca' cs'.length cc')).setCell ⟨Db, 1, none⟩ (.slice da' ds'.length dc')) := (Turn.set (by simp) _).trans' (Turn.set (by simp) _)
  exact ⟨row_two' hr _ _, hb.toOwn.turn ht (fun b hb' hx => (hf b hb').2 (by simpa using hx)), hf, s.new, ho, hna, hnd⟩
end
/-- A right disk of the call's own. -/
def IsDisk (w w' : World) (e : Ending) : Prop := ∃ v M, e = .returned v ∧ DiskRes w w' v M ∧ dokM M = true ∧ M.cells.length ≤ 6 ∧ M.dirty.length ≤ 7
theorem Dr.drew {B0 B : Nat} {a : Option Addr} {len cap : Nat} {w : World} (s : Dr B0 B a len cap w) : Dr B0 B a len cap w.drew := s.grown (row := none) ⟨rfl, rfl, rfl, Nat.le_refl _, fun _ _ _ => rfl⟩ (by simp) (by simp)
theorem grown_drew {w w1 : World} {row : Option Nat} (h : w.grownBy w1 row) : w.grownBy w1.drew row := ⟨h.os, h.tape, h.output, h.size, h.block⟩
theorem DSt.drew {W : World} {base Db : Nat} {ca : Option Addr} {cc : Nat} {cs : List Bs} {da : Option Addr} {dc : Nat} {ds : List Wr} (s : DSt base Db ca cc cs da dc ds W) : DSt base Db ca cc cs da dc ds W.drew := s.kept ((Keeps.refl W).drew)
theorem new_len {n : Int} (h1 : 1 ≤ n) (h2 : n ≤ 600) : newB n = true ∧ dokM (newM n) = true ∧ (newM n).cells.length = n.toNat ∧ (newM n).dirty = [] := by
  have hb : newB n = true := by simp [newB]; omega
  unfold newM
  rw [if_pos hb]
  refine ⟨hb, ?_, by simp, rfl⟩
  simp only [dokM, Bool.and_eq_true, decide_eq_true_eq, List.all_eq_true, Bool.or_eq_true]
  refine ⟨⟨⟨⟨by simp; omega, by simp; omega⟩, by simp⟩, fun L hL => ?_⟩, fun x hx => by simp at hx⟩
  left
  rw [List.eq_of_mem_replicate hL]
  rfl
theorem write_yes {m : DkM} {i : Int} {L : List UInt8} (h : dokM m = true) (hd : m.dirty.length < 600) (h0 : 0 ≤ i) (h1 : i < m.cells.length) (hL : L.length = 128) : writeB m i L = true ∧ dokM (writeM m i L) = true ∧ (writeM m i L).cells = m.cells ∧ (writeM m i L).dirty.length = m.dirty.length + 1 := by
  have hb : writeB m i L = true := by simp [writeB, h, hd, h0, h1, hL]
  have e : writeM m i L = ⟨m.cells, m.dirty ++ [(i, L)]⟩ := by unfold writeM; rw [if_pos hb]
  rw [e, dokM_add h]
  exact ⟨hb, hb, rfl, by simp⟩
set_option maxRecDepth 100000 in
set_option maxHeartbeats 8000000 in
theorem disk_any {B0 B : Nat} {a : Option Addr} {len cap : Nat} {w : World} (s : Dr B0 B a len cap w) :
    Calls Try.prog 35 #[.pointer (some ⟨B, 0, none⟩)] w fun e w' => IsDisk w w' e ∧ Dr B0 B a len cap w' ∧ w.grownBy w' (some B) := by
  have hB := s.lt
  have hB0 := s.le
  have HS0 := hide (s.grown (World.grownBy_alloc w (.cells #[.slice none 0 0, .slice none 0 0] 26) none) (by simp) (by simp))
  have HG0 := hide (grown_alloc (grown_refl w (some B)) (.cells #[.slice none 0 0, .slice none 0 0] 26))
  have HR0 := hide (World.rowIs_alloc w #[.slice none 0 0, .slice none 0 0] 26 _ (two_rowD _ _))
  clear s
  go_enter Try.func35, Try.ntmps35
  go_wp2_with fail
  refine (below_any 6 HS0.out (by omega) (by omega)).mono ?_
  rintro e w1 ⟨⟨x, x0, x6, rfl⟩, s1, g1⟩
  have HS1 := hide s1
  have HG1 := hide (HG0.out.trans g1)
  have HR1 := hide (grown_row g1 (by intro e; injection e with e; omega) HR0.out)
  clear s1 g1 HS0 HG0 HR0
  obtain ⟨nb, nd, nl, nn⟩ := new_len (n := 1 + x) (by omega) (by omega)
  have HN : Hid (newB (1 + x) = true ∧ dokM (newM (1 + x)) = true ∧ (newM (1 + x)).cells.length ≤ 6 ∧ (newM (1 + x)).dirty.length = 0) := ⟨nb, nd, by rw [nl]; omega, by rw [nn]; rfl⟩
  clear nb nd nl nn
  go_wp2_with fail
  refine (disknew_spec (1 + x) w1).mono ?_
  rintro e w2 ⟨v, rfl, hr, hk⟩
  rw [HN.out.1]
  obtain ⟨ca, cc, cs, da, dc, ds, rfl, he, hok, hna, hnd, hb⟩ := hr
  have hz := HR1.out.lt
  have hz2 := hk.size
  have HA := hide (Keeps.alloc (Keeps.refl w2) (.cells #[.slice ca cs.length cc, .slice da ds.length dc] 26))
  have HDS : Hid (DSt (w.heap.size + 1) w2.heap.size ca cc cs da dc ds (w2.alloc (.cells #[.slice ca cs.length cc, .slice da ds.length dc] 26))) :=
    ⟨World.rowIs_alloc w2 #[.slice ca cs.length cc, .slice da ds.length dc] 26 _ (two_rowD _ _), hb.toOwn.kept HA.out, fun b hb' => by have h1 := hb.new b hb'; have h2 := hb.mem.lt b hb'; omega, by omega, hok, hna, hnd⟩
  have HM : Hid (dokM (dat cs ds) = true ∧ (dat cs ds).cells.length ≤ 6 ∧ (dat cs ds).dirty.length = 0) := by show _ ∧ _; rw [he]; exact HN.out.2
  have HS2 := hide (HS1.out.grown (row := none) ((hk.trans HA.out).grows none) (by simp) (by simp))
  have HG2 := hide (HG1.out.trans ((hk.trans HA.out).grows (some B)))
  have HR2 := hide (Keeps.row (hk.trans HA.out) HR1.out)
  clear hb hk he hok hna hnd HS1 HG1 HR1 HN HA
  go_wp2_with fail
  generalize w2.heap.size = Db at *
  generalize w2.alloc (.cells #[.slice ca cs.length cc, .slice da ds.length dc] 26) = W2 at *
  refine (below_any 7 HS2.out (by omega) (by omega)).mono ?_
  rintro e w3 ⟨⟨y, y0, y7, rfl⟩, s3, g3⟩
  have HS3 := hide s3
  have HG3 := hide (HG2.out.trans g3)
  have HR3 := hide (grown_row g3 (by intro e; injection e with e; omega) HR2.out)
  have HD3 := hide (HDS.out.grown g3 (by omega))
  obtain ⟨n0, rfl⟩ := Int.eq_ofNat_of_zero_le y0
  clear s3 g3 HS2 HG2 HR2 HDS
  go_wp2_with fail
  go_loopw [5] (fun y wr => ∃ (n : Nat) (ca : Option Addr) (cc : Nat) (cs : List Bs) (da : Option Addr) (dc : Nat) (ds : List Wr), n ≤ 6 ∧ y = .int .i64 (n : Int) ∧ Hid (DSt (w.heap.size + 1) Db ca cc cs da dc ds wr) ∧ Hid (dokM (dat cs ds) = true ∧ (dat cs ds).cells.length ≤ 6 ∧ (dat cs ds).dirty.length + n ≤ 6) ∧ Hid (Dr B0 B a len cap wr) ∧ Hid (w.grownBy wr (some B)) ∧ Hid (wr.rowIs w.heap.size 26 2 (fun i : Nat => if i = 0 then .slice none 0 0 else .slice none 0 0))) (fun y _ => (intOf y).toNat)
  case atStart => exact ⟨n0, ca, cc, cs, da, dc, ds, by omega, rfl, HD3, ⟨HM.out.1, HM.out.2.1, by have := HM.out.2.2; omega⟩, HS3, HG3, HR3⟩
  case round =>
    clear HD3 HM HS3 HG3 HR3
    obtain ⟨n, ca, cc, cs, da, dc, ds, hn, rfl, HD, HM, HS, HG, HR⟩ := hrel
    have hzr := HR.out.lt
    by_cases hlt : 0 < n
    · go_wp2_with fail
      refine (below_any 6 HS.out (by omega) (by omega)).mono ?_
      rintro e w4 ⟨⟨k, k0, k6, rfl⟩, s4, g4⟩
      have HS4 := hide s4
      have HG4 := hide (HG.out.trans g4)
      have HR4 := hide (grown_row g4 (by intro e; injection e with e; omega) HR.out)
      have HD4 := hide (HD.out.grown g4 (by omega))
      clear s4 g4 HS HG HR HD
      go_wp2_with fail
      refine (sector_any HS4.out).mono ?_
      rintro e w5 ⟨⟨q, eq, p, l, c, L, hq, rfl, HO⟩, s5, g5⟩
      obtain ⟨rfl, ho⟩ := HO.out
      have HS5 := hide s5
      have HG5 := hide (HG4.out.trans g5)
      have HR5 := hide (grown_row g5 (by intro e; injection e with e; omega) HR4.out)
      have HD5 := hide (HD4.out.grown g5 (by omega))
      obtain ⟨p', c', hpc, _, _, hpn, hown, _⟩ := Own.of_owns ho
      injection hpc with e1 e2 e3
      subst e1 e3
      have h100 := (secB_true hq).2.2.2.2
      have HSB := hide (secbytes_spec q eq p c L w5 hown.one hpn (by omega))
      have HQ := hide hq
      clear s5 g5 HS4 HG4 HR4 HD4 HO ho hpn hown e2 hq
      go_wp2_with fail
      refine (unhide HSB).mono ?_
      rintro e w6 ⟨v6, rfl, ho6, hk6⟩
      have eS : secR q eq L = secL q.toNat eq.toNat L := by unfold secR; rw [HQ.out]; rfl
      have lS : (secR q eq L).length = 128 := by rw [eS]; exact secL_length h100
      obtain ⟨a6, c6, rfl, _, _, hn6, hown6, hnew6⟩ := Own.of_owns ho6
      rw [lS]
      have HLs := hide lS
      generalize secR q eq L = bL at *
      have HB6 := hide hown6.one
      have HBB : Hid (∀ b ∈ fpS (a6, bys bL), b ∉ [B]) := fun b hb hx => by
        have h1 := hnew6 b (by rw [fp_one]; exact hb)
        have h2 : b = B := (by simpa using hx)
        have h3 := HG5.out.size
        omega
      have HN6 := hide hn6
      have HS6 := hide (HS5.out.grown (row := none) (hk6.grows none) (by simp) (by simp))
      have HG6 := hide (HG5.out.trans (hk6.grows (some B)))
      have HR6 := hide (Keeps.row hk6 HR5.out)
      have HD6 := hide (HD5.out.kept hk6)
      have hz6 := HG6.out.size
      have lD6 := HD6.out.row.lt
      have lR6 := HR6.out.lt
      clear hk6 ho6 hn6 hown6 hnew6 lS eS HSB HQ HS5 HG5 HR5 HD5
      have HWr : ∀ (w' : World) (i : Int), Mem w' (dsk ca cs da ds) → Cells w' a6 (bys bL) → Hid (Calls Try.prog 51 #[dskV ca cs.length cc da ds.length dc, .int .i64 i, .slice a6 128 c6] w' (WritePost w' (dat cs ds) i bL)) := fun w' i hm' hb' => by
        have h := diskwrite_spec ca cc cs da dc ds i a6 c6 bL w' hm' HD6.out.ok hb' HN6.out (by rw [HLs.out]; omega)
        rw [HLs.out] at h
        exact h
      have q0 := HD6.out.row.cell (i := 0) (by decide)
      have q1 := HD6.out.row.cell (i := 1) (by decide)
      have qf0 := HD6.out.row.frozen 0
      have qf1 := HD6.out.row.frozen 1
      simp at q0 q1
      by_cases hk0 : k = 0
      · subst hk0
        go_wp2_with fail
        refine (disksync_spec ca cc cs da dc ds w6 HD6.out.own.mem HD6.out.ok).mono ?_
        rintro e w7 ⟨v, rfl, hr, hk7⟩
        obtain ⟨ca', cc', cs', da', dc', ds', rfl, he, hok, hna, hnd, hb⟩ := hr
        obtain ⟨m1, m2, m3⟩ := dok_crash HM.out.1 (f := fun _ => 128) (fun _ => Nat.le_refl _)
        rw [← he] at m1 m2 m3
        have HM7 : Hid (dokM (dat cs' ds') = true ∧ (dat cs' ds').cells.length ≤ 6 ∧ (dat cs' ds').dirty.length + (n - 1) ≤ 6) := ⟨m1, by rw [m2]; exact HM.out.2.1, by rw [m3]; simp; omega⟩
        have HD7 := hide (HD6.out.put (Keeps.refl w6) (by omega) hb hk7 hok hna hnd)
        have HS7 := hide (HS6.out.grown (row := none) (hk7.grows none) (by simp) (by simp))
        have HG7 := hide (HG6.out.trans (hk7.grows (some B)))
        have HR7 := hide (Keeps.row hk7 HR6.out)
        have r7 := Keeps.row hk7 HD6.out.row
        have y0 := r7.cell (i := 0) (by decide)
        have y1 := r7.cell (i := 1) (by decide)
        have yf0 := r7.frozen 0
        have yf1 := r7.frozen 1
        simp at y0 y1
        have hDb := HD6.out.new
        clear hk7 hb he hok hna hnd m1 m2 m3 r7 q0 q1 qf0 qf1
        go_wp2_with fail
        go_roundw
        case rel => exact ⟨n - 1, ca', cc', cs', da', dc', ds', by omega, by congr 1; omega, HD7, HM7, (HS7.out.set (by omega) (by omega) _).set (by omega) (by omega) _, grown_new (grown_new HG7.out (by omega)) (by omega), (HR7.out.setOther (by simp; omega) _).setOther (by simp; omega) _⟩
        case measure => simp [intOf]; omega
      · by_cases hk1 : k = 1
        · subst hk1
          clear hk0
          have hDb := HD6.out.new
          go_wp2_with fail
          go_region_with (first
            | (go_at_call 36
               refine (below_any 140 HS7.out (by omega) (by omega)).mono ?_
               rintro e w8 ⟨⟨x8, _, _, rfl⟩, s8, g8⟩
               have HS8 := hide s8
               have HG8 := hide (HG7.out.trans g8)
               have HR8 := hide (grown_row g8 (by intro e; injection e with e; omega) HR7.out)
               have HD8 := hide (HD7.out.grown g8 (by omega))
               have t0 := HD8.out.row.cell (i := 0) (by decide)
               have t1 := HD8.out.row.cell (i := 1) (by decide)
               have lD8 := HD8.out.row.lt
               simp at t0 t1
               clear s8 g8)
            | (go_at_call 36
               refine (below_any 140 HS6.out.drew (by omega) (by omega)).mono ?_
               rintro e w7 ⟨⟨x7, _, _, rfl⟩, s7, g7⟩
               have HS7 := hide s7
               have HG7 := hide ((grown_drew HG6.out).trans g7)
               have HR7 := hide (grown_row g7 (by intro e; injection e with e; omega) (Keeps.row ((Keeps.refl w6).drew) HR6.out))
               have HD7 := hide (HD6.out.drew.grown g7 (by omega))
               have s0 := HD7.out.row.cell (i := 0) (by decide)
               have s1 := HD7.out.row.cell (i := 1) (by decide)
               have lD7 := HD7.out.row.lt
               simp at s0 s1
               clear s7 g7)
            | (go_at_call 50
               refine (diskcrash_spec ca cc cs da dc ds (some ⟨w8.heap.size, 0, none⟩) 2 [x7, x8] _ (HD8.out.own.mem.kept (Keeps.alloc (Keeps.refl w8) _)) HD8.out.ok (born_alloc w8 #[.int .i64 x7, .int .i64 x8] 3).toOwn.one (by simp)).mono ?_
               rintro e w9 ⟨v, rfl, hr, hk9⟩
               obtain ⟨ca', cc', cs', da', dc', ds', rfl, he, hok, hna, hnd, hb⟩ := hr
               have HE := hide he
               have HOk := hide hok
               have HNa := hide hna
               have HNd := hide hnd
               have HB9 := hide hb
               have HKa := hide (Keeps.alloc (Keeps.refl w8) (.cells #[.int .i64 x7, .int .i64 x8] 3))
               have HK9 := hide hk9
               have r9 := Keeps.row (HKa.out.trans hk9) HD8.out.row
               have y0 := r9.cell (i := 0) (by decide)
               have y1 := r9.cell (i := 1) (by decide)
               have yf0 := r9.frozen 0
               have yf1 := r9.frozen 1
               simp at y0 y1
               clear hk9 hb he hok hna hnd r9))
          all_goals
            have HM9 : Hid (dokM (dat cs' ds') = true ∧ (dat cs' ds').cells.length ≤ 6 ∧ (dat cs' ds').dirty.length + (n - 1) ≤ 6) := by
              obtain ⟨m1, m2, m3⟩ := dok_crash HM.out.1 (f := keepN [x7, x8]) (keepN_le _)
              rw [← HE.out] at m1 m2 m3
              exact ⟨m1, by rw [m2]; exact HM.out.2.1, by rw [m3]; simp; omega⟩
            have hz8 := HG8.out.size
            have lR8 := HR8.out.lt
            have HD9 := hide (HD8.out.put HKa.out (by omega) HB9.out HK9.out HOk.out HNa.out HNd.out)
            have HS9 := hide (HS8.out.grown (row := none) ((HKa.out.trans HK9.out).grows none) (by simp) (by simp))
            have HG9 := hide (HG8.out.trans ((HKa.out.trans HK9.out).grows (some B)))
            have HR9 := hide (Keeps.row (HKa.out.trans HK9.out) HR8.out)
            clear HD8 HS8 HG8 HR8 HB9 HK9 HKa
            go_wp2_with fail
            go_roundw
            case rel => exact ⟨n - 1, ca', cc', cs', da', dc', ds', by omega, by congr 1; omega, HD9, HM9, (HS9.out.set (by omega) (by omega) _).set (by omega) (by omega) _, grown_new (grown_new HG9.out (by omega)) (by omega), (HR9.out.setOther (by simp; omega) _).setOther (by simp; omega) _⟩
            case measure => simp [intOf]; omega
        · have hk2 : (k == 0) = false := by rw [beq_eq_false_iff_ne]; exact hk0
          have hk3 : (k == 1) = false := by rw [beq_eq_false_iff_ne]; exact hk1
          clear hk0 hk1
          have hDb := HD6.out.new
          have hcl : 1 ≤ cs.length ∧ cs.length ≤ 6 := by
            have h1 := HM.out.1
            have h2 := HM.out.2.1
            simp only [dokM, Bool.and_eq_true, decide_eq_true_eq] at h1
            have e : (dat cs ds).cells.length = cs.length := by simp [dat]
            omega
          go_wp2_with fail
          go_region_with (first
            | (go_at_call 36
               refine (below_any (cs.length : Int) HS6.out.drew (by omega) (by omega)).mono ?_
               rintro e w7 ⟨⟨x7, x70, x71, rfl⟩, s7, g7⟩
               have HS7 := hide s7
               have HG7 := hide ((grown_drew HG6.out).trans g7)
               have HR7 := hide (grown_row g7 (by intro e; injection e with e; omega) (Keeps.row ((Keeps.refl w6).drew) HR6.out))
               have HD7 := hide (HD6.out.drew.grown g7 (by omega))
               have HB7 := hide ((HB6.out.kept ((Keeps.refl w6).drew)).turn (s := (a6, bys bL)) (Turn.of_grown (fs := [B]) g7 (by simp)) HBB.out)
               have s0 := HD7.out.row.cell (i := 0) (by decide)
               have s1 := HD7.out.row.cell (i := 1) (by decide)
               have lD7 := HD7.out.row.lt
               simp at s0 s1
               clear s7 g7)
            | (go_at_call 51
               refine (unhide (HWr w7 x7 HD7.out.own.mem HB7.out)).mono ?_
               rintro e w9 ⟨v, rfl, hr, hk9⟩
               obtain ⟨ca', cc', cs', da', dc', ds', rfl, he, hok, hna, hnd, hb⟩ := hr
               have HE := hide he
               have HOk := hide hok
               have HNa := hide hna
               have HNd := hide hnd
               have HB9 := hide hb
               have HK9 := hide hk9
               have r9 := Keeps.row hk9 HD7.out.row
               have y0 := r9.cell (i := 0) (by decide)
               have y1 := r9.cell (i := 1) (by decide)
               have yf0 := r9.frozen 0
               have yf1 := r9.frozen 1
               simp at y0 y1
               clear hk9 hb he hok hna hnd r9))
          all_goals
            have HM9 : Hid (writeB (dat cs ds) x7 bL = true ∧ dokM (dat cs' ds') = true ∧ (dat cs' ds').cells.length ≤ 6 ∧ (dat cs' ds').dirty.length + (n - 1) ≤ 6) := by
              obtain ⟨m0, m1, m2, m3⟩ := write_yes (m := dat cs ds) (i := x7) (L := bL) HM.out.1 (by have := HM.out.2.2; omega) x70 (by simp [dat]; exact x71) HLs.out
              rw [← HE.out] at m1 m2 m3
              exact ⟨m0, m1, by rw [m2]; exact HM.out.2.1, by rw [m3]; have := HM.out.2.2; omega⟩
            have hz7 := HG7.out.size
            have lR7 := HR7.out.lt
            have HD9 := hide (HD7.out.put (Keeps.refl w7) (by omega) HB9.out HK9.out HOk.out HNa.out HNd.out)
            have HS9 := hide (HS7.out.grown (row := none) (HK9.out.grows none) (by simp) (by simp))
            have HG9 := hide (HG7.out.trans (HK9.out.grows (some B)))
            have HR9 := hide (Keeps.row HK9.out HR7.out)
            clear HD7 HS7 HG7 HR7 HB9 HK9
            go_wp2_with fail
            go_roundw
            case rel => exact ⟨n - 1, ca', cc', cs', da', dc', ds', by omega, by congr 1; omega, HD9, HM9.out.2, (HS9.out.set (by omega) (by omega) _).set (by omega) (by omega) _, grown_new (grown_new HG9.out (by omega)) (by omega), (HR9.out.setOther (by simp; omega) _).setOther (by simp; omega) _⟩
            case measure => simp [intOf]; omega
    · have e : n = 0 := by omega
      subst e
      have q0 := HD.out.row.cell (i := 0) (by decide)
      have q1 := HD.out.row.cell (i := 1) (by decide)
      have z0 := HR.out.cell (i := 0) (by decide)
      have z1 := HR.out.cell (i := 1) (by decide)
      have f0 := HR.out.frozen 0
      have f1 := HR.out.frozen 1
      simp at q0 q1 z0 z1
      go_wp2_with fail
      have r9 := row_two' HR.out (.slice ca cs.length cc) (.slice da ds.length dc)
      have o0 := r9.cell (i := 0) (by decide)
      have o1 := r9.cell (i := 1) (by decide)
      simp only [if_true, Nat.one_ne_zero, if_false] at o0 o1
      have ht : Turn [w.heap.size] wr ((wr.setCell ⟨w.heap.size, 0, none⟩ (.slice ca cs.length cc)).setCell ⟨w.heap.size, 1, none⟩ (.slice da ds.length dc)) := (Turn.set (by simp) _).trans' (Turn.set (by simp) _)
      have hBn : Born w ((wr.setCell ⟨w.heap.size, 0, none⟩ (.slice ca cs.length cc)).setCell ⟨w.heap.size, 1, none⟩ (.slice da ds.length dc)) (dsk ca cs da ds) :=
        ⟨HD.out.own.turn ht (fun b hb hx => by have h1 := (HD.out.far b hb).1; have h2 : b = w.heap.size := (by simpa using hx); omega), fun b hb => by have := (HD.out.far b hb).1; omega⟩
      refine bodyPost_ret (v := dskV ca cs.length cc da ds.length dc) ?_ rfl ⟨⟨_, dat cs ds, rfl, ⟨ca, cc, cs, da, dc, ds, rfl, rfl, HD.out.ok, HD.out.na, HD.out.nd, hBn⟩, HM.out.1, HM.out.2.1, by have := HM.out.2.2; omega⟩, (HS.out.set (by omega) (by omega) _).set (by omega) (by omega) _, grown_new (grown_new HG.out (Nat.le_refl _)) (Nat.le_refl _)⟩
      clear hBn ht r9 HD HM HS HG HR q0 q1 z0 z1 f0 f1
      revert o0 o1
      generalize World.setCell _ _ _ = W'
      intro o0 o1
      simp [results, Try.results35, go_sem, o0, o1]
end Go.Proofs.Ytkdnddckogbgaaa
