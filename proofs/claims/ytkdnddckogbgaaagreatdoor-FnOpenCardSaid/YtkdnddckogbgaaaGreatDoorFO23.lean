/- Texts of the verifier, joined: DrD, LoX. -/
import Derived.Test.YtkdnddckogbgaaaGreatDoorFO22
import Derived.Test.YtkdnddckogbgaaaGreatDoorFO8
import Derived.Test.YtkdnddckogbgaaaGreatDoorFO7
import Derived.Test.YtkdnddckogbgaaaGreatDoorFO10
import Derived.Test.YtkdnddckogbgaaaGreatDoorFO2
import Derived.Deep.RegionWith
import Derived.Test.YtkdnddckogbgaaaGreatDoorFO21
namespace Go.Proofs.YtkdnddckogbgaaaGreatDoor
open Go.RowKit Go.Deep
set_option linter.unusedVariables false
set_option maxRecDepth 10000
theorem dok_crash {m : DkM} {f : Nat → Nat} (h : dokM m = true) (hf : ∀ k, f k ≤ 128) : dokM (crashM m f) = true ∧ (crashM m f).cells.length = m.cells.length ∧ (crashM m f).dirty = [] := by
  have h' := h
  simp only [dokM, Bool.and_eq_true, decide_eq_true_eq, List.all_eq_true, Bool.or_eq_true] at h'
  obtain ⟨⟨⟨⟨h1, h2⟩, h3⟩, h4⟩, h5⟩ := h'
  have hl := crashTo_len m.cells m.dirty f m.dirty.length
  unfold crashM
  rw [if_pos h]
  refine ⟨?_, hl, rfl⟩
  simp only [dokM, Bool.and_eq_true, decide_eq_true_eq, List.all_eq_true, Bool.or_eq_true]
  refine ⟨⟨⟨⟨by rw [hl]; exact h1, by rw [hl]; exact h2⟩, by simp⟩, crashTo_ok h hf m.dirty.length⟩, fun x hx => by simp at hx⟩
theorem two_rowD (x y : Value) : ∀ i, i < (#[x, y] : Array Value).size → (#[x, y] : Array Value)[i]? = some ((fun i : Nat => if i = 0 then x else y) i)
  | 0, _ => rfl
  | 1, _ => rfl
  | n + 2, h => absurd h (by simp)
/-- While a disk is drawn: its variable's block, its lists. -/
structure DSt (base : Nat) (Db : Nat) (ca : Option Addr) (cc : Nat) (cs : List Bs) (da : Option Addr) (dc : Nat) (ds : List Wr) (W : World) : Prop where
  row : W.rowIs Db 26 2 (fun i : Nat => if i = 0 then .slice ca cs.length cc else .slice da ds.length dc)
  own : Own W (dsk ca cs da ds)
  far : ∀ b ∈ fp (dsk ca cs da ds), base ≤ b ∧ b ≠ Db
  new : base ≤ Db
  ok : DOk cs ds
  na : ca = none → cc = 0
  nd : da = none → dc = 0
section
variable {W W' : World} {base Db : Nat} {ca : Option Addr} {cc : Nat} {cs : List Bs} {da : Option Addr} {dc : Nat} {ds : List Wr}
theorem DSt.grown (s : DSt base Db ca cc cs da dc ds W) {B : Nat} (g : W.grownBy W' (some B)) (hB : B < base) : DSt base Db ca cc cs da dc ds W' :=
  ⟨grown_row g (by have := s.new; intro e; injection e with e; omega) s.row, s.own.turn (Turn.of_grown (fs := [B]) g (by simp)) (fun b hb hx => by have := (s.far b hb).1; have h2 : b = B := (by simpa using hx); omega), s.far, s.new, s.ok, s.na, s.nd⟩
theorem DSt.kept (s : DSt base Db ca cc cs da dc ds W) (hk : Keeps W W') : DSt base Db ca cc cs da dc ds W' :=
  ⟨Keeps.row hk s.row, s.own.kept hk, s.far, s.new, s.ok, s.na, s.nd⟩
theorem row_two' {b : Nat} {t : TypeId} {f : Nat → Value} (h : W.rowIs b t 2 f) (x y : Value) : ((W.setCell ⟨b, 0, none⟩ x).setCell ⟨b, 1, none⟩ y).rowIs b t 2 (fun i : Nat => if i = 0 then x else y) :=
  ((h.set 0 x).set 1 y).congr (fun i hi => by
    match i, hi with
    | 0, _ => simp
    | 1, _ => simp)
/-- The variable gets another disk. -/
theorem DSt.put {V : World} {ca' : Option Addr} {cc' : Nat} {cs' : List Bs} {da' : Option Addr} {dc' : Nat} {ds' : List Wr} (s : DSt base Db ca cc cs da dc ds W) (hk : Keeps W V) (hw : base ≤ W.heap.size) (hb : Born V W' (dsk ca' cs' da' ds')) (hk' : Keeps V W') (ho : DOk cs' ds') (hna : ca' = none → cc' = 0) (hnd : da' = none → dc' = 0) :
    DSt base Db ca' cc' cs' da' dc' ds' ((W'.setCell ⟨Db, 0, none⟩ (.slice ca' cs'.length cc')).setCell ⟨Db, 1, none⟩ (.slice da' ds'.length dc')) := by
  have hr := Keeps.row (hk.trans hk') s.row
  have hlt := s.row.lt
  have hf : ∀ b ∈ fp (dsk ca' cs' da' ds'), base ≤ b ∧ b ≠ Db := fun b hb' => by
    have h1 := hb.new b hb'
    have h2 := hk.size
    omega
  have ht : Turn [Db] W' ((W'.setCell ⟨Db, 0, none⟩ (.slice ca' cs'.length cc')).setCell ⟨Db, 1, none⟩ (.slice da' ds'.length dc')) := (Turn.set (by simp) _).trans' (Turn.set (by simp) _)
  exact ⟨row_two' hr _ _, hb.toOwn.turn ht (fun b hb' hx => (hf b hb').2 (by simpa using hx)), hf, s.new, ho, hna, hnd⟩
end
/-- A right disk of the call's own. -/
def IsDisk (w w' : World) (e : Ending) : Prop := ∃ v M, e = .returned v ∧ DiskRes w w' v M ∧ dokM M = true ∧ M.cells.length ≤ 6 ∧ M.dirty.length ≤ 7
theorem Dr.drew {B0 B : Nat} {a : Option Addr} {len cap : Nat} {w : World} (s : Dr B0 B a len cap w) : Dr B0 B a len cap w.drew := s.grown (row := none) ⟨rfl, rfl, rfl, Nat.le_refl _, fun _ _ _ => rfl⟩ (by simp) (by simp)
theorem grown_drew {w w1 : World} {row : Option Nat} (h : w.grownBy w1 row) : w.grownBy w1.drew row := ⟨h.os, h.tape, h.output, h.size, h.block⟩
theorem DSt.drew {W : World} {base Db : Nat} {ca : Option Addr} {cc : Nat} {cs : List Bs} {da : Option Addr} {dc : Nat} {ds : List Wr} (s : DSt base Db ca cc cs da dc ds W) : DSt base Db ca cc cs da dc ds W.drew := s.kept ((Keeps.refl W).drew)
theorem new_len {n : Int} (h1 : 1 ≤ n) (h2 : n ≤ 600) : newB n = true ∧ dokM (newM n) = true ∧ (newM n).cells.length = n.toNat ∧ (newM n).dirty = [] := by
  have hb : newB n = true := by simp [newB]; omega
  unfold newM
  rw [if_pos hb]
  refine ⟨hb, ?_, by simp, rfl⟩
  simp only [dokM, Bool.and_eq_true, decide_eq_true_eq, List.all_eq_true, Bool.or_eq_true]
  refine ⟨⟨⟨⟨by simp; omega, by simp; omega⟩, by simp⟩, fun L hL => ?_⟩, fun x hx => by simp at hx⟩
  left
  rw [List.eq_of_mem_replicate hL]
  rfl
theorem write_yes {m : DkM} {i : Int} {L : List UInt8} (h : dokM m = true) (hd : m.dirty.length < 600) (h0 : 0 ≤ i) (h1 : i < m.cells.length) (hL : L.length = 128) : writeB m i L = true ∧ dokM (writeM m i L) = true ∧ (writeM m i L).cells = m.cells ∧ (writeM m i L).dirty.length = m.dirty.length + 1 := by
  have hb : writeB m i L = true := by simp [writeB, h, hd, h0, h1, hL]
  have e : writeM m i L = ⟨m.cells, m.dirty ++ [(i, L)]⟩ := by unfold writeM; rw [if_pos hb]
  rw [e, dokM_add h]
  exact ⟨hb, hb, rfl, by simp⟩
set_option maxRecDepth 100000 in
set_option maxHeartbeats 8000000 in
theorem disk_any {B0 B : Nat} {a : Option Addr} {len cap : Nat} {w : World} (s : Dr B0 B a len cap w) :
    Calls Tryz.prog 89 #[.pointer (some ⟨B, 0, none⟩)] w fun e w' => IsDisk w w' e ∧ Dr B0 B a len cap w' ∧ w.grownBy w' (some B) := by
  have hB := s.lt
  have hB0 := s.le
  have HS0 := hide (s.grown (World.grownBy_alloc w (.cells #[.slice none 0 0, .slice none 0 0] 26) none) (by simp) (by simp))
  have HG0 := hide (grown_alloc (grown_refl w (some B)) (.cells #[.slice none 0 0, .slice none 0 0] 26))
  have HR0 := hide (World.rowIs_alloc w #[.slice none 0 0, .slice none 0 0] 26 _ (two_rowD _ _))
  clear s
  go_enter Tryz.func89, Tryz.ntmps89
  go_wp2_with fail
  refine (below_any 6 HS0.out (by omega) (by omega)).mono ?_
  rintro e w1 ⟨⟨x, x0, x6, rfl⟩, s1, g1⟩
  have HS1 := hide s1
  have HG1 := hide (HG0.out.trans g1)
  have HR1 := hide (grown_row g1 (by intro e; injection e with e; omega) HR0.out)
  clear s1 g1 HS0 HG0 HR0
  obtain ⟨nb, nd, nl, nn⟩ := new_len (n := 1 + x) (by omega) (by omega)
  have HN : Hid (newB (1 + x) = true ∧ dokM (newM (1 + x)) = true ∧ (newM (1 + x)).cells.length ≤ 6 ∧ (newM (1 + x)).dirty.length = 0) := ⟨nb, nd, by rw [nl]; omega, by rw [nn]; rfl⟩
  clear nb nd nl nn
  go_wp2_with fail
  refine (disknew_spec (1 + x) w1).mono ?_
  rintro e w2 ⟨v, rfl, hr, hk⟩
  rw [HN.out.1]
  obtain ⟨ca, cc, cs, da, dc, ds, rfl, he, hok, hna, hnd, hb⟩ := hr
  have hz := HR1.out.lt
  have hz2 := hk.size
  have HA := hide (Keeps.alloc (Keeps.refl w2) (.cells #[.slice ca cs.length cc, .slice da ds.length dc] 26))
  have HDS : Hid (DSt (w.heap.size + 1) w2.heap.size ca cc cs da dc ds (w2.alloc (.cells #[.slice ca cs.length cc, .slice da ds.length dc] 26))) :=
    ⟨World.rowIs_alloc w2 #[.slice ca cs.length cc, .slice da ds.length dc] 26 _ (two_rowD _ _), hb.toOwn.kept HA.out, fun b hb' => by have h1 := hb.new b hb'; have h2 := hb.mem.lt b hb'; omega, by omega, hok, hna, hnd⟩
  have HM : Hid (dokM (dat cs ds) = true ∧ (dat cs ds).cells.length ≤ 6 ∧ (dat cs ds).dirty.length = 0) := by show _ ∧ _; rw [he]; exact HN.out.2
  have HS2 := hide (HS1.out.grown (row := none) ((hk.trans HA.out).grows none) (by simp) (by simp))
  have HG2 := hide (HG1.out.trans ((hk.trans HA.out).grows (some B)))
  have HR2 := hide (Keeps.row (hk.trans HA.out) HR1.out)
  clear hb hk he hok hna hnd HS1 HG1 HR1 HN HA
  go_wp2_with fail
  generalize w2.heap.size = Db at *
  generalize w2.alloc (.cells #[.slice ca cs.length cc, .slice da ds.length dc] 26) = W2 at *
  refine (below_any 7 HS2.out (by omega) (by omega)).mono ?_
  rintro e w3 ⟨⟨y, y0, y7, rfl⟩, s3, g3⟩
  have HS3 := hide s3
  have HG3 := hide (HG2.out.trans g3)
  have HR3 := hide (grown_row g3 (by intro e; injection e with e; omega) HR2.out)
  have HD3 := hide (HDS.out.grown g3 (by omega))
  obtain ⟨n0, rfl⟩ := Int.eq_ofNat_of_zero_le y0
  clear s3 g3 HS2 HG2 HR2 HDS
  go_wp2_with fail
  go_loopw [5] (fun y wr => ∃ (n : Nat) (ca : Option Addr) (cc : Nat) (cs : List Bs) (da : Option Addr) (dc : Nat) (ds : List Wr), n ≤ 6 ∧ y = .int .i64 (n : Int) ∧ Hid (DSt (w.heap.size + 1) Db ca cc cs da dc ds wr) ∧ Hid (dokM (dat cs ds) = true ∧ (dat cs ds).cells.length ≤ 6 ∧ (dat cs ds).dirty.length + n ≤ 6) ∧ Hid (Dr B0 B a len cap wr) ∧ Hid (w.grownBy wr (some B)) ∧ Hid (wr.rowIs w.heap.size 26 2 (fun i : Nat => if i = 0 then .slice none 0 0 else .slice none 0 0))) (fun y _ => (intOf y).toNat)
  case atStart => exact ⟨n0, ca, cc, cs, da, dc, ds, by omega, rfl, HD3, ⟨HM.out.1, HM.out.2.1, by have := HM.out.2.2; omega⟩, HS3, HG3, HR3⟩
  case round =>
    clear HD3 HM HS3 HG3 HR3
    obtain ⟨n, ca, cc, cs, da, dc, ds, hn, rfl, HD, HM, HS, HG, HR⟩ := hrel
    have hzr := HR.out.lt
    by_cases hlt : 0 < n
    · go_wp2_with fail
      refine (below_any 6 HS.out (by omega) (by omega)).mono ?_
      rintro e w4 ⟨⟨k, k0, k6, rfl⟩, s4, g4⟩
      have HS4 := hide s4
      have HG4 := hide (HG.out.trans g4)
      have HR4 := hide (grown_row g4 (by intro e; injection e with e; omega) HR.out)
      have HD4 := hide (HD.out.grown g4 (by omega))
      clear s4 g4 HS HG HR HD
      go_wp2_with fail
      refine (sector_any HS4.out).mono ?_
      rintro e w5 ⟨⟨q, eq, p, l, c, L, hq, rfl, HO⟩, s5, g5⟩
      obtain ⟨rfl, ho⟩ := HO.out
      have HS5 := hide s5
      have HG5 := hide (HG4.out.trans g5)
      have HR5 := hide (grown_row g5 (by intro e; injection e with e; omega) HR4.out)
      have HD5 := hide (HD4.out.grown g5 (by omega))
      obtain ⟨p', c', hpc, _, _, hpn, hown, _⟩ := Own.of_owns ho
      injection hpc with e1 e2 e3
      subst e1 e3
      have h100 := (secB_true hq).2.2.2.2
      have HSB := hide (secbytes_spec q eq p c L w5 hown.one hpn (by omega))
      have HQ := hide hq
      clear s5 g5 HS4 HG4 HR4 HD4 HO ho hpn hown e2 hq
      go_wp2_with fail
      refine (unhide HSB).mono ?_
      rintro e w6 ⟨v6, rfl, ho6, hk6⟩
      have eS : secR q eq L = secL q.toNat eq.toNat L := by unfold secR; rw [HQ.out]; rfl
      have lS : (secR q eq L).length = 128 := by rw [eS]; exact secL_length h100
      obtain ⟨a6, c6, rfl, _, _, hn6, hown6, hnew6⟩ := Own.of_owns ho6
      rw [lS]
      have HLs := hide lS
      generalize secR q eq L = bL at *
      have HB6 := hide hown6.one
      have HBB : Hid (∀ b ∈ fpS (a6, bys bL), b ∉ [B]) := fun b hb hx => by
        have h1 := hnew6 b (by rw [fp_one]; exact hb)
        have h2 : b = B := (by simpa using hx)
        have h3 := HG5.out.size
        omega
      have HN6 := hide hn6
      have HS6 := hide (HS5.out.grown (row := none) (hk6.grows none) (by simp) (by simp))
      have HG6 := hide (HG5.out.trans (hk6.grows (some B)))
      have HR6 := hide (Keeps.row hk6 HR5.out)
      have HD6 := hide (HD5.out.kept hk6)
      have hz6 := HG6.out.size
      have lD6 := HD6.out.row.lt
      have lR6 := HR6.out.lt
      clear hk6 ho6 hn6 hown6 hnew6 lS eS HSB HQ HS5 HG5 HR5 HD5
      have HWr : ∀ (w' : World) (i : Int), Mem w' (dsk ca cs da ds) → Cells w' a6 (bys bL) → Hid (Calls Tryz.prog 40 #[dskV ca cs.length cc da ds.length dc, .int .i64 i, .slice a6 128 c6] w' (WritePost w' (dat cs ds) i bL)) := fun w' i hm' hb' => by
        have h := diskwrite_spec ca cc cs da dc ds i a6 c6 bL w' hm' HD6.out.ok hb' HN6.out (by rw [HLs.out]; omega)
        rw [HLs.out] at h
        exact h
      have q0 := HD6.out.row.cell (i := 0) (by decide)
      have q1 := HD6.out.row.cell (i := 1) (by decide)
      have qf0 := HD6.out.row.frozen 0
      have qf1 := HD6.out.row.frozen 1
      simp at q0 q1
      by_cases hk0 : k = 0
      · subst hk0
        go_wp2_with fail
        refine (disksync_spec ca cc cs da dc ds w6 HD6.out.own.mem HD6.out.ok).mono ?_
        rintro e w7 ⟨v, rfl, hr, hk7⟩
        obtain ⟨ca', cc', cs', da', dc', ds', rfl, he, hok, hna, hnd, hb⟩ := hr
        obtain ⟨m1, m2, m3⟩ := dok_crash HM.out.1 (f := fun _ => 128) (fun _ => Nat.le_refl _)
        rw [← he] at m1 m2 m3
        have HM7 : Hid (dokM (dat cs' ds') = true ∧ (dat cs' ds').cells.length ≤ 6 ∧ (dat cs' ds').dirty.length + (n - 1) ≤ 6) := ⟨m1, by rw [m2]; exact HM.out.2.1, by rw [m3]; simp; omega⟩
        have HD7 := hide (HD6.out.put (Keeps.refl w6) (by omega) hb hk7 hok hna hnd)
        have HS7 := hide (HS6.out.grown (row := none) (hk7.grows none) (by simp) (by simp))
        have HG7 := hide (HG6.out.trans (hk7.grows (some B)))
        have HR7 := hide (Keeps.row hk7 HR6.out)
        have r7 := Keeps.row hk7 HD6.out.row
        have y0 := r7.cell (i := 0) (by decide)
        have y1 := r7.cell (i := 1) (by decide)
        have yf0 := r7.frozen 0
        have yf1 := r7.frozen 1
        simp at y0 y1
        have hDb := HD6.out.new
        clear hk7 hb he hok hna hnd m1 m2 m3 r7 q0 q1 qf0 qf1
        go_wp2_with fail
        go_roundw
        case rel => exact ⟨n - 1, ca', cc', cs', da', dc', ds', by omega, by congr 1; omega, HD7, HM7, (HS7.out.set (by omega) (by omega) _).set (by omega) (by omega) _, grown_new (grown_new HG7.out (by omega)) (by omega), (HR7.out.setOther (by simp; omega) _).setOther (by simp; omega) _⟩
        case measure => simp [intOf]; omega
      · by_cases hk1 : k = 1
        · subst hk1
          clear hk0
          have hDb := HD6.out.new
          go_wp2_with fail
          go_region_with (first
            | (go_at_call 52
               refine (below_any 140 HS7.out (by omega) (by omega)).mono ?_
               rintro e w8 ⟨⟨x8, _, _, rfl⟩, s8, g8⟩
               have HS8 := hide s8
               have HG8 := hide (HG7.out.trans g8)
               have HR8 := hide (grown_row g8 (by intro e; injection e with e; omega) HR7.out)
               have HD8 := hide (HD7.out.grown g8 (by omega))
               have t0 := HD8.out.row.cell (i := 0) (by decide)
               have t1 := HD8.out.row.cell (i := 1) (by decide)
               have lD8 := HD8.out.row.lt
               simp at t0 t1
               clear s8 g8)
            | (go_at_call 52
               refine (below_any 140 HS6.out.drew (by omega) (by omega)).mono ?_
               rintro e w7 ⟨⟨x7, _, _, rfl⟩, s7, g7⟩
               have HS7 := hide s7
               have HG7 := hide ((grown_drew HG6.out).trans g7)
               have HR7 := hide (grown_row g7 (by intro e; injection e with e; omega) (Keeps.row ((Keeps.refl w6).drew) HR6.out))
               have HD7 := hide (HD6.out.drew.grown g7 (by omega))
               have s0 := HD7.out.row.cell (i := 0) (by decide)
               have s1 := HD7.out.row.cell (i := 1) (by decide)
               have lD7 := HD7.out.row.lt
               simp at s0 s1
               clear s7 g7)
            | (go_at_call 50
               refine (diskcrash_spec ca cc cs da dc ds (some ⟨w8.heap.size, 0, none⟩) 2 [x7, x8] _ (HD8.out.own.mem.kept (Keeps.alloc (Keeps.refl w8) _)) HD8.out.ok (born_alloc w8 #[.int .i64 x7, .int .i64 x8] 3).toOwn.one (by simp)).mono ?_
               rintro e w9 ⟨v, rfl, hr, hk9⟩
               obtain ⟨ca', cc', cs', da', dc', ds', rfl, he, hok, hna, hnd, hb⟩ := hr
               have HE := hide he
               have HOk := hide hok
               have HNa := hide hna
               have HNd := hide hnd
               have HB9 := hide hb
               have HKa := hide (Keeps.alloc (Keeps.refl w8) (.cells #[.int .i64 x7, .int .i64 x8] 3))
               have HK9 := hide hk9
               have r9 := Keeps.row (HKa.out.trans hk9) HD8.out.row
               have y0 := r9.cell (i := 0) (by decide)
               have y1 := r9.cell (i := 1) (by decide)
               have yf0 := r9.frozen 0
               have yf1 := r9.frozen 1
               simp at y0 y1
               clear hk9 hb he hok hna hnd r9))
          all_goals
            have HM9 : Hid (dokM (dat cs' ds') = true ∧ (dat cs' ds').cells.length ≤ 6 ∧ (dat cs' ds').dirty.length + (n - 1) ≤ 6) := by
              obtain ⟨m1, m2, m3⟩ := dok_crash HM.out.1 (f := keepN [x7, x8]) (keepN_le _)
              rw [← HE.out] at m1 m2 m3
              exact ⟨m1, by rw [m2]; exact HM.out.2.1, by rw [m3]; simp; omega⟩
            have hz8 := HG8.out.size
            have lR8 := HR8.out.lt
            have HD9 := hide (HD8.out.put HKa.out (by omega) HB9.out HK9.out HOk.out HNa.out HNd.out)
            have HS9 := hide (HS8.out.grown (row := none) ((HKa.out.trans HK9.out).grows none) (by simp) (by simp))
            have HG9 := hide (HG8.out.trans ((HKa.out.trans HK9.out).grows (some B)))
            have HR9 := hide (Keeps.row (HKa.out.trans HK9.out) HR8.out)
            clear HD8 HS8 HG8 HR8 HB9 HK9 HKa
            go_wp2_with fail
            go_roundw
            case rel => exact ⟨n - 1, ca', cc', cs', da', dc', ds', by omega, by congr 1; omega, HD9, HM9, (HS9.out.set (by omega) (by omega) _).set (by omega) (by omega) _, grown_new (grown_new HG9.out (by omega)) (by omega), (HR9.out.setOther (by simp; omega) _).setOther (by simp; omega) _⟩
            case measure => simp [intOf]; omega
        · have hk2 : (k == 0) = false := by rw [beq_eq_false_iff_ne]; exact hk0
          have hk3 : (k == 1) = false := by rw [beq_eq_false_iff_ne]; exact hk1
          clear hk0 hk1
          have hDb := HD6.out.new
          have hcl : 1 ≤ cs.length ∧ cs.length ≤ 6 := by
            have h1 := HM.out.1
            have h2 := HM.out.2.1
            simp only [dokM, Bool.and_eq_true, decide_eq_true_eq] at h1
            have e : (dat cs ds).cells.length = cs.length := by simp [dat]
            omega
          go_wp2_with fail
          go_region_with (first
            | (go_at_call 52
               refine (below_any (cs.length : Int) HS6.out.drew (by omega) (by omega)).mono ?_
               rintro e w7 ⟨⟨x7, x70, x71, rfl⟩, s7, g7⟩
               have HS7 := hide s7
               have HG7 := hide ((grown_drew HG6.out).trans g7)
               have HR7 := hide (grown_row g7 (by intro e; injection e with e; omega) (Keeps.row ((Keeps.refl w6).drew) HR6.out))
               have HD7 := hide (HD6.out.drew.grown g7 (by omega))
               have HB7 := hide ((HB6.out.kept ((Keeps.refl w6).drew)).turn (s := (a6, bys bL)) (Turn.of_grown (fs := [B]) g7 (by simp)) HBB.out)
               have s0 := HD7.out.row.cell (i := 0) (by decide)
               have s1 := HD7.out.row.cell (i := 1) (by decide)
               have lD7 := HD7.out.row.lt
               simp at s0 s1
               clear s7 g7)
            | (go_at_call 40
               refine (unhide (HWr w7 x7 HD7.out.own.mem HB7.out)).mono ?_
               rintro e w9 ⟨v, rfl, hr, hk9⟩
               obtain ⟨ca', cc', cs', da', dc', ds', rfl, he, hok, hna, hnd, hb⟩ := hr
               have HE := hide he
               have HOk := hide hok
               have HNa := hide hna
               have HNd := hide hnd
               have HB9 := hide hb
               have HK9 := hide hk9
               have r9 := Keeps.row hk9 HD7.out.row
               have y0 := r9.cell (i := 0) (by decide)
               have y1 := r9.cell (i := 1) (by decide)
               have yf0 := r9.frozen 0
               have yf1 := r9.frozen 1
               simp at y0 y1
               clear hk9 hb he hok hna hnd r9))
          all_goals
            have HM9 : Hid (writeB (dat cs ds) x7 bL = true ∧ dokM (dat cs' ds') = true ∧ (dat cs' ds').cells.length ≤ 6 ∧ (dat cs' ds').dirty.length + (n - 1) ≤ 6) := by
              obtain ⟨m0, m1, m2, m3⟩ := write_yes (m := dat cs ds) (i := x7) (L := bL) HM.out.1 (by have := HM.out.2.2; omega) x70 (by simp [dat]; exact x71) HLs.out
              rw [← HE.out] at m1 m2 m3
              exact ⟨m0, m1, by rw [m2]; exact HM.out.2.1, by rw [m3]; have := HM.out.2.2; omega⟩
            have hz7 := HG7.out.size
            have lR7 := HR7.out.lt
            have HD9 := hide (HD7.out.put (Keeps.refl w7) (by omega) HB9.out HK9.out HOk.out HNa.out HNd.out)
            have HS9 := hide (HS7.out.grown (row := none) (HK9.out.grows none) (by simp) (by simp))
            have HG9 := hide (HG7.out.trans (HK9.out.grows (some B)))
            have HR9 := hide (Keeps.row HK9.out HR7.out)
            clear HD7 HS7 HG7 HR7 HB9 HK9
            go_wp2_with fail
            go_roundw
            case rel => exact ⟨n - 1, ca', cc', cs', da', dc', ds', by omega, by congr 1; omega, HD9, HM9.out.2, (HS9.out.set (by omega) (by omega) _).set (by omega) (by omega) _, grown_new (grown_new HG9.out (by omega)) (by omega), (HR9.out.setOther (by simp; omega) _).setOther (by simp; omega) _⟩
            case measure => simp [intOf]; omega
    · have e : n = 0 := by omega
      subst e
      have q0 := HD.out.row.cell (i := 0) (by decide)
      have q1 := HD.out.row.cell (i := 1) (by decide)
      have z0 := HR.out.cell (i := 0) (by decide)
      have z1 := HR.out.cell (i := 1) (by decide)
      have f0 := HR.out.frozen 0
      have f1 := HR.out.frozen 1
      simp at q0 q1 z0 z1
      go_wp2_with fail
      have r9 := row_two' HR.out (.slice ca cs.length cc) (.slice da ds.length dc)
      have o0 := r9.cell (i := 0) (by decide)
      have o1 := r9.cell (i := 1) (by decide)
      simp only [if_true, Nat.one_ne_zero, if_false] at o0 o1
      have ht : Turn [w.heap.size] wr ((wr.setCell ⟨w.heap.size, 0, none⟩ (.slice ca cs.length cc)).setCell ⟨w.heap.size, 1, none⟩ (.slice da ds.length dc)) := (Turn.set (by simp) _).trans' (Turn.set (by simp) _)
      have hBn : Born w ((wr.setCell ⟨w.heap.size, 0, none⟩ (.slice ca cs.length cc)).setCell ⟨w.heap.size, 1, none⟩ (.slice da ds.length dc)) (dsk ca cs da ds) :=
        ⟨HD.out.own.turn ht (fun b hb hx => by have h1 := (HD.out.far b hb).1; have h2 : b = w.heap.size := (by simpa using hx); omega), fun b hb => by have := (HD.out.far b hb).1; omega⟩
      refine bodyPost_ret (v := dskV ca cs.length cc da ds.length dc) ?_ rfl ⟨⟨_, dat cs ds, rfl, ⟨ca, cc, cs, da, dc, ds, rfl, rfl, HD.out.ok, HD.out.na, HD.out.nd, hBn⟩, HM.out.1, HM.out.2.1, by have := HM.out.2.2; omega⟩, (HS.out.set (by omega) (by omega) _).set (by omega) (by omega) _, grown_new (grown_new HG.out (Nat.le_refl _)) (Nat.le_refl _)⟩
      clear hBn ht r9 HD HM HS HG HR q0 q1 z0 z1 f0 f1
      revert o0 o1
      generalize World.setCell _ _ _ = W'
      intro o0 o1
      simp [results, Tryz.results89, go_sem, o0, o1]
end Go.Proofs.YtkdnddckogbgaaaGreatDoor
namespace Go.Proofs.YtkdnddckogbgaaaGreatDoor
open Go.RowKit Go.Deep
set_option linter.unusedVariables false
set_option linter.unusedSimpArgs false
set_option maxRecDepth 100000
theorem numL_digs : ∀ (s n : Nat), n < 256 ^ s → numL (digs n s) = n
  | 0, n, h => by
    have : n = 0 := by simpa using h
    subst this
    rfl
  | s + 1, n, h => by
    rw [digs_snoc, numL_snoc, numL_digs s (n / 256) (by rw [Nat.pow_succ] at h; omega)]
    have e : (UInt8.ofNat n).toNat = n % 256 := by simp
    rw [e]
    omega
theorem cut_at {M A X C : List UInt8} {p s : Nat} (h : M = A ++ (X ++ C)) (hp : A.length = p) (hs : X.length = s) : cut M p s = X := by
  subst h hp hs
  simp [cut]
theorem sec_back {q e : Int} {L : List UInt8} (h : secB q e L.length = true) :
    srB (secR q e L) = true ∧ srQ (secR q e L) = q ∧ srE (secR q e L) = e ∧ srL (secR q e L) = L ∧ (secR q e L).length = 128 := by
  obtain ⟨q0, q1, e0, e1, hl⟩ := secB_true h
  obtain ⟨q, rfl⟩ := Int.eq_ofNat_of_zero_le q0
  obtain ⟨e, rfl⟩ := Int.eq_ofNat_of_zero_le (show 0 ≤ e by omega)
  have hM : secR q e L = secL q e L := by unfold secR; rw [if_pos h]; rfl
  have hlen := secL_length (q := q) (e := e) hl
  have c0 : cut (secL q e L) 0 1 = [74] := cut_at (A := []) (C := digs q 3 ++ digs e 3 ++ digs L.length 1 ++ L ++ List.replicate (114 - L.length) 0 ++ digs q 3 ++ digs e 3) (by simp [secL, List.append_assoc]) rfl rfl
  have c1 : cut (secL q e L) 1 3 = digs q 3 := cut_at (A := [74]) (C := digs e 3 ++ digs L.length 1 ++ L ++ List.replicate (114 - L.length) 0 ++ digs q 3 ++ digs e 3) (by simp [secL, List.append_assoc]) rfl (digs_length _ _)
  have c4 : cut (secL q e L) 4 3 = digs e 3 := cut_at (A := [74] ++ digs q 3) (C := digs L.length 1 ++ L ++ List.replicate (114 - L.length) 0 ++ digs q 3 ++ digs e 3) (by simp [secL, List.append_assoc]) (by simp [digs_length]) (digs_length _ _)
  have c7 : cut (secL q e L) 7 1 = digs L.length 1 := cut_at (A := [74] ++ digs q 3 ++ digs e 3) (C := L ++ List.replicate (114 - L.length) 0 ++ digs q 3 ++ digs e 3) (by simp [secL, List.append_assoc]) (by simp [digs_length]) (digs_length _ _)
  have c8 : cut (secL q e L) 8 L.length = L := cut_at (A := [74] ++ digs q 3 ++ digs e 3 ++ digs L.length 1) (C := List.replicate (114 - L.length) 0 ++ digs q 3 ++ digs e 3) (by simp [secL, List.append_assoc]) (by simp [digs_length]) rfl
  have cR : cut (secL q e L) (8 + L.length) (114 - L.length) = List.replicate (114 - L.length) 0 := cut_at (A := [74] ++ digs q 3 ++ digs e 3 ++ digs L.length 1 ++ L) (C := digs q 3 ++ digs e 3) (by simp [secL, List.append_assoc]) (by simp [digs_length]; omega) (by simp)
  have c122 : cut (secL q e L) 122 3 = digs q 3 := cut_at (A := [74] ++ digs q 3 ++ digs e 3 ++ digs L.length 1 ++ L ++ List.replicate (114 - L.length) 0) (C := digs e 3) (by simp [secL, List.append_assoc]) (by simp [digs_length]; omega) (digs_length _ _)
  have c125 : cut (secL q e L) 125 3 = digs e 3 := cut_at (A := [74] ++ digs q 3 ++ digs e 3 ++ digs L.length 1 ++ L ++ List.replicate (114 - L.length) 0 ++ digs q 3) (C := []) (by simp [secL, List.append_assoc]) (by simp [digs_length]; omega) (digs_length _ _)
  have nq : numL (digs q 3) = q := numL_digs 3 q (by omega)
  have ne : numL (digs e 3) = e := numL_digs 3 e (by omega)
  have nl : numL (digs L.length 1) = L.length := numL_digs 1 L.length (by omega)
  have hB : srB (secL q e L) = true := by
    unfold srB
    rw [c0, c1, c4, c7, nl, cR, c122, c125, nq, ne, h, hlen]
    simp [numL_one, hl]
  rw [hM]
  unfold srQ srE srL
  rw [if_pos hB, if_pos hB, if_pos hB, c1, c4, c7, nl, c8, nq, ne]
  exact ⟨hB, rfl, rfl, rfl, hlen⟩
theorem land_all {old new : List UInt8} (hn : new.length = 128) (ho : (fullL old).length = 128) : landL old new 128 = new := by
  unfold landL
  rw [List.take_of_length_le (by omega), List.drop_eq_nil_of_le (by omega), List.append_nil]
theorem full_len {L : List UInt8} (h : L.length = 0 ∨ L.length = 128) : (fullL L).length = 128 := by
  unfold fullL
  split
  · simp
  · rename_i h0
    rcases h with h1 | h1
    · exact absurd (List.length_eq_zero_iff.1 h1) h0
    · exact h1
theorem getD_ok {C : List (List UInt8)} (hC : okC C) (i : Nat) : (C.getD i []).length = 0 ∨ (C.getD i []).length = 128 := by
  rw [List.getD_eq_getElem?_getD]
  cases h : C[i]? with
  | none => simp
  | some y => exact hC y (List.mem_of_getElem? h)
theorem crash_cell {m : DkM} (h : dokM m = true) {i : Int} (h0 : 0 ≤ i) : ∀ k, k ≤ m.dirty.length → (crashTo m.cells m.dirty (fun _ => 128) k).getD i.toNat [] = (lastD (m.dirty.take k) i).getD (m.cells.getD i.toNat [])
  | 0, _ => by simp [crashTo, lastD]
  | k + 1, hk => by
    have ih := crash_cell h h0 k (by omega)
    have hlt : k < m.dirty.length := by omega
    have hx := dokM_dirty h (List.getElem_mem hlt)
    have hok := crashTo_ok h (f := fun _ => 128) (fun _ => Nat.le_refl _) k
    have hlen := crashTo_len m.cells m.dirty (fun _ => 128) k
    rw [List.take_succ_eq_append_getElem hlt, lastD_append]
    simp only [crashTo, List.getElem?_eq_getElem hlt]
    generalize m.dirty[k] = x at *
    obtain ⟨xi, xL⟩ := x
    dsimp only at hx
    unfold landM
    rw [if_neg (by decide), land_all hx.2.2 (full_len (getD_ok hok _))]
    by_cases e : xi = i
    · subst e
      rw [List.getD_eq_getElem?_getD, List.getElem?_set_self (by rw [hlen]; omega)]
      simp [lastD]
    · rw [List.getD_eq_getElem?_getD, List.getElem?_set_ne (by omega), ← List.getD_eq_getElem?_getD, ih]
      simp [lastD, e]
theorem last_len {D : List (Int × List UInt8)} {i : Int} {L : List UInt8} (hD : ∀ x ∈ D, x.2.length = 128) (h : lastD D i = some L) : L.length = 128 := by
  induction D with
  | nil => simp [lastD] at h
  | cons x t ih =>
    simp only [lastD] at h
    cases ht : lastD t i with
    | some y =>
      rw [ht] at h
      simp at h
      subst h
      exact ih (fun x hx => hD x (List.mem_cons_of_mem _ hx)) ht
    | none =>
      rw [ht] at h
      simp at h
      rw [← h.2]
      exact hD x (List.mem_cons_self ..)
/-- A disk that was synced reads as ahead of it. -/
theorem sync_read {m : DkM} (h : dokM m = true) {i : Int} (h0 : 0 ≤ i) (h1 : i < m.cells.length) : readB m i = true ∧ readB (crashM m (fun _ => 128)) i = true ∧ readL (crashM m (fun _ => 128)) i = readL m i := by
  obtain ⟨c1, c2, c3⟩ := dok_crash h (f := fun _ => 128) (fun _ => Nat.le_refl _)
  have b1 : readB m i = true := by simp [readB, h, h0, h1]
  have b2 : readB (crashM m (fun _ => 128)) i = true := by simp [readB, c1, h0, c2, h1]
  refine ⟨b1, b2, ?_⟩
  unfold readL
  rw [if_pos b1, if_pos b2, c3]
  have e : (crashM m (fun _ => 128)).cells = crashTo m.cells m.dirty (fun _ => 128) m.dirty.length := by unfold crashM; rw [if_pos h]
  rw [e, crash_cell h h0 m.dirty.length (Nat.le_refl _), List.take_length]
  cases hl : lastD m.dirty i with
  | none => simp [lastD]
  | some L =>
    have := last_len (fun x hx => (dokM_dirty h hx).2.2) hl
    simp [lastD, fullL]
    intro h
    rw [h] at this
    simp at this
theorem write_read {m : DkM} {i : Int} {L : List UInt8} (h : writeB m i L = true) (j : Int) : readL (writeM m i L) j = if j = i then L else readL m j := by
  have hm : dokM m = true := by unfold writeB at h; simp only [Bool.and_eq_true] at h; exact h.1.1.1
  have hi : 0 ≤ i ∧ i < m.cells.length := by unfold writeB at h; simp only [Bool.and_eq_true, decide_eq_true_eq] at h; exact h.1.2
  have hd := dokM_add (i := i) (L := L) hm
  rw [h] at hd
  unfold writeM
  rw [if_pos h]
  unfold readL readB
  rw [hd, hm]
  dsimp only
  rw [lastD_append]
  by_cases e : j = i
  · subst e
    simp [lastD, hi.1, hi.2]
  · have e' : ¬ i = j := fun x => e x.symm
    simp [lastD, e, e']
theorem fit_ext {m m' : DkM} {k : Nat} (h : ∀ j : Nat, j ≤ k → readL m' j = readL m j) : fitB m' k = fitB m k := by
  have hl : lastE m' k = lastE m k := by
    cases k with
    | zero => rfl
    | succ k => simp only [lastE]; rw [h k (by omega)]
  unfold fitB
  rw [h k (Nat.le_refl _), hl]
theorem fitTo_ext {m m' : DkM} {k : Nat} (h : ∀ j : Nat, j < k → readL m' j = readL m j) (hf : fitTo m k) : fitTo m' k := fun j hj => by
  rw [fit_ext (fun i hi => h i (by omega))]
  exact hf j hj
theorem evsTo_ext {m m' : DkM} : ∀ {k : Nat}, (∀ j : Nat, j < k → readL m' j = readL m j) → evsTo m' k = evsTo m k
  | 0, _ => rfl
  | k + 1, h => by
    have ih := evsTo_ext (m := m) (m' := m') (k := k) (fun j hj => h j (by omega))
    simp only [evsTo]
    rw [h k (by omega), ih]
theorem top_ge {m : DkM} : ∀ {n k : Nat}, k < n → srB (readL m k) = true → srE (readL m k) ≤ topTo m n
  | 0, k, h, _ => by omega
  | n + 1, k, h, hb => by
    by_cases e : k = n
    · subst e
      rw [topTo_max hb]
      omega
    · have ih := top_ge (m := m) (n := n) (k := k) (by omega) hb
      unfold topTo
      split
      · omega
      · exact ih
theorem last_top {m : DkM} {k : Nat} (hf : fitTo m k) {n : Nat} (h : k ≤ n) : lastE m k ≤ topTo m n := by
  cases k with
  | zero => simp only [lastE]; exact (topTo_bound m n).1
  | succ k =>
    simp only [lastE]
    have h1 := hf k (by omega)
    unfold fitB at h1
    simp only [Bool.and_eq_true] at h1
    exact top_ge (by omega) h1.1.1
theorem top_le {m : DkM} {b : Int} (h0 : 0 ≤ b) : ∀ {n : Nat}, (∀ k : Nat, k < n → srB (readL m k) = true → srE (readL m k) ≤ b) → topTo m n ≤ b
  | 0, _ => h0
  | n + 1, h => by
    have ih := top_le (m := m) h0 (n := n) (fun k hk => h k (by omega))
    unfold topTo
    split
    · next h1 => exact h n (by omega) h1.1
    · exact ih
/-- A log that was opened. -/
theorem op_cells {m : DkM} (hc : opC m = 0) : dokM m = true ∧ m.dirty = [] ∧ logN m < m.cells.length ∧ topM m < 16000000 := by
  unfold opC at hc
  split at hc
  · next h =>
    simp only [Bool.and_eq_true, decide_eq_true_eq] at h
    split at hc
    · exact absurd hc (by decide)
    · next h2 =>
      have h4 : logN m ≤ m.cells.length := logTo_le m m.cells.length
      have h6 := topM_bound m
      exact ⟨h.1, List.length_eq_zero_iff.1 h.2, by omega, by omega⟩
  · exact absurd hc (by decide)
theorem op_sec {m : DkM} (hc : opC m = 0) : secB (logN m : Nat) (topM m + 1) [(66 : UInt8)].length = true := by
  obtain ⟨h1, h2, h3, h4⟩ := op_cells hc
  have h5 := dokM_len h1
  have h6 := topM_bound m
  unfold secB
  rw [decide_eq_true (p := 0 ≤ ((logN m : Nat) : Int)) (by omega), decide_eq_true (p := ((logN m : Nat) : Int) < 600) (by omega), decide_eq_true (p := 1 ≤ topM m + 1) (by omega), decide_eq_true (p := topM m + 1 ≤ 16000000) (by omega)]
  rfl
theorem op_write {m : DkM} (hc : opC m = 0) : writeB m (logN m : Nat) (secR (logN m : Nat) (topM m + 1) [66]) = true := by
  obtain ⟨h1, h2, h3, h4⟩ := op_cells hc
  exact writeB_yes h1 (by rw [h2]; decide) (by omega) (by omega) (sec_back (op_sec hc)).2.2.2.2
theorem op_right {m : DkM} (hc : opC m = 0) : dokM (opM m) = true ∧ (opM m).cells.length = m.cells.length ∧ (opM m).dirty = [] := by
  obtain ⟨h1, h2, h3, h4⟩ := op_cells hc
  have hw := op_write hc
  have hd : dokM (opW m) = true := by unfold opW writeM; rw [if_pos hw, dokM_add h1]; exact hw
  obtain ⟨c1, c2, c3⟩ := dok_crash hd (f := fun _ => 128) (fun _ => Nat.le_refl _)
  unfold opM
  rw [if_pos hc]
  refine ⟨c1, ?_, c3⟩
  rw [c2]
  unfold opW writeM
  rw [if_pos hw]
theorem op_read {m : DkM} (hc : opC m = 0) {j : Nat} (hj : j < m.cells.length) : readL (opM m) j = if j = logN m then secR (logN m : Nat) (topM m + 1) [66] else readL m j := by
  obtain ⟨h1, h2, h3, h4⟩ := op_cells hc
  have hw := op_write hc
  have hd : dokM (opW m) = true := by unfold opW writeM; rw [if_pos hw, dokM_add h1]; exact hw
  have hl : (opW m).cells.length = m.cells.length := by unfold opW writeM; rw [if_pos hw]
  have hr := (sync_read hd (i := (j : Int)) (by omega) (by rw [hl]; omega)).2.2
  unfold opM
  rw [if_pos hc, hr]
  unfold opW
  rw [write_read hw]
  by_cases e : j = logN m
  · subst e; simp
  · rw [if_neg (by omega), if_neg e]
/-- Opening a log keeps its events; its epoch is above all that lies there. -/
theorem op_all {m : DkM} (hc : opC m = 0) : logN (opM m) = logN m + 1 ∧ evsTo (opM m) (logN m + 1) = evsTo m (logN m) ∧ topM (opM m) = topM m + 1 := by
  obtain ⟨h1, h2, h3, h4⟩ := op_cells hc
  obtain ⟨r1, r2, r3⟩ := op_right hc
  obtain ⟨s1, s2, s3, s4, s5⟩ := sec_back (op_sec hc)
  have hf : fitTo m (logN m) := fitTo_log m.cells.length
  have hx : ∀ j : Nat, j < logN m → readL (opM m) j = readL m j := fun j hj => by rw [op_read hc (by omega), if_neg (by omega)]
  have hn : readL (opM m) (logN m) = secR (logN m : Nat) (topM m + 1) [66] := by rw [op_read hc h3, if_pos rfl]
  have hlast : lastE (opM m) (logN m) = lastE m (logN m) := by
    cases hk : logN m with
    | zero => rfl
    | succ k => simp only [lastE]; rw [hx k (by omega)]
  have hl : lastE m (logN m) ≤ topM m := last_top hf (by omega)
  have f1 : fitTo (opM m) (logN m + 1) := by
    refine fitTo_succ (fitTo_ext hx hf) ?_
    unfold fitB
    rw [hn, s1, s2, s3, hlast, decide_eq_true (show ((logN m : Nat) : Int) = (logN m : Nat) from rfl), decide_eq_true (show lastE m (logN m) ≤ topM m + 1 by omega)]
    rfl
  refine ⟨?_, ?_, ?_⟩
  · show logTo (opM m) (opM m).cells.length = _
    by_cases e : logN m + 1 = m.cells.length
    · rw [r2, ← e]; exact logTo_all f1
    · refine logTo_stop f1 ?_ (by rw [r2]; omega)
      unfold fitB
      rw [op_read hc (by omega), if_neg (by omega)]
      cases hb : srB (readL m (logN m + 1 : Nat)) with
      | false => rfl
      | true =>
        have := top_ge (m := m) (n := m.cells.length) (k := logN m + 1) (by omega) hb
        have ht : topM m = topTo m m.cells.length := rfl
        have hq : lastE (opM m) (logN m + 1) = topM m + 1 := by simp only [lastE]; rw [hn, s3]
        rw [decide_eq_false (p := lastE (opM m) (logN m + 1) ≤ _) (by rw [hq]; omega)]
        simp
  · rw [evsTo_no (by rw [hn, s4]; rfl)]
    exact evsTo_ext hx
  · have hle : topM (opM m) ≤ topM m + 1 := by
      refine top_le (by have := topM_bound m; omega) ?_
      intro k hk hb
      rw [r2] at hk
      rw [op_read hc hk] at hb ⊢
      by_cases e : k = logN m
      · rw [if_pos e, s3]; omega
      · rw [if_neg e] at hb ⊢
        have := top_ge (m := m) (n := m.cells.length) (k := k) hk hb
        have ht : topM m = topTo m m.cells.length := rfl
        omega
    have hge := top_ge (m := opM m) (n := (opM m).cells.length) (k := logN m) (by rw [r2]; omega) (by rw [hn]; exact s1)
    rw [hn, s3] at hge
    have ht : topM (opM m) = topTo (opM m) (opM m).cells.length := rfl
    omega
end Go.Proofs.YtkdnddckogbgaaaGreatDoor
