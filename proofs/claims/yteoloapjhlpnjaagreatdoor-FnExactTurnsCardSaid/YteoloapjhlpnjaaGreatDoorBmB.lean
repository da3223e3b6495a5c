/- Marks in books. -/
import Derived.Test.YteoloapjhlpnjaaGreatDoorBgB
import Derived.Test.YteoloapjhlpnjaaGreatDoorBmC
import Derived.Test.YteoloapjhlpnjaaGreatDoorBmH
import Derived.Test.YteoloapjhlpnjaaGreatDoorBmR
import Derived.Deep.Cut
namespace Go.Proofs.YteoloapjhlpnjaaGreatDoor
open Go.RowKit Go.Deep
set_option linter.unusedVariables false
set_option linter.unusedSimpArgs false
set_option maxRecDepth 10000

def markBo (n : Nat) (B : Bo) : Bo := ⟨B.tk, B.nx, B.wa, B.ca, B.cc, marksChn n B.C.length, B.ha, B.hc, marksHtl (n + 7 * B.C.length) B.Hs.length, B.ra, B.rc, marksCrc (n + 7 * B.C.length + 7 * B.Hs.length) B.R.length⟩
def markN (n : Nat) (B : Bo) : Nat := n + 7 * B.C.length + 7 * B.Hs.length + 5 * B.R.length
/-- One list of three has turned. -/
theorem own3 {w : World} {s1 s2 s3 : Seg} (h : Own w [s1, s2, s3]) : Own w [s1] ∧ Own w [s2] ∧ Own w [s3] :=
  ⟨Own.left (S := [s1]) (T := [s2, s3]) h, Own.left (S := [s2]) (T := [s3]) (Own.right (S := [s1]) (T := [s2, s3]) h), Own.right (S := [s2]) (T := [s3]) (Own.right (S := [s1]) (T := [s2, s3]) h)⟩
theorem fp_in3 {s1 s2 s3 : Seg} : (∀ b ∈ fp [s1], b ∈ fp [s1, s2, s3]) ∧ (∀ b ∈ fp [s2], b ∈ fp [s1, s2, s3]) ∧ (∀ b ∈ fp [s3], b ∈ fp [s1, s2, s3]) := by
  refine ⟨fun b hb => ?_, fun b hb => ?_, fun b hb => ?_⟩ <;> simp [fp] at hb ⊢ <;> simp [hb]
set_option maxHeartbeats 4000000 in
theorem markBook_k (B : Bo) (n : Nat) (w : World) (h : Own w B.segs) (hl : B.len) (hn : n ≤ 900000000) :
    Calls Tryz.prog 18 #[B.v, .int .i64 (n : Int)] w fun e w' => e = .returned (.int .i64 (markN n B : Int)) ∧ Own w' (markBo n B).segs ∧ Turn (fp B.segs) w w' := by
  obtain ⟨tk, nx, wa, ca, cc, C, ha, hc, Hs, ra, rc, R⟩ := B
  have HB := hide (rowc6 w (.int .i64 tk) (.int .i64 nx) (.int .i64 wa) (.slice ca C.length cc) (.slice ha Hs.length hc) (.slice ra R.length rc) 27)
  have HK := hide (Keeps.alloc (Keeps.refl w) (.cells #[.int .i64 tk, .int .i64 nx, .int .i64 wa, .slice ca C.length cc, .slice ha Hs.length hc, .slice ra R.length rc] 27))
  obtain ⟨l1, l2, l3⟩ := hl
  dsimp only [Bo.v, Bo.segs, markBo] at *
  have HO0 := hide (h.kept HK.out)
  have HT0 := hide (Turn.of_keeps HK.out (fp [(ca, chs C), (ha, hts Hs), (ra, crs R)]))
  have HLT := hide h.mem.lt
  clear h
  go_enter Tryz.func18, Tryz.ntmps18
  go_upto_region 1 with fail
  generalize w.alloc (.cells #[.int .i64 tk, .int .i64 nx, .int .i64 wa, .slice ca C.length cc, .slice ha Hs.length hc, .slice ra R.length rc] 27) = W0 at *
  have HKW := hide (Keeps.refl W0)
  have HNB : Hid (∀ b ∈ fp [(ca, chs C), (ha, hts Hs), (ra, crs R)], b ≠ w.heap.size) := fun b hb e => by have := HLT.out b hb; omega
  obtain ⟨c0, c1, c2, c3, c4, c5⟩ := unhide HB W0 (Keeps.refl _)
  have HCs : Hid (∀ w', Turn (fp [(ca, chs C), (ha, hts Hs), (ra, crs R)]) W0 w' → w'.cell? ⟨w.heap.size, 3, none⟩ = some (.slice ca C.length cc) ∧ w'.cell? ⟨w.heap.size, 4, none⟩ = some (.slice ha Hs.length hc) ∧ w'.cell? ⟨w.heap.size, 5, none⟩ = some (.slice ra R.length rc)) :=
    fun w' ht => ⟨ht.cell (fun hx => HNB.out _ hx rfl) c3, ht.cell (fun hx => HNB.out _ hx rfl) c4, ht.cell (fun hx => HNB.out _ hx rfl) c5⟩
  have HTW := hide (Turn.refl (fp [(ca, chs C), (ha, hts Hs), (ra, crs R)]) W0)
  clear c0 c1 c2 c4 c5
  go_wp2_with fail
  refine (markChanS_k ca cc C n W0 (own3 HO0.out).1 l1 (by omega)).mono ?_
  rintro e w1 ⟨rfl, ho, ht⟩
  have HO1 : Hid (Own w1 [(ca, chs (marksChn n C.length)), (ha, hts Hs), (ra, crs R)]) := Own.upd (A := []) (B := [(ha, hts Hs), (ra, crs R)]) HO0.out ho (fpS_len (by rw [chs_len, chs_len, marksChn_len])) ht
  replace HTW := hide (HTW.out.trans' (ht.mono fp_in3.1))
  clear ho ht c3 HO0
  obtain ⟨-, c4, -⟩ := HCs.out w1 HTW.out
  go_wp2_with fail
  have e7 : ((n + 7 * C.length : Nat) : Int) = ((n + 7 * C.length : Nat) : Int) := rfl
  refine (markHtlcS_k ha hc Hs (n + 7 * C.length) w1 (own3 HO1.out).2.1 l2 (by omega)).mono ?_
  rintro e w2 ⟨rfl, ho, ht⟩
  have HO2 : Hid (Own w2 [(ca, chs (marksChn n C.length)), (ha, hts (marksHtl (n + 7 * C.length) Hs.length)), (ra, crs R)]) := Own.upd (A := [(ca, chs (marksChn n C.length))]) (B := [(ra, crs R)]) HO1.out ho (fpS_len (by rw [hts_len, hts_len, marksHtl_len])) ht
  replace HTW := hide (HTW.out.trans' (ht.mono fp_in3.2.1))
  clear ho ht c4 HO1
  obtain ⟨-, -, c5⟩ := HCs.out w2 HTW.out
  go_wp2_with fail
  refine (markCircleS_k ra rc R (n + 7 * C.length + 7 * Hs.length) w2 (own3 HO2.out).2.2 l3 (by omega)).mono ?_
  rintro e w3 ⟨rfl, ho, ht⟩
  have HO3 : Hid (Own w3 [(ca, chs (marksChn n C.length)), (ha, hts (marksHtl (n + 7 * C.length) Hs.length)), (ra, crs (marksCrc (n + 7 * C.length + 7 * Hs.length) R.length))]) := Own.upd (A := [(ca, chs (marksChn n C.length)), (ha, hts (marksHtl (n + 7 * C.length) Hs.length))]) (B := []) HO2.out ho (fpS_len (by rw [crs_len, crs_len, marksCrc_len])) ht
  replace HTW := hide (HTW.out.trans' (ht.mono fp_in3.2.2))
  clear ho ht c5 HO2
  go_wp2_with fail
  go_ret
  exact ⟨rfl, HO3.out, HT0.out.trans' HTW.out⟩
end Go.Proofs.YteoloapjhlpnjaaGreatDoor
