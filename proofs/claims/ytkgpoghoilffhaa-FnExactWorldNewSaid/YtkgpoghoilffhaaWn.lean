/- WorldNew, the program's and the model's. -/
import Derived.Test.YtkgpoghoilffhaaNil
import Derived.Deep.Cut
import Derived.Deep.MidRow
namespace Go.Proofs.Ytkgpoghoilffhaa
open Go.RowKit Go.Deep
set_option linter.unusedVariables false
set_option linter.unusedSimpArgs false
set_option maxRecDepth 10000
theorem turn_setCells (b : Nat) : ∀ (vs : List Value) (o : Nat) (w : World), Turn [b] w (w.setCells b o vs)
  | [], _, w => Turn.refl _ w
  | v :: r, o, w => (Turn.set (by simp) _).trans' (turn_setCells b r (o + 1) _)
theorem there_row {w : World} {B : Nat} {ty : TypeId} {m : Nat} {f : Nat → Value} (hr : w.rowIs B ty m f) : w.there B 0 m := fun j hj => ⟨by rw [Nat.zero_add, hr.cell hj]; rfl, by rw [Nat.zero_add]; exact hr.frozen j⟩
theorem info_w : (Try.prog.info? 41).map (·.size) = some 20 := by kernel_rfl
theorem under_w : ∃ d, Try.prog.underlying 41 = some d ∧ d.isRow = true := ⟨_, Try.underlying41, rfl⟩
theorem row_w (w : World) (ty : TypeId) (x0 x1 x2 x3 x4 x5 x6 x7 x8 x9 x10 x11 x12 x13 x14 x15 x16 x17 x18 x19 : Value) : (w.alloc (.cells #[x0, x1, x2, x3, x4, x5, x6, x7, x8, x9, x10, x11, x12, x13, x14, x15, x16, x17, x18, x19] ty)).rowIs w.heap.size ty 20 (fun i => if i = 0 then x0 else if i = 1 then x1 else if i = 2 then x2 else if i = 3 then x3 else if i = 4 then x4 else if i = 5 then x5 else if i = 6 then x6 else if i = 7 then x7 else if i = 8 then x8 else if i = 9 then x9 else if i = 10 then x10 else if i = 11 then x11 else if i = 12 then x12 else if i = 13 then x13 else if i = 14 then x14 else if i = 15 then x15 else if i = 16 then x16 else if i = 17 then x17 else if i = 18 then x18 else x19) := World.rowIs_alloc w #[x0, x1, x2, x3, x4, x5, x6, x7, x8, x9, x10, x11, x12, x13, x14, x15, x16, x17, x18, x19] ty _ (fun i hi => by
  match i, hi with
  | 0, _ => rfl
  | 1, _ => rfl
  | 2, _ => rfl
  | 3, _ => rfl
  | 4, _ => rfl
  | 5, _ => rfl
  | 6, _ => rfl
  | 7, _ => rfl
  | 8, _ => rfl
  | 9, _ => rfl
  | 10, _ => rfl
  | 11, _ => rfl
  | 12, _ => rfl
  | 13, _ => rfl
  | 14, _ => rfl
  | 15, _ => rfl
  | 16, _ => rfl
  | 17, _ => rfl
  | 18, _ => rfl
  | 19, _ => rfl
  | m + 20, hi => simp at hi; omega)
def WldRes (w w' : World) (v : Value) (M : DkM) : Prop := ∃ (ca : Option Addr) (cc : Nat) (cs : List Bs) (da : Option Addr) (dc : Nat) (ds : List Wr), v = wldV ca cs.length cc da ds.length dc ∧ dat cs ds = M ∧ DOk cs ds ∧ (ca = none → cc = 0) ∧ (da = none → dc = 0) ∧ Born w w' (dsk ca cs da ds)
theorem wldres_none (w w' : World) : WldRes w w' (wldV none 0 0 none 0 0) noneM := by
  obtain ⟨ca, cc, cs, da, dc, ds, e, h2, h3, h4, h5, h6⟩ := diskres_none w w'
  refine ⟨ca, cc, cs, da, dc, ds, ?_, h2, h3, h4, h5, h6⟩
  simp [dskV] at e
  obtain ⟨⟨rfl, h, rfl⟩, rfl, h2, rfl⟩ := e
  rw [← h, ← h2]
set_option maxHeartbeats 8000000 in
theorem worldnew_spec (n : Int) (w : World) : Calls Try.prog 4 #[.int .i64 n] w fun e w' => ∃ v, e = .returned (.tuple #[v, .bool (newB n)]) ∧ WldRes w w' v (newM n) ∧ Keeps w w' := by
  have HK := hide (Keeps.alloc (Keeps.refl w) (.cells #[.bool false, .slice none 0 0, .slice none 0 0, .int .i64 0, .int .i64 0, .int .i64 0, .int .i64 0, .int .i64 0, .slice none 0 0, .slice none 0 0, .slice none 0 0, .int .i64 0, .slice none 0 0, .slice none 0 0, .slice none 0 0, .slice none 0 0, .slice none 0 0, .slice none 0 0, .slice none 0 0, .slice none 0 0] 41))
  have HR := hide (row_w w 41 (.bool false) (.slice none 0 0) (.slice none 0 0) (.int .i64 0) (.int .i64 0) (.int .i64 0) (.int .i64 0) (.int .i64 0) (.slice none 0 0) (.slice none 0 0) (.slice none 0 0) (.int .i64 0) (.slice none 0 0) (.slice none 0 0) (.slice none 0 0) (.slice none 0 0) (.slice none 0 0) (.slice none 0 0) (.slice none 0 0) (.slice none 0 0))
  have hsz : (w.alloc (.cells #[.bool false, .slice none 0 0, .slice none 0 0, .int .i64 0, .int .i64 0, .int .i64 0, .int .i64 0, .int .i64 0, .slice none 0 0, .slice none 0 0, .slice none 0 0, .int .i64 0, .slice none 0 0, .slice none 0 0, .slice none 0 0, .slice none 0 0, .slice none 0 0, .slice none 0 0, .slice none 0 0, .slice none 0 0] 41)).heap.size = w.heap.size + 1 := by simp
  obtain ⟨dd, hu, hd⟩ := under_w
  go_enter Try.func4, Try.ntmps4
  go_wp2_with fail
  generalize w.alloc (.cells #[.bool false, .slice none 0 0, .slice none 0 0, .int .i64 0, .int .i64 0, .int .i64 0, .int .i64 0, .int .i64 0, .slice none 0 0, .slice none 0 0, .slice none 0 0, .int .i64 0, .slice none 0 0, .slice none 0 0, .slice none 0 0, .slice none 0 0, .slice none 0 0, .slice none 0 0, .slice none 0 0, .slice none 0 0] 41) = W1 at *
  refine (disknew_spec n W1).mono ?_
  rintro x w1 ⟨v, rfl, hr, hk1⟩
  obtain ⟨ca, cc, cs, da, dc, ds, rfl, he, hdk, ha, hb, hbo⟩ := hr
  have hk2 := Keeps.alloc (Keeps.refl w1) (.cells #[.slice ca cs.length cc, .slice da ds.length dc] 25)
  have HE := hide he
  have HD := hide hdk
  have HA := hide ha
  have HB := hide hb
  have HK2 := hide (HK.out.trans (hk1.trans hk2))
  have HR2 := hide (Keeps.rowV (hk1.trans hk2) HR.out)
  have HO2 := hide (hbo.toOwn.kept hk2)
  have HN2 : Hid (∀ b ∈ fp (dsk ca cs da ds), w.heap.size ≤ b ∧ b ≠ w.heap.size) := fun b hb => by have := hbo.new b hb; omega
  have d0 : (w1.alloc (.cells #[.slice ca cs.length cc, .slice da ds.length dc] 25)).cell? ⟨w1.heap.size, 0, none⟩ = some (.slice ca cs.length cc) := by simp
  have d1 : (w1.alloc (.cells #[.slice ca cs.length cc, .slice da ds.length dc] 25)).cell? ⟨w1.heap.size, 1, none⟩ = some (.slice da ds.length dc) := by simp
  clear he hdk ha hb hbo hk1 hk2 HK HR hsz
  go_upto_region 2 with fail
  generalize w1.alloc (.cells #[.slice ca cs.length cc, .slice da ds.length dc] 25) = W2 at *
  cases hnb : newB n
  · have HNB := hide hnb
    clear hnb
    go_wp2_with (refine wpList_store_mid (P := Try.prog) rfl 41 (.tmp 2) (.tmp 13) rfl w.heap.size 0 #[.bool false, .slice none 0 0, .slice none 0 0, .int .i64 0, .int .i64 0, .int .i64 0, .int .i64 0, .int .i64 0, .slice none 0 0, .slice none 0 0, .slice none 0 0, .int .i64 0, .slice none 0 0, .slice none 0 0, .slice none 0 0, .slice none 0 0, .slice none 0 0, .slice none 0 0, .slice none 0 0, .slice none 0 0] rfl rfl (there_row HR2.out) info_w (by simp [Value.oneCell']) ?_)
    have hF := turn_setCells w.heap.size [.bool false, .slice none 0 0, .slice none 0 0, .int .i64 0, .int .i64 0, .int .i64 0, .int .i64 0, .int .i64 0, .slice none 0 0, .slice none 0 0, .slice none 0 0, .int .i64 0, .slice none 0 0, .slice none 0 0, .slice none 0 0, .slice none 0 0, .slice none 0 0, .slice none 0 0, .slice none 0 0, .slice none 0 0] 0 W2
    have hrg := World.rangeAt_setCells_same W2 w.heap.size 0 [.bool false, .slice none 0 0, .slice none 0 0, .int .i64 0, .int .i64 0, .int .i64 0, .int .i64 0, .int .i64 0, .slice none 0 0, .slice none 0 0, .slice none 0 0, .int .i64 0, .slice none 0 0, .slice none 0 0, .slice none 0 0, .slice none 0 0, .slice none 0 0, .slice none 0 0, .slice none 0 0, .slice none 0 0] (there_row HR2.out)
    have hBF : Born w (W2.setCells w.heap.size 0 [.bool false, .slice none 0 0, .slice none 0 0, .int .i64 0, .int .i64 0, .int .i64 0, .int .i64 0, .int .i64 0, .slice none 0 0, .slice none 0 0, .slice none 0 0, .int .i64 0, .slice none 0 0, .slice none 0 0, .slice none 0 0, .slice none 0 0, .slice none 0 0, .slice none 0 0, .slice none 0 0, .slice none 0 0]) (dsk ca cs da ds) := ⟨HO2.out.turn hF (fun b hb hx => (HN2.out b hb).2 (by simpa using hx)), fun b hb => (HN2.out b hb).1⟩
    have hKF := hF.keeps HK2.out (by simp)
    generalize W2.setCells w.heap.size 0 [.bool false, .slice none 0 0, .slice none 0 0, .int .i64 0, .int .i64 0, .int .i64 0, .int .i64 0, .int .i64 0, .slice none 0 0, .slice none 0 0, .slice none 0 0, .int .i64 0, .slice none 0 0, .slice none 0 0, .slice none 0 0, .slice none 0 0, .slice none 0 0, .slice none 0 0, .slice none 0 0, .slice none 0 0] = WW at *
    have ql := run_loadVar_mid (P := Try.prog) WW w.heap.size 0 41 _ _ hrg hu hd info_w
    have qa : (asAddr (.pointer (some ⟨w.heap.size, 0, none⟩))).run Try.prog WW = .ok ⟨w.heap.size, 0, none⟩ WW := rfl
    refine bodyPost_ret (v := .tuple #[.agg #[.bool false, .slice none 0 0, .slice none 0 0, .int .i64 0, .int .i64 0, .int .i64 0, .int .i64 0, .int .i64 0, .slice none 0 0, .slice none 0 0, .slice none 0 0, .int .i64 0, .slice none 0 0, .slice none 0 0, .slice none 0 0, .slice none 0 0, .slice none 0 0, .slice none 0 0, .slice none 0 0, .slice none 0 0], .bool false]) ?_ rfl ⟨_, by rw [HNB.out], by unfold newM; rw [HNB.out]; exact wldres_none w WW, hKF⟩
    clear hKF hBF hF hrg
    simp [results, Try.results4, qa, ql, Result.andThen]
  · have HNB := hide hnb
    clear hnb
    go_wp2_with (refine wpList_store_mid (P := Try.prog) rfl 41 (.tmp 2) (.tmp 15) rfl w.heap.size 0 #[.bool false, .slice none 0 0, .slice none 0 0, .int .i64 0, .int .i64 0, .int .i64 0, .int .i64 0, .int .i64 0, .slice none 0 0, .slice none 0 0, .slice none 0 0, .int .i64 0, .slice none 0 0, .slice none 0 0, .slice none 0 0, .slice ca cs.length cc, .slice da ds.length dc, .slice none 0 0, .slice none 0 0, .slice none 0 0] rfl rfl (there_row HR2.out) info_w (by simp [Value.oneCell']) ?_)
    have hF := turn_setCells w.heap.size [.bool false, .slice none 0 0, .slice none 0 0, .int .i64 0, .int .i64 0, .int .i64 0, .int .i64 0, .int .i64 0, .slice none 0 0, .slice none 0 0, .slice none 0 0, .int .i64 0, .slice none 0 0, .slice none 0 0, .slice none 0 0, .slice ca cs.length cc, .slice da ds.length dc, .slice none 0 0, .slice none 0 0, .slice none 0 0] 0 W2
    have hrg := World.rangeAt_setCells_same W2 w.heap.size 0 [.bool false, .slice none 0 0, .slice none 0 0, .int .i64 0, .int .i64 0, .int .i64 0, .int .i64 0, .int .i64 0, .slice none 0 0, .slice none 0 0, .slice none 0 0, .int .i64 0, .slice none 0 0, .slice none 0 0, .slice none 0 0, .slice ca cs.length cc, .slice da ds.length dc, .slice none 0 0, .slice none 0 0, .slice none 0 0] (there_row HR2.out)
    have hBF : Born w (W2.setCells w.heap.size 0 [.bool false, .slice none 0 0, .slice none 0 0, .int .i64 0, .int .i64 0, .int .i64 0, .int .i64 0, .int .i64 0, .slice none 0 0, .slice none 0 0, .slice none 0 0, .int .i64 0, .slice none 0 0, .slice none 0 0, .slice none 0 0, .slice ca cs.length cc, .slice da ds.length dc, .slice none 0 0, .slice none 0 0, .slice none 0 0]) (dsk ca cs da ds) := ⟨HO2.out.turn hF (fun b hb hx => (HN2.out b hb).2 (by simpa using hx)), fun b hb => (HN2.out b hb).1⟩
    have hKF := hF.keeps HK2.out (by simp)
    generalize W2.setCells w.heap.size 0 [.bool false, .slice none 0 0, .slice none 0 0, .int .i64 0, .int .i64 0, .int .i64 0, .int .i64 0, .int .i64 0, .slice none 0 0, .slice none 0 0, .slice none 0 0, .int .i64 0, .slice none 0 0, .slice none 0 0, .slice none 0 0, .slice ca cs.length cc, .slice da ds.length dc, .slice none 0 0, .slice none 0 0, .slice none 0 0] = WW at *
    have ql := run_loadVar_mid (P := Try.prog) WW w.heap.size 0 41 _ _ hrg hu hd info_w
    have qa : (asAddr (.pointer (some ⟨w.heap.size, 0, none⟩))).run Try.prog WW = .ok ⟨w.heap.size, 0, none⟩ WW := rfl
    refine bodyPost_ret (v := .tuple #[.agg #[.bool false, .slice none 0 0, .slice none 0 0, .int .i64 0, .int .i64 0, .int .i64 0, .int .i64 0, .int .i64 0, .slice none 0 0, .slice none 0 0, .slice none 0 0, .int .i64 0, .slice none 0 0, .slice none 0 0, .slice none 0 0, .slice ca cs.length cc, .slice da ds.length dc, .slice none 0 0, .slice none 0 0, .slice none 0 0], .bool true]) ?_ rfl ⟨_, by rw [HNB.out], ⟨ca, cc, cs, da, dc, ds, rfl, HE.out, HD.out, HA.out, HB.out, hBF⟩, hKF⟩
    clear hKF hBF hF hrg
    simp [results, Try.results4, qa, ql, Result.andThen]
set_option maxHeartbeats 8000000 in
theorem worldnew_impl (n : Int) (w : World) : Calls Try.prog 5 #[.int .i64 n] w fun e w' => ∃ v, e = .returned (.tuple #[v, .bool (newB n)]) ∧ WldRes w w' v (newM n) ∧ Keeps w w' := by
  have HK := hide (Keeps.alloc (Keeps.refl w) (.cells #[.bool false, .slice none 0 0, .slice none 0 0, .int .i64 0, .int .i64 0, .int .i64 0, .int .i64 0, .int .i64 0, .slice none 0 0, .slice none 0 0, .slice none 0 0, .int .i64 0, .slice none 0 0, .slice none 0 0, .slice none 0 0, .slice none 0 0, .slice none 0 0, .slice none 0 0, .slice none 0 0, .slice none 0 0] 41))
  have HR := hide (row_w w 41 (.bool false) (.slice none 0 0) (.slice none 0 0) (.int .i64 0) (.int .i64 0) (.int .i64 0) (.int .i64 0) (.int .i64 0) (.slice none 0 0) (.slice none 0 0) (.slice none 0 0) (.int .i64 0) (.slice none 0 0) (.slice none 0 0) (.slice none 0 0) (.slice none 0 0) (.slice none 0 0) (.slice none 0 0) (.slice none 0 0) (.slice none 0 0))
  have hsz : (w.alloc (.cells #[.bool false, .slice none 0 0, .slice none 0 0, .int .i64 0, .int .i64 0, .int .i64 0, .int .i64 0, .int .i64 0, .slice none 0 0, .slice none 0 0, .slice none 0 0, .int .i64 0, .slice none 0 0, .slice none 0 0, .slice none 0 0, .slice none 0 0, .slice none 0 0, .slice none 0 0, .slice none 0 0, .slice none 0 0] 41)).heap.size = w.heap.size + 1 := by simp
  obtain ⟨dd, hu, hd⟩ := under_w
  go_enter Try.func5, Try.ntmps5
  go_wp2_with fail
  generalize w.alloc (.cells #[.bool false, .slice none 0 0, .slice none 0 0, .int .i64 0, .int .i64 0, .int .i64 0, .int .i64 0, .int .i64 0, .slice none 0 0, .slice none 0 0, .slice none 0 0, .int .i64 0, .slice none 0 0, .slice none 0 0, .slice none 0 0, .slice none 0 0, .slice none 0 0, .slice none 0 0, .slice none 0 0, .slice none 0 0] 41) = W1 at *
  refine (disknew_impl n W1).mono ?_
  rintro x w1 ⟨v, rfl, hr, hk1⟩
  obtain ⟨ca, cc, cs, da, dc, ds, rfl, he, hdk, ha, hb, hbo⟩ := hr
  have hk2 := Keeps.alloc (Keeps.refl w1) (.cells #[.slice ca cs.length cc, .slice da ds.length dc] 25)
  have HE := hide he
  have HD := hide hdk
  have HA := hide ha
  have HB := hide hb
  have HK2 := hide (HK.out.trans (hk1.trans hk2))
  have HR2 := hide (Keeps.rowV (hk1.trans hk2) HR.out)
  have HO2 := hide (hbo.toOwn.kept hk2)
  have HN2 : Hid (∀ b ∈ fp (dsk ca cs da ds), w.heap.size ≤ b ∧ b ≠ w.heap.size) := fun b hb => by have := hbo.new b hb; omega
  have d0 : (w1.alloc (.cells #[.slice ca cs.length cc, .slice da ds.length dc] 25)).cell? ⟨w1.heap.size, 0, none⟩ = some (.slice ca cs.length cc) := by simp
  have d1 : (w1.alloc (.cells #[.slice ca cs.length cc, .slice da ds.length dc] 25)).cell? ⟨w1.heap.size, 1, none⟩ = some (.slice da ds.length dc) := by simp
  clear he hdk ha hb hbo hk1 hk2 HK HR hsz
  go_upto_region 2 with fail
  generalize w1.alloc (.cells #[.slice ca cs.length cc, .slice da ds.length dc] 25) = W2 at *
  cases hnb : newB n
  · have HNB := hide hnb
    clear hnb
    go_wp2_with (refine wpList_store_mid (P := Try.prog) rfl 41 (.tmp 2) (.tmp 12) rfl w.heap.size 0 #[.bool false, .slice none 0 0, .slice none 0 0, .int .i64 0, .int .i64 0, .int .i64 0, .int .i64 0, .int .i64 0, .slice none 0 0, .slice none 0 0, .slice none 0 0, .int .i64 0, .slice none 0 0, .slice none 0 0, .slice none 0 0, .slice ca cs.length cc, .slice da ds.length dc, .slice none 0 0, .slice none 0 0, .slice none 0 0] rfl rfl (there_row HR2.out) info_w (by simp [Value.oneCell']) ?_)
    have hF := turn_setCells w.heap.size [.bool false, .slice none 0 0, .slice none 0 0, .int .i64 0, .int .i64 0, .int .i64 0, .int .i64 0, .int .i64 0, .slice none 0 0, .slice none 0 0, .slice none 0 0, .int .i64 0, .slice none 0 0, .slice none 0 0, .slice none 0 0, .slice ca cs.length cc, .slice da ds.length dc, .slice none 0 0, .slice none 0 0, .slice none 0 0] 0 W2
    have hrg := World.rangeAt_setCells_same W2 w.heap.size 0 [.bool false, .slice none 0 0, .slice none 0 0, .int .i64 0, .int .i64 0, .int .i64 0, .int .i64 0, .int .i64 0, .slice none 0 0, .slice none 0 0, .slice none 0 0, .int .i64 0, .slice none 0 0, .slice none 0 0, .slice none 0 0, .slice ca cs.length cc, .slice da ds.length dc, .slice none 0 0, .slice none 0 0, .slice none 0 0] (there_row HR2.out)
    have hBF : Born w (W2.setCells w.heap.size 0 [.bool false, .slice none 0 0, .slice none 0 0, .int .i64 0, .int .i64 0, .int .i64 0, .int .i64 0, .int .i64 0, .slice none 0 0, .slice none 0 0, .slice none 0 0, .int .i64 0, .slice none 0 0, .slice none 0 0, .slice none 0 0, .slice ca cs.length cc, .slice da ds.length dc, .slice none 0 0, .slice none 0 0, .slice none 0 0]) (dsk ca cs da ds) := ⟨HO2.out.turn hF (fun b hb hx => (HN2.out b hb).2 (by simpa using hx)), fun b hb => (HN2.out b hb).1⟩
    have hKF := hF.keeps HK2.out (by simp)
    generalize W2.setCells w.heap.size 0 [.bool false, .slice none 0 0, .slice none 0 0, .int .i64 0, .int .i64 0, .int .i64 0, .int .i64 0, .int .i64 0, .slice none 0 0, .slice none 0 0, .slice none 0 0, .int .i64 0, .slice none 0 0, .slice none 0 0, .slice none 0 0, .slice ca cs.length cc, .slice da ds.length dc, .slice none 0 0, .slice none 0 0, .slice none 0 0] = WW at *
    have ql := run_loadVar_mid (P := Try.prog) WW w.heap.size 0 41 _ _ hrg hu hd info_w
    have qa : (asAddr (.pointer (some ⟨w.heap.size, 0, none⟩))).run Try.prog WW = .ok ⟨w.heap.size, 0, none⟩ WW := rfl
    refine bodyPost_ret (v := .tuple #[.agg #[.bool false, .slice none 0 0, .slice none 0 0, .int .i64 0, .int .i64 0, .int .i64 0, .int .i64 0, .int .i64 0, .slice none 0 0, .slice none 0 0, .slice none 0 0, .int .i64 0, .slice none 0 0, .slice none 0 0, .slice none 0 0, .slice ca cs.length cc, .slice da ds.length dc, .slice none 0 0, .slice none 0 0, .slice none 0 0], .bool false]) ?_ rfl ⟨_, by rw [HNB.out], ⟨ca, cc, cs, da, dc, ds, rfl, HE.out, HD.out, HA.out, HB.out, hBF⟩, hKF⟩
    clear hKF hBF hF hrg
    simp [results, Try.results5, qa, ql, Result.andThen]
  · have HNB := hide hnb
    clear hnb
    go_wp2_with (refine wpList_store_mid (P := Try.prog) rfl 41 (.tmp 2) (.tmp 12) rfl w.heap.size 0 #[.bool false, .slice none 0 0, .slice none 0 0, .int .i64 0, .int .i64 0, .int .i64 0, .int .i64 0, .int .i64 0, .slice none 0 0, .slice none 0 0, .slice none 0 0, .int .i64 0, .slice none 0 0, .slice none 0 0, .slice none 0 0, .slice ca cs.length cc, .slice da ds.length dc, .slice none 0 0, .slice none 0 0, .slice none 0 0] rfl rfl (there_row HR2.out) info_w (by simp [Value.oneCell']) ?_)
    have hF := turn_setCells w.heap.size [.bool false, .slice none 0 0, .slice none 0 0, .int .i64 0, .int .i64 0, .int .i64 0, .int .i64 0, .int .i64 0, .slice none 0 0, .slice none 0 0, .slice none 0 0, .int .i64 0, .slice none 0 0, .slice none 0 0, .slice none 0 0, .slice ca cs.length cc, .slice da ds.length dc, .slice none 0 0, .slice none 0 0, .slice none 0 0] 0 W2
    have hrg := World.rangeAt_setCells_same W2 w.heap.size 0 [.bool false, .slice none 0 0, .slice none 0 0, .int .i64 0, .int .i64 0, .int .i64 0, .int .i64 0, .int .i64 0, .slice none 0 0, .slice none 0 0, .slice none 0 0, .int .i64 0, .slice none 0 0, .slice none 0 0, .slice none 0 0, .slice ca cs.length cc, .slice da ds.length dc, .slice none 0 0, .slice none 0 0, .slice none 0 0] (there_row HR2.out)
    have hBF : Born w (W2.setCells w.heap.size 0 [.bool false, .slice none 0 0, .slice none 0 0, .int .i64 0, .int .i64 0, .int .i64 0, .int .i64 0, .int .i64 0, .slice none 0 0, .slice none 0 0, .slice none 0 0, .int .i64 0, .slice none 0 0, .slice none 0 0, .slice none 0 0, .slice ca cs.length cc, .slice da ds.length dc, .slice none 0 0, .slice none 0 0, .slice none 0 0]) (dsk ca cs da ds) := ⟨HO2.out.turn hF (fun b hb hx => (HN2.out b hb).2 (by simpa using hx)), fun b hb => (HN2.out b hb).1⟩
    have hKF := hF.keeps HK2.out (by simp)
    generalize W2.setCells w.heap.size 0 [.bool false, .slice none 0 0, .slice none 0 0, .int .i64 0, .int .i64 0, .int .i64 0, .int .i64 0, .int .i64 0, .slice none 0 0, .slice none 0 0, .slice none 0 0, .int .i64 0, .slice none 0 0, .slice none 0 0, .slice none 0 0, .slice ca cs.length cc, .slice da ds.length dc, .slice none 0 0, .slice none 0 0, .slice none 0 0] = WW at *
    have ql := run_loadVar_mid (P := Try.prog) WW w.heap.size 0 41 _ _ hrg hu hd info_w
    have qa : (asAddr (.pointer (some ⟨w.heap.size, 0, none⟩))).run Try.prog WW = .ok ⟨w.heap.size, 0, none⟩ WW := rfl
    refine bodyPost_ret (v := .tuple #[.agg #[.bool false, .slice none 0 0, .slice none 0 0, .int .i64 0, .int .i64 0, .int .i64 0, .int .i64 0, .int .i64 0, .slice none 0 0, .slice none 0 0, .slice none 0 0, .int .i64 0, .slice none 0 0, .slice none 0 0, .slice none 0 0, .slice ca cs.length cc, .slice da ds.length dc, .slice none 0 0, .slice none 0 0, .slice none 0 0], .bool true]) ?_ rfl ⟨_, by rw [HNB.out], ⟨ca, cc, cs, da, dc, ds, rfl, HE.out, HD.out, HA.out, HB.out, hBF⟩, hKF⟩
    clear hKF hBF hF hrg
    simp [results, Try.results5, qa, ql, Result.andThen]
theorem born_store (w : World) (zs vs : List Value) (t : TypeId) (hl : zs.length = vs.length) (hne : vs ≠ []) (ht : (w.alloc (.cells zs.toArray t)).there w.heap.size 0 vs.length) :
    Born w ((w.alloc (.cells zs.toArray t)).setCells w.heap.size 0 vs) [(some ⟨w.heap.size, 0, none⟩, vs)] ∧ Keeps w ((w.alloc (.cells zs.toArray t)).setCells w.heap.size 0 vs) := by
  have hT := turn_setCells w.heap.size vs 0 (w.alloc (.cells zs.toArray t))
  have hr := World.rangeAt_setCells_same (w.alloc (.cells zs.toArray t)) w.heap.size 0 vs ht
  have hf : ∀ x, ((w.alloc (.cells zs.toArray t)).setCells w.heap.size 0 vs).frozen? x = (w.alloc (.cells zs.toArray t)).frozen? x := fun x => World.frozen?_setCells _ _ _ _ x
  have hb := born_alloc w zs.toArray t
  have hfp : fp [((some ⟨w.heap.size, 0, none⟩ : Option Addr), vs)] = [w.heap.size] := by rw [fp_one, fpS_some hne]
  refine ⟨⟨⟨?_, ?_, ?_⟩, ?_⟩, hT.keeps (Keeps.alloc (Keeps.refl w) _) (by simp)⟩
  · intro s hs
    rw [List.mem_singleton.1 hs]
    refine Or.inr ⟨w.heap.size, 0, rfl, fun j hj => ?_⟩
    exact hr j _ (List.getElem?_eq_getElem hj)
  · rw [hfp]; simp
  · rw [hfp]; intro b hb1 o
    have e : b = w.heap.size := by simpa using hb1
    subst e
    rw [hf]
    have hz : zs ≠ [] := fun h => hne (List.length_eq_zero_iff.1 (by rw [← hl, h]; rfl))
    have hfp2 : fp [((some ⟨w.heap.size, 0, none⟩ : Option Addr), zs)] = [w.heap.size] := by rw [fp_one, fpS_some hz]
    have hfr := hb.toOwn.free w.heap.size (by simp [hfp2])
    exact hfr o
  · rw [hfp]; intro b hb1
    have e : b = w.heap.size := by simpa using hb1
    omega
end Go.Proofs.Ytkgpoghoilffhaa
