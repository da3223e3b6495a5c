/- Texts of the verifier, joined: ShelfF, SdI. -/
import Derived.Shelf.Strings.Cut
import Derived.Test.YtkgpoghoilffhaaGreatDoorProg
import Derived.Test.YtkgpoghoilffhaaGreatDoorSC12
import Derived.Test.YtkgpoghoilffhaaGreatDoorSC7
namespace Go.Proofs
open Go.Shelf
def Tryz.lays145_ren : Go.Shelf.Ren := ⟨fun | 145 => 43 | 220 => 72 | 219 => 87 | 217 => 93 | 225 => 94 | 224 => 95 | 267 => 96 | 266 => 106 | 314 => 107 | n => n, fun | 9 => 9 | 4 => 4 | 59 => 84 | 3 => 3 | 5 => 5 | 46 => 95 | 146 => 154 | 51 => 153 | n => n, fun | 1 => 1 | n => n⟩
theorem Tryz.lays145 : Go.Proofs.Lays.n145 Tryz.prog Tryz.lays145_ren := {
  mixed := by kernel_rfl
  f145 := Tryz.func43.trans (congrArg some (by kernel_rfl))
  f217 := Tryz.func93.trans (congrArg some (by kernel_rfl))
  f219 := Tryz.func87.trans (congrArg some (by kernel_rfl))
  f220 := Tryz.func72.trans (congrArg some (by kernel_rfl))
  f224 := Tryz.func95.trans (congrArg some (by kernel_rfl))
  f225 := Tryz.func94.trans (congrArg some (by kernel_rfl))
  f266 := Tryz.func106.trans (congrArg some (by kernel_rfl))
  f267 := Tryz.func96.trans (congrArg some (by kernel_rfl))
  f314 := Tryz.func107.trans (congrArg some (by kernel_rfl))
  t3 := Tryz.underlying3
  a3 := Tryz.isAgg3
  z3 := Tryz.sizeOf3
  v3 := Tryz.zeroValue3
  t4 := Tryz.underlying4
  a4 := Tryz.isAgg4
  z4 := Tryz.sizeOf4
  v4 := Tryz.zeroValue4
  t5 := Tryz.underlying5
  a5 := Tryz.isAgg5
  z5 := Tryz.sizeOf5
  v5 := Tryz.zeroValue5
  t9 := Tryz.underlying9
  a9 := Tryz.isAgg9
  z9 := Tryz.sizeOf9
  v9 := Tryz.zeroValue9
  t46 := Tryz.underlying95
  a46 := Tryz.isAgg95
  z46 := Tryz.sizeOf95
  v46 := Tryz.zeroValue95
  t51 := Tryz.underlying153
  a51 := Tryz.isAgg153
  z51 := Tryz.sizeOf153
  v51 := Tryz.zeroValue153
  t59 := Tryz.underlying84
  a59 := Tryz.isAgg84
  z59 := Tryz.sizeOf84
  v59 := Tryz.zeroValue84
  t146 := Tryz.underlying154
  a146 := Tryz.isAgg154
  z146 := Tryz.sizeOf154
  v146 := Tryz.zeroValue154
  g1 := by kernel_rfl }
open Go.RowKit Go.Lib in
theorem Tryz.strings_Cut (s sep : ByteArray) (m : Int) (w : World) (hs : s.size < 4294967281) (hm : w.cell? ⟨1, 0, none⟩ = some (.int .i64 m)) :
    Calls Tryz.prog 43 #[.string s, .string sep] w fun e w' => e = .returned (.tuple #[.string ⟨(Lib.cut s.data.toList sep.data.toList).1.toArray⟩, .string ⟨(Lib.cut s.data.toList sep.data.toList).2.1.toArray⟩, .bool (Lib.cut s.data.toList sep.data.toList).2.2]) ∧ ∃ n, w' = w.drewN n := Any.strings_Cut Tryz.lays145 s sep m w hs hm
end Go.Proofs
namespace Go.Proofs.YtkgpoghoilffhaaGreatDoor
open Go.RowKit Go.Deep
set_option linter.unusedVariables false
set_option linter.unusedSimpArgs false
set_option maxRecDepth 10000
theorem five_of {ns : List Int} (h : ns.length = 5) : ∃ a b c d e, ns = [a, b, c, d, e] := by
  match ns, h with
  | [a, b, c, d, e], _ => exact ⟨a, b, c, d, e, rfl⟩
theorem its_five {w : World} {x : Option Addr} {a b c d e : Int} (h : Cells w x (its [a, b, c, d, e])) : ∃ g off, x = some ⟨g, off, none⟩ ∧ w.cell? ⟨g, off, none⟩ = some (.int .i64 a) ∧ w.cell? ⟨g, off + 1, none⟩ = some (.int .i64 b) ∧ w.cell? ⟨g, off + 2, none⟩ = some (.int .i64 c) ∧ w.cell? ⟨g, off + 3, none⟩ = some (.int .i64 d) ∧ w.cell? ⟨g, off + 4, none⟩ = some (.int .i64 e) := by
  rcases h with h | ⟨g, off, e, h⟩
  · exact absurd h (by simp [its])
  · refine ⟨g, off, e, ?_, ?_, ?_, ?_, ?_⟩
    · simpa [its] using h 0 (by simp [its])
    · simpa [its] using h 1 (by simp [its])
    · simpa [its] using h 2 (by simp [its])
    · simpa [its] using h 3 (by simp [its])
    · simpa [its] using h 4 (by simp [its])
theorem owns_turnB {w W : World} {base B : Nat} {v : Value} {L : List Int} (ho : OwnsI w base v L) (ht : Turn [B] w W) (hb : B + 1 ≤ base) : OwnsI W base v L := by
  refine ⟨ho.1, ?_⟩
  rcases ho.2 with ho | ⟨g, c, cu, rfl, hg, hc, rest⟩
  · exact Or.inl ho
  · exact Or.inr ⟨g, c, cu, rfl, hg, by rw [ht.block g (Array.getElem?_eq_some_iff.1 hc).1 (by simp; omega)]; exact hc, rest⟩
theorem owns_cells {w : World} {base : Nat} {a : Option Addr} {c : Nat} {L : List Int} (h : OwnsI w base (.slice a L.length c) L) : Cells w a (its L) := by
  obtain ⟨a', cap, e1, _, _, _, e5, _⟩ := Own.of_owns h
  injection e1 with e1 _ _
  rw [e1]; exact e5.one
set_option maxHeartbeats 2000000 in
theorem rulesaid_k (s : ByteArray) (w : World) (hs : s.size ≤ 1048576) (he : Env w) :
    Calls Tryz.prog 47 #[.string s] w fun e w' => e = .returned (rulS (goodN (partsE 32 (s.data.toList ++ [32])))).v ∧ Keeps w w' := by
  have HK := hide (Keeps.alloc (Keeps.refl w) (.cells #[.int .i64 0, .int .i64 0, .int .i64 0, .int .i64 0, .int .i64 0] 31))
  have HR := hide (row_5 w 31 (.int .i64 0) (.int .i64 0) (.int .i64 0) (.int .i64 0) (.int .i64 0))
  have HQ := hide (fun w' (hk : Keeps w w') => rp_int s w' hs (he.kept hk))
  clear he hs
  go_enter Tryz.func47, Tryz.ntmps47
  go_wp2_with fail
  generalize w.alloc (.cells #[.int .i64 0, .int .i64 0, .int .i64 0, .int .i64 0, .int .i64 0] 31) = W1 at *
  refine (unhide HQ _ HK.out).mono ?_
  rintro x w1 ⟨v, k, rfl, ho, hk1⟩
  have HK1 := hide (HK.out.trans hk1)
  have HR1 := hide (Keeps.rowV hk1 HR.out)
  clear hk1 HK HR HQ
  obtain ⟨ns, hns⟩ : ∃ ns, goodN (partsE 32 (s.data.toList ++ [32])) = ns := ⟨_, rfl⟩
  rw [hns] at ho
  have HNS := hide hns
  clear hns
  obtain ⟨va, vc, rfl, _⟩ := owns_shape ho
  have HC := hide (owns_cells ho)
  clear ho
  have r0 := (HR1.out).cell (i := 0) (by decide)
  have r1 := (HR1.out).cell (i := 1) (by decide)
  have r2 := (HR1.out).cell (i := 2) (by decide)
  have r3 := (HR1.out).cell (i := 3) (by decide)
  have r4 := (HR1.out).cell (i := 4) (by decide)
  have rf0 := (HR1.out).frozen 0
  have rf1 := (HR1.out).frozen 1
  have rf2 := (HR1.out).frozen 2
  have rf3 := (HR1.out).frozen 3
  have rf4 := (HR1.out).frozen 4
  have rl := (HR1.out).lt
  simp at r0 r1 r2 r3 r4
  by_cases h5 : ns.length = 5
  · obtain ⟨n0, n1, n2, n3, n4, rfl⟩ := five_of h5
    obtain ⟨g, off, rfl, e0, e1, e2, e3, e4⟩ := its_five HC.out
    clear h5
    simp only [List.length_cons, List.length_nil] at *
    go_wp2_with fail
    go_region
    go_wp2_with fail
    obtain ⟨⟨o0, o1, o2, o3, o4⟩, hkF, htF, _⟩ := set_5 (HR1.out) (HK1.out) (Nat.le_refl _) (.int .i64 n0) (.int .i64 n1) (.int .i64 n2) (.int .i64 n3) (.int .i64 n4)
    refine bodyPost_ret (v := .agg #[.int .i64 n0, .int .i64 n1, .int .i64 n2, .int .i64 n3, .int .i64 n4]) ?_ rfl ⟨by rw [HNS.out]; rfl, hkF.drew⟩
    clear hkF htF r0 r1 r2 r3 r4 rf0 rf1 rf2 rf3 rf4 rl
    revert o0 o1 o2 o3 o4
    generalize World.setCell (World.setCell _ _ _) _ _ = WW
    intro o0 o1 o2 o3 o4
    simp [results, Tryz.results47, go_sem, o0, o1, o2, o3, o4]
  · have hne : ((ns.length : Int) != 5) = true := by simp; omega
    have HN : Hid (rulS ns = noR) := by show _ = _; unfold rulS; rw [if_neg h5]
    clear h5
    go_wp2_with fail
    obtain ⟨⟨o0, o1, o2, o3, o4⟩, hkF, htF, _⟩ := set_5 (HR1.out) (HK1.out) (Nat.le_refl _) (.int .i64 0) (.int .i64 0) (.int .i64 0) (.int .i64 0) (.int .i64 0)
    refine bodyPost_ret (v := .agg #[.int .i64 0, .int .i64 0, .int .i64 0, .int .i64 0, .int .i64 0]) ?_ rfl ⟨by rw [HNS.out, HN.out]; rfl, hkF⟩
    clear hkF htF r0 r1 r2 r3 r4 rf0 rf1 rf2 rf3 rf4 rl
    revert o0 o1 o2 o3 o4
    generalize World.setCell (World.setCell _ _ _) _ _ = WW
    intro o0 o1 o2 o3 o4
    simp [results, Tryz.results47, go_sem, o0, o1, o2, o3, o4]
set_option maxHeartbeats 4000000 in
theorem stepsaid_k (s : ByteArray) (w : World) (hs : s.size ≤ 1048576) (he : Env w) (mx : Int) (hm : w.cell? ⟨1, 0, none⟩ = some (.int .i64 mx)) :
    Calls Tryz.prog 25 #[.string s] w fun e w' => (∃ a c, e = .returned ((saidI s.data.toList).v a c) ∧ OwnsI w' w.heap.size (.slice a (saidI s.data.toList).ks.length c) (saidI s.data.toList).ks) ∧ Keeps w w' := by
  have HK := hide (Keeps.alloc (Keeps.refl w) (.cells #[.int .i64 0, .int .i64 0, .int .i64 0, .int .i64 0, .int .i64 0, .int .i64 0, .int .i64 0, .bool false, .slice none 0 0, .int .i64 0, .int .i64 0, .int .i64 0, .int .i64 0, .int .i64 0] 33))
  have HR := hide (row_14 w 33 (.int .i64 0) (.int .i64 0) (.int .i64 0) (.int .i64 0) (.int .i64 0) (.int .i64 0) (.int .i64 0) (.bool false) (.slice none 0 0) (.int .i64 0) (.int .i64 0) (.int .i64 0) (.int .i64 0) (.int .i64 0))
  have HQ := hide (fun w' (hk : Keeps w w') => Tryz.strings_Cut s ⟨#[32]⟩ mx w' (by omega) (hk.cell hm))
  have HE := hide he
  have HM := hide hm
  have hcl : (Lib.cut s.data.toList [32]).2.1.length ≤ 1048576 := by
    have : s.data.toList.length = s.size := by simp
    unfold Lib.cut
    split
    · simp; omega
    · simp
  have HCL := hide hcl
  have HB : Hid (w.heap.size ≤ w.heap.size) := Nat.le_refl _
  clear he hm hcl
  go_enter Tryz.func25, Tryz.ntmps25
  go_wp2_with fail
  have hsz : (w.alloc (.cells #[.int .i64 0, .int .i64 0, .int .i64 0, .int .i64 0, .int .i64 0, .int .i64 0, .int .i64 0, .bool false, .slice none 0 0, .int .i64 0, .int .i64 0, .int .i64 0, .int .i64 0, .int .i64 0] 33)).heap.size = w.heap.size + 1 := by simp
  generalize w.alloc (.cells #[.int .i64 0, .int .i64 0, .int .i64 0, .int .i64 0, .int .i64 0, .int .i64 0, .int .i64 0, .bool false, .slice none 0 0, .int .i64 0, .int .i64 0, .int .i64 0, .int .i64 0, .int .i64 0] 33) = W1 at *
  refine (unhide HQ _ HK.out).mono ?_
  rintro x w1 ⟨rfl, hw1⟩
  have hk1 : Keeps W1 w1 := by obtain ⟨nq, rfl⟩ := hw1; exact (Keeps.refl W1).drewN nq
  obtain ⟨hd, hhd⟩ : ∃ hd : ByteArray, hd = ⟨(Lib.cut s.data.toList [32]).1.toArray⟩ := ⟨_, rfl⟩
  obtain ⟨rs, hrs⟩ : ∃ rs : ByteArray, rs = ⟨(Lib.cut s.data.toList [32]).2.1.toArray⟩ := ⟨_, rfl⟩
  have HSD : Hid (saidI s.data.toList = saidS hd.data.toList (evS rs.data.toList) (goodN (partsE 32 (rs.data.toList ++ [32])))) := by show _ = _; rw [hhd, hrs]; rfl
  have hrz : rs.size ≤ 1048576 := by
    rw [hrs]
    show (Lib.cut s.data.toList [32]).2.1.toArray.size ≤ _
    simpa using HCL.out
  rw [← hhd, ← hrs]
  generalize (Lib.cut s.data.toList [32]).2.2 = found at *
  have HK1 := hide (HK.out.trans hk1)
  have HR1 := hide (Keeps.rowV hk1 HR.out)
  have HZ1 : Hid (w.heap.size + 1 ≤ w1.heap.size) := by have := hk1.size; show _ ≤ _; omega
  have HE1 := hide (HE.out.kept HK1.out)
  have HM1 := hide (HK1.out.cell HM.out)
  clear hw1 hk1 hhd hrs HK HR HQ HE HM HCL hsz
  cases h1 : (hd.toList == [116, 97, 107, 101])
  rotate_left
  · have hl : hd.data.toList = wTake := list_yes h1
    have HX : Hid (saidI s.data.toList = ⟨1, evS rs.data.toList, [], noR⟩) := by
      show _ = _
      rw [HSD.out]
      unfold saidS
      rw [ if_pos hl]
    clear hl HSD
    skip
    · have HQ := hide (te_impl rs w1 hrz HE1.out mx HM1.out)
      go_wp2_with fail
      refine (unhide HQ).mono ?_
      rintro x w2 ⟨hte, hk2⟩
      obtain ⟨ok, rfl⟩ := te_evS hte
      obtain ⟨E, hE⟩ : ∃ E, evS rs.data.toList = E := ⟨_, rfl⟩
      rw [hE] at HX ⊢
      have HK2 := hide (HK1.out.trans hk2)
      have HR2 := hide (Keeps.rowV hk2 HR1.out)
      clear hte hE hk2 HQ HK1 HR1 HZ1
      have hk3 := Keeps.alloc (Keeps.refl w2) (.cells #[.int .i64 E.k, .int .i64 E.y, .int .i64 E.c, .int .i64 E.t, .int .i64 E.m, .int .i64 E.f, .bool E.b] 28)
      have HK3 := hide (HK2.out.trans hk3)
      have HR3 := hide (Keeps.rowV hk3 HR2.out)
      clear hk3 HK2 HR2
      have r0 := (HR3.out).cell (i := 0) (by decide)
      have r1 := (HR3.out).cell (i := 1) (by decide)
      have r2 := (HR3.out).cell (i := 2) (by decide)
      have r3 := (HR3.out).cell (i := 3) (by decide)
      have r4 := (HR3.out).cell (i := 4) (by decide)
      have r5 := (HR3.out).cell (i := 5) (by decide)
      have r6 := (HR3.out).cell (i := 6) (by decide)
      have r7 := (HR3.out).cell (i := 7) (by decide)
      have r8 := (HR3.out).cell (i := 8) (by decide)
      have r9 := (HR3.out).cell (i := 9) (by decide)
      have r10 := (HR3.out).cell (i := 10) (by decide)
      have r11 := (HR3.out).cell (i := 11) (by decide)
      have r12 := (HR3.out).cell (i := 12) (by decide)
      have r13 := (HR3.out).cell (i := 13) (by decide)
      have rf0 := (HR3.out).frozen 0
      have rf1 := (HR3.out).frozen 1
      have rf2 := (HR3.out).frozen 2
      have rf3 := (HR3.out).frozen 3
      have rf4 := (HR3.out).frozen 4
      have rf5 := (HR3.out).frozen 5
      have rf6 := (HR3.out).frozen 6
      have rf7 := (HR3.out).frozen 7
      have rf8 := (HR3.out).frozen 8
      have rf9 := (HR3.out).frozen 9
      have rf10 := (HR3.out).frozen 10
      have rf11 := (HR3.out).frozen 11
      have rf12 := (HR3.out).frozen 12
      have rf13 := (HR3.out).frozen 13
      have rl := (HR3.out).lt
      simp at r0 r1 r2 r3 r4 r5 r6 r7 r8 r9 r10 r11 r12 r13
      go_wp2_with fail
      obtain ⟨⟨o0, o1, o2, o3, o4, o5, o6, o7, o8, o9, o10, o11, o12, o13⟩, hkF, htF, _⟩ := set_14 (HR3.out) (HK3.out) (HB.out) (.int .i64 1) (.int .i64 E.k) (.int .i64 E.y) (.int .i64 E.c) (.int .i64 E.t) (.int .i64 E.m) (.int .i64 E.f) (.bool E.b) (.slice none 0 0) (.int .i64 0) (.int .i64 0) (.int .i64 0) (.int .i64 0) (.int .i64 0)
      refine bodyPost_ret (v := .agg #[.int .i64 1, .int .i64 E.k, .int .i64 E.y, .int .i64 E.c, .int .i64 E.t, .int .i64 E.m, .int .i64 E.f, .bool E.b, .slice none 0 0, .int .i64 0, .int .i64 0, .int .i64 0, .int .i64 0, .int .i64 0]) ?_ rfl ⟨⟨none, 0, by rw [HX.out]; rfl, by rw [HX.out]; exact owns_zero _ _⟩, hkF⟩
      clear hkF htF r0 r1 r2 r3 r4 r5 r6 r7 r8 r9 r10 r11 r12 r13 rf0 rf1 rf2 rf3 rf4 rf5 rf6 rf7 rf8 rf9 rf10 rf11 rf12 rf13 rl
      revert o0 o1 o2 o3 o4 o5 o6 o7 o8 o9 o10 o11 o12 o13
      generalize World.setCell (World.setCell _ _ _) _ _ = WW
      intro o0 o1 o2 o3 o4 o5 o6 o7 o8 o9 o10 o11 o12 o13
      simp [results, Tryz.results25, go_sem, o0, o1, o2, o3, o4, o5, o6, o7, o8, o9, o10, o11, o12, o13]
  have H1 : Hid (¬ hd.data.toList = wTake) := list_no h1
  cases h2 : (hd.toList == [115, 121, 110, 99])
  rotate_left
  · have hl : hd.data.toList = wSync := list_yes h2
    have HX : Hid (saidI s.data.toList = ⟨2, noE, [], noR⟩) := by
      show _ = _
      rw [HSD.out]
      unfold saidS
      rw [if_neg H1.out, if_pos hl]
    clear hl HSD
    skip
    · have r0 := (HR1.out).cell (i := 0) (by decide)
      have r1 := (HR1.out).cell (i := 1) (by decide)
      have r2 := (HR1.out).cell (i := 2) (by decide)
      have r3 := (HR1.out).cell (i := 3) (by decide)
      have r4 := (HR1.out).cell (i := 4) (by decide)
      have r5 := (HR1.out).cell (i := 5) (by decide)
      have r6 := (HR1.out).cell (i := 6) (by decide)
      have r7 := (HR1.out).cell (i := 7) (by decide)
      have r8 := (HR1.out).cell (i := 8) (by decide)
      have r9 := (HR1.out).cell (i := 9) (by decide)
      have r10 := (HR1.out).cell (i := 10) (by decide)
      have r11 := (HR1.out).cell (i := 11) (by decide)
      have r12 := (HR1.out).cell (i := 12) (by decide)
      have r13 := (HR1.out).cell (i := 13) (by decide)
      have rf0 := (HR1.out).frozen 0
      have rf1 := (HR1.out).frozen 1
      have rf2 := (HR1.out).frozen 2
      have rf3 := (HR1.out).frozen 3
      have rf4 := (HR1.out).frozen 4
      have rf5 := (HR1.out).frozen 5
      have rf6 := (HR1.out).frozen 6
      have rf7 := (HR1.out).frozen 7
      have rf8 := (HR1.out).frozen 8
      have rf9 := (HR1.out).frozen 9
      have rf10 := (HR1.out).frozen 10
      have rf11 := (HR1.out).frozen 11
      have rf12 := (HR1.out).frozen 12
      have rf13 := (HR1.out).frozen 13
      have rl := (HR1.out).lt
      simp at r0 r1 r2 r3 r4 r5 r6 r7 r8 r9 r10 r11 r12 r13
      go_wp2_with fail
      obtain ⟨⟨o0, o1, o2, o3, o4, o5, o6, o7, o8, o9, o10, o11, o12, o13⟩, hkF, htF, _⟩ := set_14 (HR1.out) (HK1.out) (HB.out) (.int .i64 2) (.int .i64 0) (.int .i64 0) (.int .i64 0) (.int .i64 0) (.int .i64 0) (.int .i64 0) (.bool false) (.slice none 0 0) (.int .i64 0) (.int .i64 0) (.int .i64 0) (.int .i64 0) (.int .i64 0)
      refine bodyPost_ret (v := .agg #[.int .i64 2, .int .i64 0, .int .i64 0, .int .i64 0, .int .i64 0, .int .i64 0, .int .i64 0, .bool false, .slice none 0 0, .int .i64 0, .int .i64 0, .int .i64 0, .int .i64 0, .int .i64 0]) ?_ rfl ⟨⟨none, 0, by rw [HX.out]; rfl, by rw [HX.out]; exact owns_zero _ _⟩, hkF⟩
      clear hkF htF r0 r1 r2 r3 r4 r5 r6 r7 r8 r9 r10 r11 r12 r13 rf0 rf1 rf2 rf3 rf4 rf5 rf6 rf7 rf8 rf9 rf10 rf11 rf12 rf13 rl
      revert o0 o1 o2 o3 o4 o5 o6 o7 o8 o9 o10 o11 o12 o13
      generalize World.setCell (World.setCell _ _ _) _ _ = WW
      intro o0 o1 o2 o3 o4 o5 o6 o7 o8 o9 o10 o11 o12 o13
      simp [results, Tryz.results25, go_sem, o0, o1, o2, o3, o4, o5, o6, o7, o8, o9, o10, o11, o12, o13]
  have H2 : Hid (¬ hd.data.toList = wSync) := list_no h2
  cases h3 : (hd.toList == [99, 114, 97, 115, 104])
  rotate_left
  · have hl : hd.data.toList = wCrash := list_yes h3
    have HX : Hid (saidI s.data.toList = ⟨3, noE, goodN (partsE 32 (rs.data.toList ++ [32])), noR⟩) := by
      show _ = _
      rw [HSD.out]
      unfold saidS
      rw [if_neg H1.out, if_neg H2.out, if_pos hl]
    clear hl HSD
    skip
    · have HQ := hide (rp_int rs w1 hrz HE1.out)
      go_wp2_with fail
      refine (unhide HQ).mono ?_
      rintro x w2 ⟨v, k, rfl, ho, hk2⟩
      obtain ⟨ns, hns⟩ : ∃ ns, goodN (partsE 32 (rs.data.toList ++ [32])) = ns := ⟨_, rfl⟩
      rw [hns] at HX ho
      obtain ⟨va, vc, rfl, _⟩ := owns_shape ho
      have HO := hide ho
      have HK2 := hide (HK1.out.trans hk2)
      have HR2 := hide (Keeps.rowV hk2 HR1.out)
      clear ho hns hk2 HQ HK1 HR1
      have r0 := (HR2.out).cell (i := 0) (by decide)
      have r1 := (HR2.out).cell (i := 1) (by decide)
      have r2 := (HR2.out).cell (i := 2) (by decide)
      have r3 := (HR2.out).cell (i := 3) (by decide)
      have r4 := (HR2.out).cell (i := 4) (by decide)
      have r5 := (HR2.out).cell (i := 5) (by decide)
      have r6 := (HR2.out).cell (i := 6) (by decide)
      have r7 := (HR2.out).cell (i := 7) (by decide)
      have r8 := (HR2.out).cell (i := 8) (by decide)
      have r9 := (HR2.out).cell (i := 9) (by decide)
      have r10 := (HR2.out).cell (i := 10) (by decide)
      have r11 := (HR2.out).cell (i := 11) (by decide)
      have r12 := (HR2.out).cell (i := 12) (by decide)
      have r13 := (HR2.out).cell (i := 13) (by decide)
      have rf0 := (HR2.out).frozen 0
      have rf1 := (HR2.out).frozen 1
      have rf2 := (HR2.out).frozen 2
      have rf3 := (HR2.out).frozen 3
      have rf4 := (HR2.out).frozen 4
      have rf5 := (HR2.out).frozen 5
      have rf6 := (HR2.out).frozen 6
      have rf7 := (HR2.out).frozen 7
      have rf8 := (HR2.out).frozen 8
      have rf9 := (HR2.out).frozen 9
      have rf10 := (HR2.out).frozen 10
      have rf11 := (HR2.out).frozen 11
      have rf12 := (HR2.out).frozen 12
      have rf13 := (HR2.out).frozen 13
      have rl := (HR2.out).lt
      simp at r0 r1 r2 r3 r4 r5 r6 r7 r8 r9 r10 r11 r12 r13
      go_wp2_with fail
      obtain ⟨⟨o0, o1, o2, o3, o4, o5, o6, o7, o8, o9, o10, o11, o12, o13⟩, hkF, htF, _⟩ := set_14 (HR2.out) (HK2.out) (HB.out) (.int .i64 3) (.int .i64 0) (.int .i64 0) (.int .i64 0) (.int .i64 0) (.int .i64 0) (.int .i64 0) (.bool false) (.slice va ns.length vc) (.int .i64 0) (.int .i64 0) (.int .i64 0) (.int .i64 0) (.int .i64 0)
      have hOF := owns_turnB HO.out htF HZ1.out
      refine bodyPost_ret (v := .agg #[.int .i64 3, .int .i64 0, .int .i64 0, .int .i64 0, .int .i64 0, .int .i64 0, .int .i64 0, .bool false, .slice va ns.length vc, .int .i64 0, .int .i64 0, .int .i64 0, .int .i64 0, .int .i64 0]) ?_ rfl ⟨⟨va, vc, by rw [HX.out]; rfl, by rw [HX.out]; exact owns_base hOF (by have := HZ1.out; omega)⟩, hkF⟩
      clear hkF htF r0 r1 r2 r3 r4 r5 r6 r7 r8 r9 r10 r11 r12 r13 rf0 rf1 rf2 rf3 rf4 rf5 rf6 rf7 rf8 rf9 rf10 rf11 rf12 rf13 rl
      revert o0 o1 o2 o3 o4 o5 o6 o7 o8 o9 o10 o11 o12 o13
      generalize World.setCell (World.setCell _ _ _) _ _ = WW
      intro o0 o1 o2 o3 o4 o5 o6 o7 o8 o9 o10 o11 o12 o13
      simp [results, Tryz.results25, go_sem, o0, o1, o2, o3, o4, o5, o6, o7, o8, o9, o10, o11, o12, o13]
  have H3 : Hid (¬ hd.data.toList = wCrash) := list_no h3
  cases h4 : (hd.toList == [115, 116, 97, 114, 116])
  rotate_left
  · have hl : hd.data.toList = wStart := list_yes h4
    have HX : Hid (saidI s.data.toList = ⟨4, noE, [], noR⟩) := by
      show _ = _
      rw [HSD.out]
      unfold saidS
      rw [if_neg H1.out, if_neg H2.out, if_neg H3.out, if_pos hl]
    clear hl HSD
    skip
    · have r0 := (HR1.out).cell (i := 0) (by decide)
      have r1 := (HR1.out).cell (i := 1) (by decide)
      have r2 := (HR1.out).cell (i := 2) (by decide)
      have r3 := (HR1.out).cell (i := 3) (by decide)
      have r4 := (HR1.out).cell (i := 4) (by decide)
      have r5 := (HR1.out).cell (i := 5) (by decide)
      have r6 := (HR1.out).cell (i := 6) (by decide)
      have r7 := (HR1.out).cell (i := 7) (by decide)
      have r8 := (HR1.out).cell (i := 8) (by decide)
      have r9 := (HR1.out).cell (i := 9) (by decide)
      have r10 := (HR1.out).cell (i := 10) (by decide)
      have r11 := (HR1.out).cell (i := 11) (by decide)
      have r12 := (HR1.out).cell (i := 12) (by decide)
      have r13 := (HR1.out).cell (i := 13) (by decide)
      have rf0 := (HR1.out).frozen 0
      have rf1 := (HR1.out).frozen 1
      have rf2 := (HR1.out).frozen 2
      have rf3 := (HR1.out).frozen 3
      have rf4 := (HR1.out).frozen 4
      have rf5 := (HR1.out).frozen 5
      have rf6 := (HR1.out).frozen 6
      have rf7 := (HR1.out).frozen 7
      have rf8 := (HR1.out).frozen 8
      have rf9 := (HR1.out).frozen 9
      have rf10 := (HR1.out).frozen 10
      have rf11 := (HR1.out).frozen 11
      have rf12 := (HR1.out).frozen 12
      have rf13 := (HR1.out).frozen 13
      have rl := (HR1.out).lt
      simp at r0 r1 r2 r3 r4 r5 r6 r7 r8 r9 r10 r11 r12 r13
      go_wp2_with fail
      obtain ⟨⟨o0, o1, o2, o3, o4, o5, o6, o7, o8, o9, o10, o11, o12, o13⟩, hkF, htF, _⟩ := set_14 (HR1.out) (HK1.out) (HB.out) (.int .i64 4) (.int .i64 0) (.int .i64 0) (.int .i64 0) (.int .i64 0) (.int .i64 0) (.int .i64 0) (.bool false) (.slice none 0 0) (.int .i64 0) (.int .i64 0) (.int .i64 0) (.int .i64 0) (.int .i64 0)
      refine bodyPost_ret (v := .agg #[.int .i64 4, .int .i64 0, .int .i64 0, .int .i64 0, .int .i64 0, .int .i64 0, .int .i64 0, .bool false, .slice none 0 0, .int .i64 0, .int .i64 0, .int .i64 0, .int .i64 0, .int .i64 0]) ?_ rfl ⟨⟨none, 0, by rw [HX.out]; rfl, by rw [HX.out]; exact owns_zero _ _⟩, hkF⟩
      clear hkF htF r0 r1 r2 r3 r4 r5 r6 r7 r8 r9 r10 r11 r12 r13 rf0 rf1 rf2 rf3 rf4 rf5 rf6 rf7 rf8 rf9 rf10 rf11 rf12 rf13 rl
      revert o0 o1 o2 o3 o4 o5 o6 o7 o8 o9 o10 o11 o12 o13
      generalize World.setCell (World.setCell _ _ _) _ _ = WW
      intro o0 o1 o2 o3 o4 o5 o6 o7 o8 o9 o10 o11 o12 o13
      simp [results, Tryz.results25, go_sem, o0, o1, o2, o3, o4, o5, o6, o7, o8, o9, o10, o11, o12, o13]
  have H4 : Hid (¬ hd.data.toList = wStart) := list_no h4
  cases h5 : (hd.toList == [116, 117, 114, 110])
  rotate_left
  · have hl : hd.data.toList = wTurn := list_yes h5
    have HX : Hid (saidI s.data.toList = ⟨5, noE, [], rulS (goodN (partsE 32 (rs.data.toList ++ [32])))⟩) := by
      show _ = _
      rw [HSD.out]
      unfold saidS
      rw [if_neg H1.out, if_neg H2.out, if_neg H3.out, if_neg H4.out, if_pos hl]
    clear hl HSD
    skip
    · have HQ := hide (rulesaid_k rs w1 hrz HE1.out)
      go_wp2_with fail
      refine (unhide HQ).mono ?_
      rintro x w2 ⟨rfl, hk2⟩
      obtain ⟨r, hr⟩ : ∃ r, rulS (goodN (partsE 32 (rs.data.toList ++ [32]))) = r := ⟨_, rfl⟩
      rw [hr] at HX ⊢
      have HK2 := hide (HK1.out.trans hk2)
      have HR2 := hide (Keeps.rowV hk2 HR1.out)
      clear hr hk2 HQ HK1 HR1
      dsimp only [Rul.v]
      have r0 := (HR2.out).cell (i := 0) (by decide)
      have r1 := (HR2.out).cell (i := 1) (by decide)
      have r2 := (HR2.out).cell (i := 2) (by decide)
      have r3 := (HR2.out).cell (i := 3) (by decide)
      have r4 := (HR2.out).cell (i := 4) (by decide)
      have r5 := (HR2.out).cell (i := 5) (by decide)
      have r6 := (HR2.out).cell (i := 6) (by decide)
      have r7 := (HR2.out).cell (i := 7) (by decide)
      have r8 := (HR2.out).cell (i := 8) (by decide)
      have r9 := (HR2.out).cell (i := 9) (by decide)
      have r10 := (HR2.out).cell (i := 10) (by decide)
      have r11 := (HR2.out).cell (i := 11) (by decide)
      have r12 := (HR2.out).cell (i := 12) (by decide)
      have r13 := (HR2.out).cell (i := 13) (by decide)
      have rf0 := (HR2.out).frozen 0
      have rf1 := (HR2.out).frozen 1
      have rf2 := (HR2.out).frozen 2
      have rf3 := (HR2.out).frozen 3
      have rf4 := (HR2.out).frozen 4
      have rf5 := (HR2.out).frozen 5
      have rf6 := (HR2.out).frozen 6
      have rf7 := (HR2.out).frozen 7
      have rf8 := (HR2.out).frozen 8
      have rf9 := (HR2.out).frozen 9
      have rf10 := (HR2.out).frozen 10
      have rf11 := (HR2.out).frozen 11
      have rf12 := (HR2.out).frozen 12
      have rf13 := (HR2.out).frozen 13
      have rl := (HR2.out).lt
      simp at r0 r1 r2 r3 r4 r5 r6 r7 r8 r9 r10 r11 r12 r13
      go_wp2_with fail
      obtain ⟨⟨o0, o1, o2, o3, o4, o5, o6, o7, o8, o9, o10, o11, o12, o13⟩, hkF, htF, _⟩ := set_14 (HR2.out) (HK2.out) (HB.out) (.int .i64 5) (.int .i64 0) (.int .i64 0) (.int .i64 0) (.int .i64 0) (.int .i64 0) (.int .i64 0) (.bool false) (.slice none 0 0) (.int .i64 r.lo) (.int .i64 r.hi) (.int .i64 r.st) (.int .i64 r.mi) (.int .i64 r.ma)
      refine bodyPost_ret (v := .agg #[.int .i64 5, .int .i64 0, .int .i64 0, .int .i64 0, .int .i64 0, .int .i64 0, .int .i64 0, .bool false, .slice none 0 0, .int .i64 r.lo, .int .i64 r.hi, .int .i64 r.st, .int .i64 r.mi, .int .i64 r.ma]) ?_ rfl ⟨⟨none, 0, by rw [HX.out]; rfl, by rw [HX.out]; exact owns_zero _ _⟩, hkF⟩
      clear hkF htF r0 r1 r2 r3 r4 r5 r6 r7 r8 r9 r10 r11 r12 r13 rf0 rf1 rf2 rf3 rf4 rf5 rf6 rf7 rf8 rf9 rf10 rf11 rf12 rf13 rl
      revert o0 o1 o2 o3 o4 o5 o6 o7 o8 o9 o10 o11 o12 o13
      generalize World.setCell (World.setCell _ _ _) _ _ = WW
      intro o0 o1 o2 o3 o4 o5 o6 o7 o8 o9 o10 o11 o12 o13
      simp [results, Tryz.results25, go_sem, o0, o1, o2, o3, o4, o5, o6, o7, o8, o9, o10, o11, o12, o13]
  have H5 : Hid (¬ hd.data.toList = wTurn) := list_no h5
  have HX : Hid (saidI s.data.toList = ⟨0, noE, [], noR⟩) := by
      show _ = _
      rw [HSD.out]
      unfold saidS
      rw [if_neg H1.out, if_neg H2.out, if_neg H3.out, if_neg H4.out, if_neg H5.out]
  clear HSD
  skip
  · skip
    · have r0 := (HR1.out).cell (i := 0) (by decide)
      have r1 := (HR1.out).cell (i := 1) (by decide)
      have r2 := (HR1.out).cell (i := 2) (by decide)
      have r3 := (HR1.out).cell (i := 3) (by decide)
      have r4 := (HR1.out).cell (i := 4) (by decide)
      have r5 := (HR1.out).cell (i := 5) (by decide)
      have r6 := (HR1.out).cell (i := 6) (by decide)
      have r7 := (HR1.out).cell (i := 7) (by decide)
      have r8 := (HR1.out).cell (i := 8) (by decide)
      have r9 := (HR1.out).cell (i := 9) (by decide)
      have r10 := (HR1.out).cell (i := 10) (by decide)
      have r11 := (HR1.out).cell (i := 11) (by decide)
      have r12 := (HR1.out).cell (i := 12) (by decide)
      have r13 := (HR1.out).cell (i := 13) (by decide)
      have rf0 := (HR1.out).frozen 0
      have rf1 := (HR1.out).frozen 1
      have rf2 := (HR1.out).frozen 2
      have rf3 := (HR1.out).frozen 3
      have rf4 := (HR1.out).frozen 4
      have rf5 := (HR1.out).frozen 5
      have rf6 := (HR1.out).frozen 6
      have rf7 := (HR1.out).frozen 7
      have rf8 := (HR1.out).frozen 8
      have rf9 := (HR1.out).frozen 9
      have rf10 := (HR1.out).frozen 10
      have rf11 := (HR1.out).frozen 11
      have rf12 := (HR1.out).frozen 12
      have rf13 := (HR1.out).frozen 13
      have rl := (HR1.out).lt
      simp at r0 r1 r2 r3 r4 r5 r6 r7 r8 r9 r10 r11 r12 r13
      go_wp2_with fail
      obtain ⟨⟨o0, o1, o2, o3, o4, o5, o6, o7, o8, o9, o10, o11, o12, o13⟩, hkF, htF, _⟩ := set_14 (HR1.out) (HK1.out) (HB.out) (.int .i64 0) (.int .i64 0) (.int .i64 0) (.int .i64 0) (.int .i64 0) (.int .i64 0) (.int .i64 0) (.bool false) (.slice none 0 0) (.int .i64 0) (.int .i64 0) (.int .i64 0) (.int .i64 0) (.int .i64 0)
      refine bodyPost_ret (v := .agg #[.int .i64 0, .int .i64 0, .int .i64 0, .int .i64 0, .int .i64 0, .int .i64 0, .int .i64 0, .bool false, .slice none 0 0, .int .i64 0, .int .i64 0, .int .i64 0, .int .i64 0, .int .i64 0]) ?_ rfl ⟨⟨none, 0, by rw [HX.out]; rfl, by rw [HX.out]; exact owns_zero _ _⟩, hkF⟩
      clear hkF htF r0 r1 r2 r3 r4 r5 r6 r7 r8 r9 r10 r11 r12 r13 rf0 rf1 rf2 rf3 rf4 rf5 rf6 rf7 rf8 rf9 rf10 rf11 rf12 rf13 rl
      revert o0 o1 o2 o3 o4 o5 o6 o7 o8 o9 o10 o11 o12 o13
      generalize World.setCell (World.setCell _ _ _) _ _ = WW
      intro o0 o1 o2 o3 o4 o5 o6 o7 o8 o9 o10 o11 o12 o13
      simp [results, Tryz.results25, go_sem, o0, o1, o2, o3, o4, o5, o6, o7, o8, o9, o10, o11, o12, o13]
end Go.Proofs.YtkgpoghoilffhaaGreatDoor
