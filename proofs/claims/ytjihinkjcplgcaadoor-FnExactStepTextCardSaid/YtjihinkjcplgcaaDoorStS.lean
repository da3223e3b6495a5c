/- The model's text of a step. -/
import Derived.Test.YtjihinkjcplgcaaDoorStI
import Derived.Test.YtjihinkjcplgcaaDoorEsx
namespace Go.Proofs.YtjihinkjcplgcaaDoor
open Go.RowKit Go.Deep
set_option linter.unusedVariables false
set_option linter.unusedSimpArgs false
set_option maxRecDepth 10000
theorem neq_of_eql {t : TypeId} {xs ys : Array Value} {X : Bool} {w : World} (h : (binOp .eql t (.agg xs) (.agg ys)).run Tryd.prog w = .ok (.bool X) w) : (binOp .neq t (.agg xs) (.agg ys)).run Tryd.prog w = .ok (.bool (!X)) w := by
  rw [run_eql_struct] at h
  rw [run_neq_struct]
  cases hq : (Op.equalIn 10000 t (.agg xs) (.agg ys)).run Tryd.prog w with
  | ok b w' =>
    rw [hq] at h
    simp [Result.andThen] at h ⊢
    exact h
  | _ => rw [hq] at h; simp [Result.andThen] at h
set_option maxHeartbeats 4000000 in
theorem norule_k (r : Rul) (w : World) : Calls Tryd.prog 10 #[r.v] w fun e w' => e = .returned (.bool (zeroR r)) ∧ Keeps w w' := by
  have HK := hide (Keeps.alloc (Keeps.refl w) (.cells #[.int .i64 r.lo, .int .i64 r.hi, .int .i64 r.st, .int .i64 r.mi, .int .i64 r.ma] 32))
  have q2 : ∀ w, (binOp .eql 32 r.v noR.v).run Tryd.prog w = .ok (.bool (zeroR r)) w := rul_eql r noR
  dsimp only [Rul.v, noR] at q2 ⊢
  generalize zeroR r = z at *
  go_enter Tryd.func10, Tryd.ntmps10
  go_wp2_with fail
  go_ret
  exact ⟨rfl, HK.out⟩
theorem stp_zero (W : World) (ty : TypeId) : ∀ w', Keeps (W.alloc (.cells #[.int .i64 0, .int .i64 0, .int .i64 0, .int .i64 0, .int .i64 0, .int .i64 0, .bool false] ty)) w' → w'.cell? ⟨W.heap.size, 0, none⟩ = some (.int .i64 0) ∧ w'.cell? ⟨W.heap.size, 1, none⟩ = some (.int .i64 0) ∧ w'.cell? ⟨W.heap.size, 2, none⟩ = some (.int .i64 0) ∧ w'.cell? ⟨W.heap.size, 3, none⟩ = some (.int .i64 0) ∧ w'.cell? ⟨W.heap.size, 4, none⟩ = some (.int .i64 0) ∧ w'.cell? ⟨W.heap.size, 5, none⟩ = some (.int .i64 0) ∧ w'.cell? ⟨W.heap.size, 6, none⟩ = some (.bool false) :=
  fun w' hk => ⟨hk.cell (by simp), hk.cell (by simp), hk.cell (by simp), hk.cell (by simp), hk.cell (by simp), hk.cell (by simp), hk.cell (by simp)⟩
theorem Keeps.cells14 {w w' : World} (hk : Keeps w w') {b : Nat} {v0 v1 v2 v3 v4 v5 v6 v7 v8 v9 v10 v11 v12 v13 : Value} (c0 : w.cell? ⟨b, 0, none⟩ = some v0) (c1 : w.cell? ⟨b, 1, none⟩ = some v1) (c2 : w.cell? ⟨b, 2, none⟩ = some v2) (c3 : w.cell? ⟨b, 3, none⟩ = some v3) (c4 : w.cell? ⟨b, 4, none⟩ = some v4) (c5 : w.cell? ⟨b, 5, none⟩ = some v5) (c6 : w.cell? ⟨b, 6, none⟩ = some v6) (c7 : w.cell? ⟨b, 7, none⟩ = some v7) (c8 : w.cell? ⟨b, 8, none⟩ = some v8) (c9 : w.cell? ⟨b, 9, none⟩ = some v9) (c10 : w.cell? ⟨b, 10, none⟩ = some v10) (c11 : w.cell? ⟨b, 11, none⟩ = some v11) (c12 : w.cell? ⟨b, 12, none⟩ = some v12) (c13 : w.cell? ⟨b, 13, none⟩ = some v13) :
    w'.cell? ⟨b, 0, none⟩ = some v0 ∧ w'.cell? ⟨b, 1, none⟩ = some v1 ∧ w'.cell? ⟨b, 2, none⟩ = some v2 ∧ w'.cell? ⟨b, 3, none⟩ = some v3 ∧ w'.cell? ⟨b, 4, none⟩ = some v4 ∧ w'.cell? ⟨b, 5, none⟩ = some v5 ∧ w'.cell? ⟨b, 6, none⟩ = some v6 ∧ w'.cell? ⟨b, 7, none⟩ = some v7 ∧ w'.cell? ⟨b, 8, none⟩ = some v8 ∧ w'.cell? ⟨b, 9, none⟩ = some v9 ∧ w'.cell? ⟨b, 10, none⟩ = some v10 ∧ w'.cell? ⟨b, 11, none⟩ = some v11 ∧ w'.cell? ⟨b, 12, none⟩ = some v12 ∧ w'.cell? ⟨b, 13, none⟩ = some v13 :=
  ⟨hk.cell c0, hk.cell c1, hk.cell c2, hk.cell c3, hk.cell c4, hk.cell c5, hk.cell c6, hk.cell c7, hk.cell c8, hk.cell c9, hk.cell c10, hk.cell c11, hk.cell c12, hk.cell c13⟩
def stG (D : Stp) (ok : Bool) : List UInt8 := if ok = true then stT D else []
theorem ret_stG {X : List UInt8} {D : Stp} {ok : Bool} (h : X = stG D ok) : Ending.returned (.string ⟨X.toArray⟩) = .returned (.string ⟨(stG D ok).toArray⟩) := by rw [h]
theorem ret_none {D : Stp} {ok : Bool} (h : ok = false) : Ending.returned (.string ByteArray.empty) = .returned (.string ⟨(stG D ok).toArray⟩) := by rw [h]; rfl
theorem et_len (k y c t m f : Int) (b : Bool) : (etL k y c t m f b).length ≤ 200 := by
  unfold etL
  split
  · next h =>
    have hk := (ev_bounds h).1
    have hs : ∀ (W : List UInt8) (ns : List Int), W.length ≤ 8 → ns.length ≤ 5 → (sen W ns).length ≤ 118 := by
      intro W ns h1 h2
      have := senN_len ns
      unfold sen
      simp only [List.length_append]
      omega
    have hq : k = 1 ∨ k = 2 ∨ k = 3 ∨ k = 4 ∨ k = 5 ∨ k = 6 ∨ k = 7 ∨ k = 8 ∨ k = 9 ∨ k = 10 ∨ k = 11 := by omega
    rcases hq with rfl | rfl | rfl | rfl | rfl | rfl | rfl | rfl | rfl | rfl | rfl
    · rw [evT_1]; exact Nat.le_trans (hs _ _ (by simp) (by simp)) (by decide)
    · rw [evT_2]; exact Nat.le_trans (hs _ _ (by simp) (by simp)) (by decide)
    · rw [evT_3]; exact Nat.le_trans (hs _ _ (by simp) (by simp)) (by decide)
    · rw [evT_4]; exact Nat.le_trans (hs _ _ (by simp) (by simp)) (by decide)
    · rw [evT_5, List.length_append]
      have h1 := hs [97, 100, 109, 105, 116] [y, c, t, m] (by simp) (by simp)
      split <;> simp only [List.length_cons, List.length_nil] <;> omega
    · rw [evT_6]; exact Nat.le_trans (hs _ _ (by simp) (by simp)) (by decide)
    · rw [evT_7]; exact Nat.le_trans (hs _ _ (by simp) (by simp)) (by decide)
    · rw [evT_8]; exact Nat.le_trans (hs _ _ (by simp) (by simp)) (by decide)
    · rw [evT_9]; exact Nat.le_trans (hs _ _ (by simp) (by simp)) (by decide)
    · rw [evT_10]; exact Nat.le_trans (hs _ _ (by simp) (by simp)) (by decide)
    · rw [evT_11]; exact Nat.le_trans (hs _ _ (by simp) (by simp)) (by decide)
  · simp
set_option maxHeartbeats 2000000 in
theorem steps_2 (e : Ev) (ks : List Int) (r : Rul) (a : Option Addr) (c : Nat) (zE zK zR bE bR : Bool) (w : World) (hc : Cells w a (its ks)) (hl : ks.length ≤ 1048576) (hzE : ∀ w, (binOp .eql 31 (evV e.k e.y e.c e.t e.m e.f e.b) (evV 0 0 0 0 0 0 false)).run Tryd.prog w = .ok (.bool zE) w) (hzK : noK ks = zK)
    (hE : ∀ w, Calls Tryd.prog 11 #[evV e.k e.y e.c e.t e.m e.f e.b] w fun x w' => x = .returned (.bool bE) ∧ Keeps w w') (hN : ∀ w, Calls Tryd.prog 10 #[r.v] w fun x w' => x = .returned (.bool zR) ∧ Keeps w w') (hR : ∀ w, Calls Tryd.prog 15 #[r.v] w fun x w' => x = .returned (.bool bR) ∧ Keeps w w') :
    Calls Tryd.prog 5 #[Stp.v ⟨2, e, ks, r⟩ a c] w fun x w' => x = .returned (.string ⟨(stG ⟨2, e, ks, r⟩ (stF 2 zE zK zR bE (allA ks) bR)).toArray⟩) ∧ Keeps w w' := by
  have HK := hide (Keeps.alloc (Keeps.alloc (Keeps.refl w) (.cells (Stp.cells ⟨2, e, ks, r⟩ a c) 34)) (.cells #[.int .i64 0, .int .i64 0, .int .i64 0, .int .i64 0, .int .i64 0, .int .i64 0, .bool false] 31))
  have HK12 := hide (Keeps.alloc (Keeps.refl (w.alloc (.cells (Stp.cells ⟨2, e, ks, r⟩ a c) 34))) (.cells #[.int .i64 0, .int .i64 0, .int .i64 0, .int .i64 0, .int .i64 0, .int .i64 0, .bool false] 31))
  have HB := hide (stp_box ⟨2, e, ks, r⟩ a c w 34)
  have HZ := hide (stp_zero (w.alloc (.cells (Stp.cells ⟨2, e, ks, r⟩ a c) 34)) 31)
  have hsz : (w.alloc (.cells (Stp.cells ⟨2, e, ks, r⟩ a c) 34)).heap.size = w.heap.size + 1 := by simp
  rw [hsz] at HZ
  have HC := hide hc
  have HE := hide hE
  have HN := hide hN
  have HR := hide hR
  have hzN := fun w => neq_of_eql (hzE w)
  dsimp only [Rul.v] at HR HN
  clear hE hN hR hsz hc hzE
  go_enter Tryd.func5, Tryd.ntmps5
  go_upto_region 2 with fail
  generalize w.alloc (.cells (Stp.cells ⟨2, e, ks, r⟩ a c) 34) = W1 at *
  generalize W1.alloc (.cells #[.int .i64 0, .int .i64 0, .int .i64 0, .int .i64 0, .int .i64 0, .int .i64 0, .bool false] 31) = W2 at *
  obtain ⟨c0, ⟨c1, c2, c3, c4, c5, c6, c7⟩, c8, c9, c10, c11, c12, c13⟩ := HB.out W2 HK12.out
  obtain ⟨z0, z1, z2, z3, z4, z5, z6⟩ := HZ.out W2 (Keeps.refl _)
  cases zE
  · go_wp2_with fail
    go_ret
    exact ⟨ret_none (by simp [stF]), HK.out⟩
  cases zK
  · have hkp : 0 < ks.length := by
      cases ks with
      | nil => simp [noK] at hzK
      | cons x t => simp
    clear hzK
    go_wp2_with fail
    go_ret
    exact ⟨ret_none (by simp [stF]), HK.out⟩
  · obtain rfl := noK_eq hzK
    clear hzK
    go_wp2_with fail
    refine (unhide HN _).mono ?_
    rintro x w1 ⟨rfl, hk1⟩
    have hcl := HB.out w1 (HK12.out.trans hk1)
    have HK1 := hide (HK.out.trans hk1)
    clear hk1 HK c0 c1 c2 c3 c4 c5 c6 c7 c8 c9 c10 c11 c12 c13 z0 z1 z2 z3 z4 z5 z6
    obtain ⟨c0, ⟨c1, c2, c3, c4, c5, c6, c7⟩, c8, c9, c10, c11, c12, c13⟩ := hcl
    cases zR
    · go_wp2_with fail
      go_ret
      exact ⟨ret_none (by simp [stF]), HK1.out⟩
    go_wp2_with fail
    go_ret
    exact ⟨ret_stG (X := [115, 121, 110, 99]) (by simp [stG, stF, stT]), HK1.out⟩
set_option maxHeartbeats 2000000 in
theorem steps_4 (e : Ev) (ks : List Int) (r : Rul) (a : Option Addr) (c : Nat) (zE zK zR bE bR : Bool) (w : World) (hc : Cells w a (its ks)) (hl : ks.length ≤ 1048576) (hzE : ∀ w, (binOp .eql 31 (evV e.k e.y e.c e.t e.m e.f e.b) (evV 0 0 0 0 0 0 false)).run Tryd.prog w = .ok (.bool zE) w) (hzK : noK ks = zK)
    (hE : ∀ w, Calls Tryd.prog 11 #[evV e.k e.y e.c e.t e.m e.f e.b] w fun x w' => x = .returned (.bool bE) ∧ Keeps w w') (hN : ∀ w, Calls Tryd.prog 10 #[r.v] w fun x w' => x = .returned (.bool zR) ∧ Keeps w w') (hR : ∀ w, Calls Tryd.prog 15 #[r.v] w fun x w' => x = .returned (.bool bR) ∧ Keeps w w') :
    Calls Tryd.prog 5 #[Stp.v ⟨4, e, ks, r⟩ a c] w fun x w' => x = .returned (.string ⟨(stG ⟨4, e, ks, r⟩ (stF 4 zE zK zR bE (allA ks) bR)).toArray⟩) ∧ Keeps w w' := by
  have HK := hide (Keeps.alloc (Keeps.alloc (Keeps.refl w) (.cells (Stp.cells ⟨4, e, ks, r⟩ a c) 34)) (.cells #[.int .i64 0, .int .i64 0, .int .i64 0, .int .i64 0, .int .i64 0, .int .i64 0, .bool false] 31))
  have HK12 := hide (Keeps.alloc (Keeps.refl (w.alloc (.cells (Stp.cells ⟨4, e, ks, r⟩ a c) 34))) (.cells #[.int .i64 0, .int .i64 0, .int .i64 0, .int .i64 0, .int .i64 0, .int .i64 0, .bool false] 31))
  have HB := hide (stp_box ⟨4, e, ks, r⟩ a c w 34)
  have HZ := hide (stp_zero (w.alloc (.cells (Stp.cells ⟨4, e, ks, r⟩ a c) 34)) 31)
  have hsz : (w.alloc (.cells (Stp.cells ⟨4, e, ks, r⟩ a c) 34)).heap.size = w.heap.size + 1 := by simp
  rw [hsz] at HZ
  have HC := hide hc
  have HE := hide hE
  have HN := hide hN
  have HR := hide hR
  have hzN := fun w => neq_of_eql (hzE w)
  dsimp only [Rul.v] at HR HN
  clear hE hN hR hsz hc hzE
  go_enter Tryd.func5, Tryd.ntmps5
  go_upto_region 2 with fail
  generalize w.alloc (.cells (Stp.cells ⟨4, e, ks, r⟩ a c) 34) = W1 at *
  generalize W1.alloc (.cells #[.int .i64 0, .int .i64 0, .int .i64 0, .int .i64 0, .int .i64 0, .int .i64 0, .bool false] 31) = W2 at *
  obtain ⟨c0, ⟨c1, c2, c3, c4, c5, c6, c7⟩, c8, c9, c10, c11, c12, c13⟩ := HB.out W2 HK12.out
  obtain ⟨z0, z1, z2, z3, z4, z5, z6⟩ := HZ.out W2 (Keeps.refl _)
  cases zE
  · go_wp2_with fail
    go_ret
    exact ⟨ret_none (by simp [stF]), HK.out⟩
  cases zK
  · have hkp : 0 < ks.length := by
      cases ks with
      | nil => simp [noK] at hzK
      | cons x t => simp
    clear hzK
    go_wp2_with fail
    go_ret
    exact ⟨ret_none (by simp [stF]), HK.out⟩
  · obtain rfl := noK_eq hzK
    clear hzK
    go_wp2_with fail
    refine (unhide HN _).mono ?_
    rintro x w1 ⟨rfl, hk1⟩
    have hcl := HB.out w1 (HK12.out.trans hk1)
    have HK1 := hide (HK.out.trans hk1)
    clear hk1 HK c0 c1 c2 c3 c4 c5 c6 c7 c8 c9 c10 c11 c12 c13 z0 z1 z2 z3 z4 z5 z6
    obtain ⟨c0, ⟨c1, c2, c3, c4, c5, c6, c7⟩, c8, c9, c10, c11, c12, c13⟩ := hcl
    cases zR
    · go_wp2_with fail
      go_ret
      exact ⟨ret_none (by simp [stF]), HK1.out⟩
    go_wp2_with fail
    go_ret
    exact ⟨ret_stG (X := [115, 116, 97, 114, 116]) (by simp [stG, stF, stT]), HK1.out⟩
set_option maxHeartbeats 2000000 in
theorem steps_0 (k : Int) (e : Ev) (ks : List Int) (r : Rul) (a : Option Addr) (c : Nat) (zE zK zR bE bR : Bool) (w : World) (hc : Cells w a (its ks)) (hl : ks.length ≤ 1048576) (hzE : ∀ w, (binOp .eql 31 (evV e.k e.y e.c e.t e.m e.f e.b) (evV 0 0 0 0 0 0 false)).run Tryd.prog w = .ok (.bool zE) w) (hzK : noK ks = zK)
    (hE : ∀ w, Calls Tryd.prog 11 #[evV e.k e.y e.c e.t e.m e.f e.b] w fun x w' => x = .returned (.bool bE) ∧ Keeps w w') (hN : ∀ w, Calls Tryd.prog 10 #[r.v] w fun x w' => x = .returned (.bool zR) ∧ Keeps w w') (hR : ∀ w, Calls Tryd.prog 15 #[r.v] w fun x w' => x = .returned (.bool bR) ∧ Keeps w w') (hk : k ≠ 1 ∧ k ≠ 2 ∧ k ≠ 3 ∧ k ≠ 4 ∧ k ≠ 5) :
    Calls Tryd.prog 5 #[Stp.v ⟨k, e, ks, r⟩ a c] w fun x w' => x = .returned (.string ⟨(stG ⟨k, e, ks, r⟩ (stF k zE zK zR bE (allA ks) bR)).toArray⟩) ∧ Keeps w w' := by
  have HK := hide (Keeps.alloc (Keeps.alloc (Keeps.refl w) (.cells (Stp.cells ⟨k, e, ks, r⟩ a c) 34)) (.cells #[.int .i64 0, .int .i64 0, .int .i64 0, .int .i64 0, .int .i64 0, .int .i64 0, .bool false] 31))
  have HK12 := hide (Keeps.alloc (Keeps.refl (w.alloc (.cells (Stp.cells ⟨k, e, ks, r⟩ a c) 34))) (.cells #[.int .i64 0, .int .i64 0, .int .i64 0, .int .i64 0, .int .i64 0, .int .i64 0, .bool false] 31))
  have HB := hide (stp_box ⟨k, e, ks, r⟩ a c w 34)
  have HZ := hide (stp_zero (w.alloc (.cells (Stp.cells ⟨k, e, ks, r⟩ a c) 34)) 31)
  have hsz : (w.alloc (.cells (Stp.cells ⟨k, e, ks, r⟩ a c) 34)).heap.size = w.heap.size + 1 := by simp
  rw [hsz] at HZ
  have HC := hide hc
  have HE := hide hE
  have HN := hide hN
  have HR := hide hR
  have hzN := fun w => neq_of_eql (hzE w)
  dsimp only [Rul.v] at HR HN
  clear hE hN hR hsz hc hzE
  go_enter Tryd.func5, Tryd.ntmps5
  go_upto_region 2 with fail
  generalize w.alloc (.cells (Stp.cells ⟨k, e, ks, r⟩ a c) 34) = W1 at *
  generalize W1.alloc (.cells #[.int .i64 0, .int .i64 0, .int .i64 0, .int .i64 0, .int .i64 0, .int .i64 0, .bool false] 31) = W2 at *
  obtain ⟨c0, ⟨c1, c2, c3, c4, c5, c6, c7⟩, c8, c9, c10, c11, c12, c13⟩ := HB.out W2 HK12.out
  obtain ⟨z0, z1, z2, z3, z4, z5, z6⟩ := HZ.out W2 (Keeps.refl _)
  obtain ⟨h1, h2, h3, h4, h5⟩ := hk
  have HF : Hid (stF k zE zK zR bE (allA ks) bR = false) := by show _ = _; simp [stF, h1, h2, h3, h4, h5]
  cases zE
  · go_wp2_with fail
    go_ret
    exact ⟨ret_none HF.out, HK.out⟩
  cases zK
  · have hkp : 0 < ks.length := by
      cases ks with
      | nil => simp [noK] at hzK
      | cons x t => simp
    clear hzK
    go_wp2_with fail
    go_ret
    exact ⟨ret_none HF.out, HK.out⟩
  · obtain rfl := noK_eq hzK
    clear hzK
    go_wp2_with fail
    refine (unhide HN _).mono ?_
    rintro x w1 ⟨rfl, hk1⟩
    have hcl := HB.out w1 (HK12.out.trans hk1)
    have HK1 := hide (HK.out.trans hk1)
    clear hk1 HK c0 c1 c2 c3 c4 c5 c6 c7 c8 c9 c10 c11 c12 c13 z0 z1 z2 z3 z4 z5 z6
    obtain ⟨c0, ⟨c1, c2, c3, c4, c5, c6, c7⟩, c8, c9, c10, c11, c12, c13⟩ := hcl
    cases zR
    · go_wp2_with fail
      go_ret
      exact ⟨ret_none HF.out, HK1.out⟩
    go_wp2_with fail
    go_ret
    exact ⟨ret_none HF.out, HK1.out⟩
set_option maxHeartbeats 2000000 in
theorem steps_1 (e : Ev) (ks : List Int) (r : Rul) (a : Option Addr) (c : Nat) (zE zK zR bE bR : Bool) (w : World) (hbE : evB e.k e.y e.c e.t e.m e.f e.b = bE) (hc : Cells w a (its ks)) (hl : ks.length ≤ 1048576) (hzE : ∀ w, (binOp .eql 31 (evV e.k e.y e.c e.t e.m e.f e.b) (evV 0 0 0 0 0 0 false)).run Tryd.prog w = .ok (.bool zE) w) (hzK : noK ks = zK)
    (hE : ∀ w, Calls Tryd.prog 11 #[evV e.k e.y e.c e.t e.m e.f e.b] w fun x w' => x = .returned (.bool bE) ∧ Keeps w w') (hN : ∀ w, Calls Tryd.prog 10 #[r.v] w fun x w' => x = .returned (.bool zR) ∧ Keeps w w') (hR : ∀ w, Calls Tryd.prog 15 #[r.v] w fun x w' => x = .returned (.bool bR) ∧ Keeps w w') :
    Calls Tryd.prog 5 #[Stp.v ⟨1, e, ks, r⟩ a c] w fun x w' => x = .returned (.string ⟨(stG ⟨1, e, ks, r⟩ (stF 1 zE zK zR bE (allA ks) bR)).toArray⟩) ∧ Keeps w w' := by
  have HBE := hide hbE
  clear hbE
  have HK := hide (Keeps.alloc (Keeps.alloc (Keeps.refl w) (.cells (Stp.cells ⟨1, e, ks, r⟩ a c) 34)) (.cells #[.int .i64 0, .int .i64 0, .int .i64 0, .int .i64 0, .int .i64 0, .int .i64 0, .bool false] 31))
  have HK12 := hide (Keeps.alloc (Keeps.refl (w.alloc (.cells (Stp.cells ⟨1, e, ks, r⟩ a c) 34))) (.cells #[.int .i64 0, .int .i64 0, .int .i64 0, .int .i64 0, .int .i64 0, .int .i64 0, .bool false] 31))
  have HB := hide (stp_box ⟨1, e, ks, r⟩ a c w 34)
  have HZ := hide (stp_zero (w.alloc (.cells (Stp.cells ⟨1, e, ks, r⟩ a c) 34)) 31)
  have hsz : (w.alloc (.cells (Stp.cells ⟨1, e, ks, r⟩ a c) 34)).heap.size = w.heap.size + 1 := by simp
  rw [hsz] at HZ
  have HC := hide hc
  have HE := hide hE
  have HN := hide hN
  have HR := hide hR
  have hzN := fun w => neq_of_eql (hzE w)
  dsimp only [Rul.v] at HR HN
  clear hE hN hR hsz hc hzE
  go_enter Tryd.func5, Tryd.ntmps5
  go_upto_region 2 with fail
  generalize w.alloc (.cells (Stp.cells ⟨1, e, ks, r⟩ a c) 34) = W1 at *
  generalize W1.alloc (.cells #[.int .i64 0, .int .i64 0, .int .i64 0, .int .i64 0, .int .i64 0, .int .i64 0, .bool false] 31) = W2 at *
  obtain ⟨c0, ⟨c1, c2, c3, c4, c5, c6, c7⟩, c8, c9, c10, c11, c12, c13⟩ := HB.out W2 HK12.out
  obtain ⟨z0, z1, z2, z3, z4, z5, z6⟩ := HZ.out W2 (Keeps.refl _)
  cases zK
  · have hkp : 0 < ks.length := by
      cases ks with
      | nil => simp [noK] at hzK
      | cons x t => simp
    clear hzK
    go_wp2_with fail
    go_ret
    exact ⟨ret_none (by simp [stF]), HK.out⟩
  · obtain rfl := noK_eq hzK
    clear hzK
    go_wp2_with fail
    refine (unhide HN _).mono ?_
    rintro x w1 ⟨rfl, hk1⟩
    have hcl := HB.out w1 (HK12.out.trans hk1)
    have HK1 := hide (HK.out.trans hk1)
    clear hk1 HK c0 c1 c2 c3 c4 c5 c6 c7 c8 c9 c10 c11 c12 c13 z0 z1 z2 z3 z4 z5 z6
    obtain ⟨c0, ⟨c1, c2, c3, c4, c5, c6, c7⟩, c8, c9, c10, c11, c12, c13⟩ := hcl
    cases zR
    · go_wp2_with fail
      go_ret
      exact ⟨ret_none (by simp [stF]), HK1.out⟩
    go_wp2_with fail
    refine (unhide HE _).mono ?_
    rintro x w2 ⟨rfl, hk2⟩
    have hcl := Keeps.cells14 hk2 c0 c1 c2 c3 c4 c5 c6 c7 c8 c9 c10 c11 c12 c13
    have HK2 := hide (HK1.out.trans hk2)
    clear hk2 HK1 c0 c1 c2 c3 c4 c5 c6 c7 c8 c9 c10 c11 c12 c13
    obtain ⟨c0, c1, c2, c3, c4, c5, c6, c7, c8, c9, c10, c11, c12, c13⟩ := hcl
    cases bE
    · go_wp2_with fail
      go_ret
      exact ⟨ret_none (by simp [stF]), HK2.out⟩
    go_wp2_with fail
    refine (esx_spec e.k e.y e.c e.t e.m e.f e.b w2).mono ?_
    rintro x w3 ⟨rfl, hk3⟩
    obtain ⟨A, hA⟩ : ∃ A : ByteArray, A = ⟨(etL e.k e.y e.c e.t e.m e.f e.b).toArray⟩ := ⟨_, rfl⟩
    have hy : A.size ≤ 200 := by
      rw [hA]
      have h2 := et_len e.k e.y e.c e.t e.m e.f e.b
      have e2 : (⟨(etL e.k e.y e.c e.t e.m e.f e.b).toArray⟩ : ByteArray).size = (etL e.k e.y e.c e.t e.m e.f e.b).length := by show (etL e.k e.y e.c e.t e.m e.f e.b).toArray.size = _; simp
      omega
    rw [← hA]
    have HA := hide hA
    clear hA
    have qa : ∀ w, (Op.stringOp .add (⟨#[116, 97, 107, 101, 32]⟩ : ByteArray) A).run Tryd.prog w = .ok (.string ((⟨#[116, 97, 107, 101, 32]⟩ : ByteArray) ++ A)) w := fun w => run_string_add_sum w _ _ (by
      have e1 : (⟨#[116, 97, 107, 101, 32]⟩ : ByteArray).size = 5 := rfl
      rw [e1]; omega)
    clear hy
    go_wp2_with fail
    go_ret
    rw [HA.out]
    refine ⟨(es_ret [116, 97, 107, 101, 32] _ rfl).trans (ret_stG ?_), HK2.out.trans hk3⟩
    have hbE := unhide HBE
    simp [stG, stF, stT, etL, hbE]
theorem stF_eq' (D : Stp) : stG D (stF D.k (zeroE D.e) (noK D.ks) (zeroR D.r) (evB D.e.k D.e.y D.e.c D.e.t D.e.m D.e.f D.e.b) (allA D.ks) (ruleB D.r)) = stL D := rfl
end Go.Proofs.YtjihinkjcplgcaaDoor
