/- The reader's sector. -/
import Derived.Test.YtkdnddckogbgaaaGreatDoorFO17
namespace Go.Proofs.YtkdnddckogbgaaaGreatDoor
open Go.RowKit Go.Deep
set_option linter.unusedVariables false
set_option linter.unusedSimpArgs false
set_option maxRecDepth 10000
theorem secok_is (q e : Int) (a : Option Addr) (len cap : Nat) (r : Bool) (hr : secB q e len = r) (w : World) (hl : len ≤ 9223372036854775807) : Calls Tryz.prog 104 #[.agg #[.int .i64 q, .int .i64 e, .slice a len cap]] w fun x w' => x = .returned (.bool r) ∧ Keeps w w' := by
  rw [← hr]; exact secok_impl q e a len cap w hl
theorem clone_n (a : Option Addr) (cap n : Nat) (L : List UInt8) (hln : L.length = n) (w : World) (hc : Cells w a (bys L)) (hn : a = none → cap = 0) (hl : L.length ≤ 4194304) :
    Calls Tryz.prog 84 #[.slice a n cap] w fun e w' => ∃ v, e = .returned v ∧ OwnsB w' w.heap.size v L ∧ Keeps w w' := by
  rw [← hln]; exact clone_k a cap L w hc hn hl
/-- A list of the call's own beside a reader. -/
theorem own_turnB {w w' : World} {B : Nat} {S : List Seg} (h : Own w S) (ht : Turn [B] w w') (hn : ∀ x ∈ fp S, x ≠ B) : Own w' S := h.turn ht (fun x hx hb => hn x hx (by simpa using hb))
theorem own_setB {w : World} {a : Addr} {S : List Seg} (h : Own w S) (v : Value) (hn : ∀ x ∈ fp S, x ≠ a.block) : Own (w.setCell a v) S := h.turn (Turn.set (fs := [a.block]) (by simp) v) (fun x hx hb => hn x hx (by simpa using hb))
theorem own_threeB {w : World} {R : Nat} {x0 x1 x2 : Value} (h : Own w [(some ⟨R, 0, none⟩, [x0, x1, x2])]) (y0 y1 y2 : Value) :
    Own (((w.setCell ⟨R, 0, none⟩ y0).setCell ⟨R, 1, none⟩ y1).setCell ⟨R, 2, none⟩ y2) [(some ⟨R, 0, none⟩, [y0, y1, y2])] := by
  have h := own_set h 0 (by simp) y0
  have h := own_set h 1 (by simp) y1
  exact own_set h 2 (by simp) y2
set_option maxHeartbeats 8000000 in
theorem sector_yes (B b off : Nat) (L : List UInt8) (cap : Nat) (w : World) (u : TypeId) (pv : Value) (hv : w.cell? ⟨0, 0, none⟩ = some (.iface u pv)) (hgB : 0 ≠ B) (hr : Rd w B (some ⟨b, off, none⟩) L cap (0 : Nat)) (hB : b ≠ B) (hBl : B < w.heap.size) (hbl : b < w.heap.size) (hc : Cells w (some ⟨b, off, none⟩) (bys L)) (hcap : L.length ≤ cap) (hcm : cap ≤ 9223372036854775807) (h128 : L.length = 128) (z q e n q2 e2 : Nat) (ez : numL (cut L 0 1) = z) (eq : numL (cut L 1 3) = q) (ee : numL (cut L 4 3) = e) (en : numL (cut L 7 1) = n) (eq2 : numL (cut L 122 3) = q2) (ee2 : numL (cut L 125 3) = e2) (hz : z = 74) (hn : n ≤ 100) (hzr : cut L (8 + n) (114 - n) = List.replicate (114 - n) 0) (hq2 : q2 = q) (he2 : e2 = e) (hok : secB q e n = true) :
    Calls Tryz.prog 112 #[.pointer (some ⟨B, 0, none⟩)] w fun x w' => ∃ (ab : Option Addr) (cb : Nat), x = .returned (secV q e ab (cut L 8 n).length cb) ∧ CapB ab cb (cut L 8 n).length ∧ Born w w' [(ab, bys (cut L 8 n))] ∧ Turn [B] w w' := by
  have hb := born_alloc w #[.int .i64 0, .int .i64 0, .slice none 0 0] 72
  dsimp only at hb
  have hk := Keeps.alloc (Keeps.refl w) (.cells #[.int .i64 0, .int .i64 0, .slice none 0 0] 72)
  have HG := hide (fun (w' : World) (ht : Turn [B] w w') => ht.cell (p := ⟨0, 0, none⟩) (by simpa using hgB) hv)
  have HS : Hid (RS w (w.alloc (.cells #[.int .i64 0, .int .i64 0, .slice none 0 0] 72)) B b off L cap 0 w.heap.size [.int .i64 0, .int .i64 0, .slice none 0 0]) :=
    ⟨⟨hk.cell hr.data, hk.cell hr.place, by rw [hk.oldF _ _ hBl]; exact hr.free⟩, hc.kept hk, hb.toOwn, Turn.of_keeps hk [B], Nat.le_refl _, hBl, hbl, hB⟩
  have HCap := hide hcap
  have HCm := hide hcm
  have HGB := hide hgB
  clear hb hk hv hr hc hgB hcm
  have hn1 : ((L.length : Int) == 128) = true := by rw [h128]; rfl
  have HL : Hid (L.length ≤ 16777216) := by show _ ≤ _; omega
  have HL128 := hide h128
  have HP : Hid (∀ p s : Nat, p + s ≤ 128 → p + s ≤ L.length) := fun p s h => by omega
  have HC8 : Hid (∀ p : Nat, p < 128 → p < cap) := fun p h => by omega
  have d0 := HS.out.rd.data
  clear hcap
  have Nz := hide ez
  have Nq := hide eq
  have Ne := hide ee
  have Nn := hide en
  have Nq2 := hide eq2
  have Ne2 := hide ee2
  clear h128 ez eq ee en eq2 ee2
  have hz2 : ((z : Int) == 74) = true := by rw [hz]; rfl
  clear hz
  have HZR := hide hzr
  clear hzr
  have HQ2 := hide hq2
  clear hq2
  have HE2 := hide he2
  clear he2
  have HOK := hide hok
  clear hok
  have HN := hide hn
  clear hn
  go_enter Tryz.func112, Tryz.ntmps112
  go_wp2_with fail
  go_at_call 109
  refine (number_t B b off L cap 0 1 z Nz.out _ HS.out.rd hB HS.out.cells HL.out HCap.out HCm.out (by decide) (by decide) (HP.out 0 1 (by decide))).mono ?_
  rintro e w1 ⟨rfl, hr1, ht1⟩
  replace HS := hide (HS.out.num hr1 ht1)
  have hz12 : w.heap.size < w1.heap.size := by have := ht1.size; simp at this; omega
  clear hr1 ht1 d0
  simp only [Nat.zero_add] at HS
  go_wp2_with fail
  go_at_call 108
  refine (insist_yes _).mono ?_
  rintro e w' ⟨rfl, hw'⟩
  obtain rfl := Eq.symm hw'
  clear hw'
  have hbV := born_alloc w1 #[.int .i64 0, .int .i64 0, .slice none 0 0] 72
  dsimp only at hbV
  have hkV := Keeps.alloc (Keeps.refl w1) (.cells #[.int .i64 0, .int .i64 0, .slice none 0 0] 72)
  have HT : Hid (RS w (w1.alloc (.cells #[.int .i64 0, .int .i64 0, .slice none 0 0] 72)) B b off L cap 1 w1.heap.size [.int .i64 0, .int .i64 0, .slice none 0 0]) :=
    ⟨(HS.out.kept hkV).rd, (HS.out.kept hkV).cells, hbV.toOwn, (HS.out.kept hkV).turn, Nat.le_trans (Nat.le_of_lt hz12) (Nat.le_refl _), HS.out.oldB, HS.out.oldb, HS.out.ne⟩
  replace HS := hide (HS.out.kept hkV)
  have HVL : Hid (w1.heap.size < (w1.alloc (.cells #[.int .i64 0, .int .i64 0, .slice none 0 0] 72)).heap.size) := by show _ < _; simp
  clear hbV hkV
  go_wp2_with fail
  generalize w1.alloc (.cells #[.int .i64 0, .int .i64 0, .slice none 0 0] 72) = w2 at *
  generalize hV : w1.heap.size = V at *
  clear hV w1
  go_at_call 109
  refine (number_t B b off L cap 1 3 q Nq.out _ HS.out.rd hB HS.out.cells HL.out HCap.out HCm.out (by decide) (by decide) (HP.out 1 3 (by decide))).mono ?_
  rintro x w3 ⟨rfl, hr1, ht1⟩
  replace HS := hide (HS.out.num hr1 ht1)
  replace HT := hide (HT.out.num hr1 ht1)
  replace HVL : Hid (V < w3.heap.size) := Nat.lt_of_lt_of_le HVL.out ht1.size
  clear hr1 ht1
  simp only [Nat.reduceAdd] at HS HT
  have cV := HT.out.cell 0 (by simp) (v := .int .i64 0) rfl
  have fV := HT.out.free (by simp) 0
  replace HT := hide (HT.out.set 0 (by simp) (.int .i64 (q : Int)) (ys := [.int .i64 (q : Int), .int .i64 0, .slice none 0 0]) rfl)
  replace HS := hide (HS.out.other (V' := V) (i := 0) (Nat.ne_of_gt hz12) (Nat.le_of_lt hz12) (.int .i64 (q : Int)))
  replace HVL : Hid (V < (w3.setCell ⟨V, 0, none⟩ (.int .i64 (q : Int))).heap.size) := by show _ < _; rw [nblk_setCell]; exact HVL.out
  go_wp2_with fail
  clear cV fV
  generalize w3.setCell ⟨V, 0, none⟩ (.int .i64 (q : Int)) = w4 at *
  clear w2 w3
  go_at_call 109
  refine (number_t B b off L cap 4 3 e Ne.out _ HS.out.rd hB HS.out.cells HL.out HCap.out HCm.out (by decide) (by decide) (HP.out 4 3 (by decide))).mono ?_
  rintro x w5 ⟨rfl, hr1, ht1⟩
  replace HS := hide (HS.out.num hr1 ht1)
  replace HT := hide (HT.out.num hr1 ht1)
  replace HVL : Hid (V < w5.heap.size) := Nat.lt_of_lt_of_le HVL.out ht1.size
  clear hr1 ht1
  simp only [Nat.reduceAdd] at HS HT
  have cV := HT.out.cell 1 (by simp) (v := .int .i64 0) rfl
  have fV := HT.out.free (by simp) 1
  replace HT := hide (HT.out.set 1 (by simp) (.int .i64 (e : Int)) (ys := [.int .i64 (q : Int), .int .i64 (e : Int), .slice none 0 0]) rfl)
  replace HS := hide (HS.out.other (V' := V) (i := 1) (Nat.ne_of_gt hz12) (Nat.le_of_lt hz12) (.int .i64 (e : Int)))
  replace HVL : Hid (V < (w5.setCell ⟨V, 1, none⟩ (.int .i64 (e : Int))).heap.size) := by show _ < _; rw [nblk_setCell]; exact HVL.out
  go_wp2_with fail
  clear cV fV
  generalize w5.setCell ⟨V, 1, none⟩ (.int .i64 (e : Int)) = w6 at *
  clear w4 w5
  go_at_call 109
  refine (number_t B b off L cap 7 1 n Nn.out _ HS.out.rd hB HS.out.cells HL.out HCap.out HCm.out (by decide) (by decide) (HP.out 7 1 (by decide))).mono ?_
  rintro x w7 ⟨rfl, hr1, ht1⟩
  replace HS := hide (HS.out.num hr1 ht1)
  replace HT := hide (HT.out.num hr1 ht1)
  replace HVL : Hid (V < w7.heap.size) := Nat.lt_of_lt_of_le HVL.out ht1.size
  clear hr1 ht1
  simp only [Nat.reduceAdd] at HS HT
  have hn2 : (n : Int) ≤ 100 := by have := HN.out; omega
  go_wp2_with fail
  go_at_call 108
  refine (insist_yes _).mono ?_
  rintro e w' ⟨rfl, hw'⟩
  obtain rfl := Eq.symm hw'
  clear hw'
  have HXL : Hid ((cut L 8 n).length = n) := cut_length (HP.out 8 n (by have := HN.out; omega))
  go_wp2_with fail
  go_at_call 118
  refine (take_t B b off L cap 8 n _ HS.out.rd HL.out HCap.out HCm.out (by have := HN.out; omega) (HP.out 8 n (by have := HN.out; omega)) (HC8.out 8 (by decide))).mono ?_
  rintro x w8 ⟨rfl, hr1, ht1⟩
  replace HS := hide (HS.out.num hr1 ht1)
  replace HT := hide (HT.out.num hr1 ht1)
  replace HVL : Hid (V < w8.heap.size) := Nat.lt_of_lt_of_le HVL.out ht1.size
  clear hr1 ht1
  go_wp2_with fail
  go_at_call 84
  refine (clone_n (some ⟨b, off + 8, none⟩) (cap - 8) n (cut L 8 n) HXL.out _ (cells_cut HS.out.cells 8 n (HP.out 8 n (by have := HN.out; omega))) (fun e => by cases e) (by have := HN.out; rw [HXL.out]; omega)).mono ?_
  rintro x w9 ⟨v, rfl, ho, hk⟩
  obtain ⟨ab, cb, rfl, hnc, hby⟩ := Born.of_owns3 ho
  have HNC := hide hnc
  have HYN : Hid (∀ x ∈ fp [(ab, bys (cut L 8 n))], x ≠ B ∧ x ≠ V ∧ x ≠ w.heap.size ∧ w.heap.size ≤ x) := fun x hx => by
    have h1 := hby.new x hx
    have h2 := HVL.out
    have h3 := HS.out.oldB
    omega
  have HY := hide hby.toOwn
  replace HS := hide (HS.out.kept hk)
  replace HT := hide (HT.out.kept hk)
  replace HVL : Hid (V < w9.heap.size) := Nat.lt_of_lt_of_le HVL.out hk.size
  clear ho hk hnc hby
  have cV := HT.out.cell 2 (by simp) (v := .slice none 0 0) rfl
  have fV := HT.out.free (by simp) 2
  replace HT := hide (HT.out.set 2 (by simp) (.slice ab (cut L 8 n).length cb) (ys := [.int .i64 (q : Int), .int .i64 (e : Int), .slice ab (cut L 8 n).length cb]) rfl)
  replace HS := hide (HS.out.other (V' := V) (i := 2) (Nat.ne_of_gt hz12) (Nat.le_of_lt hz12) (.slice ab (cut L 8 n).length cb))
  replace HY := hide (own_setB (a := ⟨V, 2, none⟩) HY.out (.slice ab (cut L 8 n).length cb) (fun x hx => (HYN.out x hx).2.1))
  have dP := HS.out.rd.place
  go_wp2_with fail
  clear cV fV dP
  generalize w9.setCell ⟨V, 2, none⟩ (.slice ab (cut L 8 n).length cb) = w10 at *
  clear HVL w9
  go_at_call 120
  refine (zeros_yes B b off L cap (8 + n) (114 - n) _ (by have := HN.out; omega) _ HS.out.rd hB HS.out.cells HL.out HCap.out HCm.out (by omega) (HP.out _ _ (by have := HN.out; omega)) (HC8.out _ (by have := HN.out; omega)) HZR.out).mono ?_
  rintro x w11 ⟨rfl, hr1, ht1⟩
  rw [show 8 + n + (114 - n) = 122 by have := HN.out; omega] at hr1
  replace HS := hide (HS.out.num hr1 ht1)
  replace HT := hide (HT.out.num hr1 ht1)
  replace HY := hide (own_turnB HY.out ht1 (fun x hx => (HYN.out x hx).1))
  clear hr1 ht1 w10
  have hcmp : (((q2 : Nat) : Int) == (q : Int)) = true := by rw [HQ2.out]; simp
  have cV := HT.out.cell 0 (by simp) (v := .int .i64 (q : Int)) rfl
  go_wp2_with fail
  go_region_held3 (fun w' => w'.cell? ⟨V, 0, none⟩ = some (.int .i64 (q : Int))) (go_keep)
    (first
       | (go_at_call 109
          refine (number_t B b off L cap 122 3 q2 Nq2.out _ HS.out.drew.rd hB HS.out.drew.cells HL.out HCap.out HCm.out (by decide) (by decide) (HP.out 122 3 (by decide))).mono ?_
          rintro x w12 ⟨rfl, hr1, ht1⟩
          replace HS := hide (HS.out.drew.num hr1 ht1)
          replace HT := hide (HT.out.drew.num hr1 ht1)
          replace HY := hide (own_turnB (HY.out.kept (Keeps.drew (Keeps.refl w11))) ht1 (fun x hx => (HYN.out x hx).1))
          clear hr1 ht1 cV
          have cV := HT.out.cell 0 (by simp) (v := .int .i64 (q : Int)) rfl)
       | (go_at_call 108
          refine (insist_yes _).mono ?_
          rintro x w' ⟨rfl, hw'⟩
          obtain rfl := Eq.symm hw'
          clear hw'))
  clear cV hcmp
  simp only [Nat.reduceAdd] at HS HT
  have hcmp : (((e2 : Nat) : Int) == (e : Int)) = true := by rw [HE2.out]; simp
  have cV := HT.out.cell 1 (by simp) (v := .int .i64 (e : Int)) rfl
  go_wp2_with fail
  go_region_held3 (fun w' => w'.cell? ⟨V, 1, none⟩ = some (.int .i64 (e : Int))) (go_keep)
    (first
       | (go_at_call 109
          refine (number_t B b off L cap 125 3 e2 Ne2.out _ HS.out.drew.rd hB HS.out.drew.cells HL.out HCap.out HCm.out (by decide) (by decide) (HP.out 125 3 (by decide))).mono ?_
          rintro x w13 ⟨rfl, hr1, ht1⟩
          replace HS := hide (HS.out.drew.num hr1 ht1)
          replace HT := hide (HT.out.drew.num hr1 ht1)
          replace HY := hide (own_turnB (HY.out.kept (Keeps.drew (Keeps.refl w12))) ht1 (fun x hx => (HYN.out x hx).1))
          clear hr1 ht1 cV
          have cV := HT.out.cell 1 (by simp) (v := .int .i64 (e : Int)) rfl)
       | (go_at_call 108
          refine (insist_yes _).mono ?_
          rintro x w' ⟨rfl, hw'⟩
          obtain rfl := Eq.symm hw'
          clear hw'))
  clear cV hcmp
  simp only [Nat.reduceAdd] at HS HT
  have e0 := HT.out.cell 0 (by simp) (v := .int .i64 (q : Int)) rfl
  have e1 := HT.out.cell 1 (by simp) (v := .int .i64 (e : Int)) rfl
  have e2 := HT.out.cell 2 (by simp) (v := .slice ab (cut L 8 n).length cb) rfl
  have hsb : secB (q : Int) (e : Int) (cut L 8 n).length = true := by rw [HXL.out]; exact HOK.out
  go_wp2_with fail
  go_at_call 104
  refine (secok_is q e ab (cut L 8 n).length cb _ hsb _ (by have := HN.out; rw [HXL.out]; omega)).mono ?_
  rintro x w14 ⟨rfl, hk⟩
  replace HS := hide (HS.out.kept hk)
  replace HT := hide (HT.out.kept hk)
  replace HY := hide (HY.out.kept hk)
  clear hk e0 e1 e2 hsb
  go_wp2_with fail
  go_at_call 108
  refine (insist_yes _).mono ?_
  rintro e w' ⟨rfl, hw'⟩
  obtain rfl := Eq.symm hw'
  clear hw'
  have f0 := HT.out.cell 0 (by simp) (v := .int .i64 (q : Int)) rfl
  have f1 := HT.out.cell 1 (by simp) (v := .int .i64 (e : Int)) rfl
  have f2 := HT.out.cell 2 (by simp) (v := .slice ab (cut L 8 n).length cb) rfl
  have c0 := HS.out.cell 0 (by simp) (v := .int .i64 0) rfl
  have c1 := HS.out.cell 1 (by simp) (v := .int .i64 0) rfl
  have c2 := HS.out.cell 2 (by simp) (v := .slice none 0 0) rfl
  have fS := HS.out.free (by simp)
  have HS0 := HS.out.set 0 (by simp) (.int .i64 (q : Int)) (ys := [.int .i64 (q : Int), .int .i64 0, .slice none 0 0]) rfl
  have HS1 := HS0.set 1 (by simp) (.int .i64 (e : Int)) (ys := [.int .i64 (q : Int), .int .i64 (e : Int), .slice none 0 0]) rfl
  have HS2 := HS1.set 2 (by simp) (.slice ab (cut L 8 n).length cb) (ys := [.int .i64 (q : Int), .int .i64 (e : Int), .slice ab (cut L 8 n).length cb]) rfl
  have HF := hide HS2
  have HYF := hide (own_setB (a := ⟨w.heap.size, 2, none⟩) (own_setB (a := ⟨w.heap.size, 1, none⟩) (own_setB (a := ⟨w.heap.size, 0, none⟩) HY.out (.int .i64 (q : Int)) (fun x hx => (HYN.out x hx).2.2.1)) (.int .i64 (e : Int)) (fun x hx => (HYN.out x hx).2.2.1)) (.slice ab (cut L 8 n).length cb) (fun x hx => (HYN.out x hx).2.2.1))
  clear HS0 HS1 HS2
  go_wp2_with fail
  clear c0 c1 c2 f0 f1 f2 fS
  generalize (((w14.setCell ⟨w.heap.size, 0, none⟩ (.int .i64 (q : Int))).setCell ⟨w.heap.size, 1, none⟩ (.int .i64 (e : Int))).setCell ⟨w.heap.size, 2, none⟩ (.slice ab (cut L 8 n).length cb)) = wF at *
  have c0 := HF.out.cell 0 (by simp) (v := .int .i64 (q : Int)) rfl
  have c1 := HF.out.cell 1 (by simp) (v := .int .i64 (e : Int)) rfl
  have c2 := HF.out.cell 2 (by simp) (v := .slice ab (cut L 8 n).length cb) rfl
  refine bodyPost_ret (v := secV q e ab (cut L 8 n).length cb) ?_ rfl ⟨ab, cb, rfl, HNC.out, ⟨HYF.out, fun x hx => (HYN.out x hx).2.2.2⟩, HF.out.turn⟩
  simp [results, Tryz.results112, go_sem, c0, c1, c2]
set_option maxHeartbeats 8000000 in
theorem sector_first (B b off : Nat) (L : List UInt8) (cap : Nat) (w : World) (u : TypeId) (pv : Value) (hv : w.cell? ⟨0, 0, none⟩ = some (.iface u pv)) (hgB : 0 ≠ B) (hr : Rd w B (some ⟨b, off, none⟩) L cap (0 : Nat)) (hB : b ≠ B) (hBl : B < w.heap.size) (hbl : b < w.heap.size) (hc : Cells w (some ⟨b, off, none⟩) (bys L)) (hcap : L.length ≤ cap) (hcm : cap ≤ 9223372036854775807) (h128 : L.length = 128) (z q e n q2 e2 : Nat) (ez : numL (cut L 0 1) = z) (eq : numL (cut L 1 3) = q) (ee : numL (cut L 4 3) = e) (en : numL (cut L 7 1) = n) (eq2 : numL (cut L 122 3) = q2) (ee2 : numL (cut L 125 3) = e2) (hz : z ≠ 74) :
    Calls Tryz.prog 112 #[.pointer (some ⟨B, 0, none⟩)] w fun x w' => x = .panicked [{ v := .iface u pv, recovered := false }] ∧ Turn [B] w w' := by
  have hb := born_alloc w #[.int .i64 0, .int .i64 0, .slice none 0 0] 72
  dsimp only at hb
  have hk := Keeps.alloc (Keeps.refl w) (.cells #[.int .i64 0, .int .i64 0, .slice none 0 0] 72)
  have HG := hide (fun (w' : World) (ht : Turn [B] w w') => ht.cell (p := ⟨0, 0, none⟩) (by simpa using hgB) hv)
  have HS : Hid (RS w (w.alloc (.cells #[.int .i64 0, .int .i64 0, .slice none 0 0] 72)) B b off L cap 0 w.heap.size [.int .i64 0, .int .i64 0, .slice none 0 0]) :=
    ⟨⟨hk.cell hr.data, hk.cell hr.place, by rw [hk.oldF _ _ hBl]; exact hr.free⟩, hc.kept hk, hb.toOwn, Turn.of_keeps hk [B], Nat.le_refl _, hBl, hbl, hB⟩
  have HCap := hide hcap
  have HCm := hide hcm
  have HGB := hide hgB
  clear hb hk hv hr hc hgB hcm
  have hn1 : ((L.length : Int) == 128) = true := by rw [h128]; rfl
  have HL : Hid (L.length ≤ 16777216) := by show _ ≤ _; omega
  have HL128 := hide h128
  have HP : Hid (∀ p s : Nat, p + s ≤ 128 → p + s ≤ L.length) := fun p s h => by omega
  have HC8 : Hid (∀ p : Nat, p < 128 → p < cap) := fun p h => by omega
  have d0 := HS.out.rd.data
  clear hcap
  have Nz := hide ez
  have Nq := hide eq
  have Ne := hide ee
  have Nn := hide en
  have Nq2 := hide eq2
  have Ne2 := hide ee2
  clear h128 ez eq ee en eq2 ee2
  have hz2 : ((z : Int) == 74) = false := beq_eq_false_iff_ne.2 (by omega)
  clear hz
  go_enter Tryz.func112, Tryz.ntmps112
  go_wp2_with fail
  go_at_call 109
  refine (number_t B b off L cap 0 1 z Nz.out _ HS.out.rd hB HS.out.cells HL.out HCap.out HCm.out (by decide) (by decide) (HP.out 0 1 (by decide))).mono ?_
  rintro e w1 ⟨rfl, hr1, ht1⟩
  replace HS := hide (HS.out.num hr1 ht1)
  have hz12 : w.heap.size < w1.heap.size := by have := ht1.size; simp at this; omega
  clear hr1 ht1 d0
  simp only [Nat.zero_add] at HS
  go_wp2_with fail
  go_at_call 108
  refine (insist_no _ u pv (HG.out _ HS.out.turn)).mono ?_
  rintro e w' ⟨rfl, rfl⟩
  exact ⟨rfl, rfl, HS.out.turn⟩
set_option maxHeartbeats 8000000 in
theorem sector_size (B b off : Nat) (L : List UInt8) (cap : Nat) (w : World) (u : TypeId) (pv : Value) (hv : w.cell? ⟨0, 0, none⟩ = some (.iface u pv)) (hgB : 0 ≠ B) (hr : Rd w B (some ⟨b, off, none⟩) L cap (0 : Nat)) (hB : b ≠ B) (hBl : B < w.heap.size) (hbl : b < w.heap.size) (hc : Cells w (some ⟨b, off, none⟩) (bys L)) (hcap : L.length ≤ cap) (hcm : cap ≤ 9223372036854775807) (h128 : L.length = 128) (z q e n q2 e2 : Nat) (ez : numL (cut L 0 1) = z) (eq : numL (cut L 1 3) = q) (ee : numL (cut L 4 3) = e) (en : numL (cut L 7 1) = n) (eq2 : numL (cut L 122 3) = q2) (ee2 : numL (cut L 125 3) = e2) (hz : z = 74) (hn : ¬ n ≤ 100) :
    Calls Tryz.prog 112 #[.pointer (some ⟨B, 0, none⟩)] w fun x w' => x = .panicked [{ v := .iface u pv, recovered := false }] ∧ Turn [B] w w' := by
  have hb := born_alloc w #[.int .i64 0, .int .i64 0, .slice none 0 0] 72
  dsimp only at hb
  have hk := Keeps.alloc (Keeps.refl w) (.cells #[.int .i64 0, .int .i64 0, .slice none 0 0] 72)
  have HG := hide (fun (w' : World) (ht : Turn [B] w w') => ht.cell (p := ⟨0, 0, none⟩) (by simpa using hgB) hv)
  have HS : Hid (RS w (w.alloc (.cells #[.int .i64 0, .int .i64 0, .slice none 0 0] 72)) B b off L cap 0 w.heap.size [.int .i64 0, .int .i64 0, .slice none 0 0]) :=
    ⟨⟨hk.cell hr.data, hk.cell hr.place, by rw [hk.oldF _ _ hBl]; exact hr.free⟩, hc.kept hk, hb.toOwn, Turn.of_keeps hk [B], Nat.le_refl _, hBl, hbl, hB⟩
  have HCap := hide hcap
  have HCm := hide hcm
  have HGB := hide hgB
  clear hb hk hv hr hc hgB hcm
  have hn1 : ((L.length : Int) == 128) = true := by rw [h128]; rfl
  have HL : Hid (L.length ≤ 16777216) := by show _ ≤ _; omega
  have HL128 := hide h128
  have HP : Hid (∀ p s : Nat, p + s ≤ 128 → p + s ≤ L.length) := fun p s h => by omega
  have HC8 : Hid (∀ p : Nat, p < 128 → p < cap) := fun p h => by omega
  have d0 := HS.out.rd.data
  clear hcap
  have Nz := hide ez
  have Nq := hide eq
  have Ne := hide ee
  have Nn := hide en
  have Nq2 := hide eq2
  have Ne2 := hide ee2
  clear h128 ez eq ee en eq2 ee2
  have hz2 : ((z : Int) == 74) = true := by rw [hz]; rfl
  clear hz
  have HN := hide hn
  clear hn
  go_enter Tryz.func112, Tryz.ntmps112
  go_wp2_with fail
  go_at_call 109
  refine (number_t B b off L cap 0 1 z Nz.out _ HS.out.rd hB HS.out.cells HL.out HCap.out HCm.out (by decide) (by decide) (HP.out 0 1 (by decide))).mono ?_
  rintro e w1 ⟨rfl, hr1, ht1⟩
  replace HS := hide (HS.out.num hr1 ht1)
  have hz12 : w.heap.size < w1.heap.size := by have := ht1.size; simp at this; omega
  clear hr1 ht1 d0
  simp only [Nat.zero_add] at HS
  go_wp2_with fail
  go_at_call 108
  refine (insist_yes _).mono ?_
  rintro e w' ⟨rfl, hw'⟩
  obtain rfl := Eq.symm hw'
  clear hw'
  have hbV := born_alloc w1 #[.int .i64 0, .int .i64 0, .slice none 0 0] 72
  dsimp only at hbV
  have hkV := Keeps.alloc (Keeps.refl w1) (.cells #[.int .i64 0, .int .i64 0, .slice none 0 0] 72)
  have HT : Hid (RS w (w1.alloc (.cells #[.int .i64 0, .int .i64 0, .slice none 0 0] 72)) B b off L cap 1 w1.heap.size [.int .i64 0, .int .i64 0, .slice none 0 0]) :=
    ⟨(HS.out.kept hkV).rd, (HS.out.kept hkV).cells, hbV.toOwn, (HS.out.kept hkV).turn, Nat.le_trans (Nat.le_of_lt hz12) (Nat.le_refl _), HS.out.oldB, HS.out.oldb, HS.out.ne⟩
  replace HS := hide (HS.out.kept hkV)
  have HVL : Hid (w1.heap.size < (w1.alloc (.cells #[.int .i64 0, .int .i64 0, .slice none 0 0] 72)).heap.size) := by show _ < _; simp
  clear hbV hkV
  go_wp2_with fail
  generalize w1.alloc (.cells #[.int .i64 0, .int .i64 0, .slice none 0 0] 72) = w2 at *
  generalize hV : w1.heap.size = V at *
  clear hV w1
  go_at_call 109
  refine (number_t B b off L cap 1 3 q Nq.out _ HS.out.rd hB HS.out.cells HL.out HCap.out HCm.out (by decide) (by decide) (HP.out 1 3 (by decide))).mono ?_
  rintro x w3 ⟨rfl, hr1, ht1⟩
  replace HS := hide (HS.out.num hr1 ht1)
  replace HT := hide (HT.out.num hr1 ht1)
  replace HVL : Hid (V < w3.heap.size) := Nat.lt_of_lt_of_le HVL.out ht1.size
  clear hr1 ht1
  simp only [Nat.reduceAdd] at HS HT
  have cV := HT.out.cell 0 (by simp) (v := .int .i64 0) rfl
  have fV := HT.out.free (by simp) 0
  replace HT := hide (HT.out.set 0 (by simp) (.int .i64 (q : Int)) (ys := [.int .i64 (q : Int), .int .i64 0, .slice none 0 0]) rfl)
  replace HS := hide (HS.out.other (V' := V) (i := 0) (Nat.ne_of_gt hz12) (Nat.le_of_lt hz12) (.int .i64 (q : Int)))
  replace HVL : Hid (V < (w3.setCell ⟨V, 0, none⟩ (.int .i64 (q : Int))).heap.size) := by show _ < _; rw [nblk_setCell]; exact HVL.out
  go_wp2_with fail
  clear cV fV
  generalize w3.setCell ⟨V, 0, none⟩ (.int .i64 (q : Int)) = w4 at *
  clear w2 w3
  go_at_call 109
  refine (number_t B b off L cap 4 3 e Ne.out _ HS.out.rd hB HS.out.cells HL.out HCap.out HCm.out (by decide) (by decide) (HP.out 4 3 (by decide))).mono ?_
  rintro x w5 ⟨rfl, hr1, ht1⟩
  replace HS := hide (HS.out.num hr1 ht1)
  replace HT := hide (HT.out.num hr1 ht1)
  replace HVL : Hid (V < w5.heap.size) := Nat.lt_of_lt_of_le HVL.out ht1.size
  clear hr1 ht1
  simp only [Nat.reduceAdd] at HS HT
  have cV := HT.out.cell 1 (by simp) (v := .int .i64 0) rfl
  have fV := HT.out.free (by simp) 1
  replace HT := hide (HT.out.set 1 (by simp) (.int .i64 (e : Int)) (ys := [.int .i64 (q : Int), .int .i64 (e : Int), .slice none 0 0]) rfl)
  replace HS := hide (HS.out.other (V' := V) (i := 1) (Nat.ne_of_gt hz12) (Nat.le_of_lt hz12) (.int .i64 (e : Int)))
  replace HVL : Hid (V < (w5.setCell ⟨V, 1, none⟩ (.int .i64 (e : Int))).heap.size) := by show _ < _; rw [nblk_setCell]; exact HVL.out
  go_wp2_with fail
  clear cV fV
  generalize w5.setCell ⟨V, 1, none⟩ (.int .i64 (e : Int)) = w6 at *
  clear w4 w5
  go_at_call 109
  refine (number_t B b off L cap 7 1 n Nn.out _ HS.out.rd hB HS.out.cells HL.out HCap.out HCm.out (by decide) (by decide) (HP.out 7 1 (by decide))).mono ?_
  rintro x w7 ⟨rfl, hr1, ht1⟩
  replace HS := hide (HS.out.num hr1 ht1)
  replace HT := hide (HT.out.num hr1 ht1)
  replace HVL : Hid (V < w7.heap.size) := Nat.lt_of_lt_of_le HVL.out ht1.size
  clear hr1 ht1
  simp only [Nat.reduceAdd] at HS HT
  have hn2 : decide ((n : Int) ≤ 100) = false := decide_eq_false (by have := HN.out; omega)
  go_wp2_with fail
  go_at_call 108
  refine (insist_no _ u pv (HG.out _ HS.out.turn)).mono ?_
  rintro e w' ⟨rfl, rfl⟩
  exact ⟨rfl, rfl, HS.out.turn⟩
set_option maxHeartbeats 8000000 in
theorem sector_zeros (B b off : Nat) (L : List UInt8) (cap : Nat) (w : World) (u : TypeId) (pv : Value) (hv : w.cell? ⟨0, 0, none⟩ = some (.iface u pv)) (hgB : 0 ≠ B) (hr : Rd w B (some ⟨b, off, none⟩) L cap (0 : Nat)) (hB : b ≠ B) (hBl : B < w.heap.size) (hbl : b < w.heap.size) (hc : Cells w (some ⟨b, off, none⟩) (bys L)) (hcap : L.length ≤ cap) (hcm : cap ≤ 9223372036854775807) (h128 : L.length = 128) (z q e n q2 e2 : Nat) (ez : numL (cut L 0 1) = z) (eq : numL (cut L 1 3) = q) (ee : numL (cut L 4 3) = e) (en : numL (cut L 7 1) = n) (eq2 : numL (cut L 122 3) = q2) (ee2 : numL (cut L 125 3) = e2) (hz : z = 74) (hn : n ≤ 100) (hzr : cut L (8 + n) (114 - n) ≠ List.replicate (114 - n) 0) :
    Calls Tryz.prog 112 #[.pointer (some ⟨B, 0, none⟩)] w fun x w' => x = .panicked [{ v := .iface u pv, recovered := false }] ∧ Turn [B] w w' := by
  have hb := born_alloc w #[.int .i64 0, .int .i64 0, .slice none 0 0] 72
  dsimp only at hb
  have hk := Keeps.alloc (Keeps.refl w) (.cells #[.int .i64 0, .int .i64 0, .slice none 0 0] 72)
  have HG := hide (fun (w' : World) (ht : Turn [B] w w') => ht.cell (p := ⟨0, 0, none⟩) (by simpa using hgB) hv)
  have HS : Hid (RS w (w.alloc (.cells #[.int .i64 0, .int .i64 0, .slice none 0 0] 72)) B b off L cap 0 w.heap.size [.int .i64 0, .int .i64 0, .slice none 0 0]) :=
    ⟨⟨hk.cell hr.data, hk.cell hr.place, by rw [hk.oldF _ _ hBl]; exact hr.free⟩, hc.kept hk, hb.toOwn, Turn.of_keeps hk [B], Nat.le_refl _, hBl, hbl, hB⟩
  have HCap := hide hcap
  have HCm := hide hcm
  have HGB := hide hgB
  clear hb hk hv hr hc hgB hcm
  have hn1 : ((L.length : Int) == 128) = true := by rw [h128]; rfl
  have HL : Hid (L.length ≤ 16777216) := by show _ ≤ _; omega
  have HL128 := hide h128
  have HP : Hid (∀ p s : Nat, p + s ≤ 128 → p + s ≤ L.length) := fun p s h => by omega
  have HC8 : Hid (∀ p : Nat, p < 128 → p < cap) := fun p h => by omega
  have d0 := HS.out.rd.data
  clear hcap
  have Nz := hide ez
  have Nq := hide eq
  have Ne := hide ee
  have Nn := hide en
  have Nq2 := hide eq2
  have Ne2 := hide ee2
  clear h128 ez eq ee en eq2 ee2
  have hz2 : ((z : Int) == 74) = true := by rw [hz]; rfl
  clear hz
  have HZR := hide hzr
  clear hzr
  have HN := hide hn
  clear hn
  go_enter Tryz.func112, Tryz.ntmps112
  go_wp2_with fail
  go_at_call 109
  refine (number_t B b off L cap 0 1 z Nz.out _ HS.out.rd hB HS.out.cells HL.out HCap.out HCm.out (by decide) (by decide) (HP.out 0 1 (by decide))).mono ?_
  rintro e w1 ⟨rfl, hr1, ht1⟩
  replace HS := hide (HS.out.num hr1 ht1)
  have hz12 : w.heap.size < w1.heap.size := by have := ht1.size; simp at this; omega
  clear hr1 ht1 d0
  simp only [Nat.zero_add] at HS
  go_wp2_with fail
  go_at_call 108
  refine (insist_yes _).mono ?_
  rintro e w' ⟨rfl, hw'⟩
  obtain rfl := Eq.symm hw'
  clear hw'
  have hbV := born_alloc w1 #[.int .i64 0, .int .i64 0, .slice none 0 0] 72
  dsimp only at hbV
  have hkV := Keeps.alloc (Keeps.refl w1) (.cells #[.int .i64 0, .int .i64 0, .slice none 0 0] 72)
  have HT : Hid (RS w (w1.alloc (.cells #[.int .i64 0, .int .i64 0, .slice none 0 0] 72)) B b off L cap 1 w1.heap.size [.int .i64 0, .int .i64 0, .slice none 0 0]) :=
    ⟨(HS.out.kept hkV).rd, (HS.out.kept hkV).cells, hbV.toOwn, (HS.out.kept hkV).turn, Nat.le_trans (Nat.le_of_lt hz12) (Nat.le_refl _), HS.out.oldB, HS.out.oldb, HS.out.ne⟩
  replace HS := hide (HS.out.kept hkV)
  have HVL : Hid (w1.heap.size < (w1.alloc (.cells #[.int .i64 0, .int .i64 0, .slice none 0 0] 72)).heap.size) := by show _ < _; simp
  clear hbV hkV
  go_wp2_with fail
  generalize w1.alloc (.cells #[.int .i64 0, .int .i64 0, .slice none 0 0] 72) = w2 at *
  generalize hV : w1.heap.size = V at *
  clear hV w1
  go_at_call 109
  refine (number_t B b off L cap 1 3 q Nq.out _ HS.out.rd hB HS.out.cells HL.out HCap.out HCm.out (by decide) (by decide) (HP.out 1 3 (by decide))).mono ?_
  rintro x w3 ⟨rfl, hr1, ht1⟩
  replace HS := hide (HS.out.num hr1 ht1)
  replace HT := hide (HT.out.num hr1 ht1)
  replace HVL : Hid (V < w3.heap.size) := Nat.lt_of_lt_of_le HVL.out ht1.size
  clear hr1 ht1
  simp only [Nat.reduceAdd] at HS HT
  have cV := HT.out.cell 0 (by simp) (v := .int .i64 0) rfl
  have fV := HT.out.free (by simp) 0
  replace HT := hide (HT.out.set 0 (by simp) (.int .i64 (q : Int)) (ys := [.int .i64 (q : Int), .int .i64 0, .slice none 0 0]) rfl)
  replace HS := hide (HS.out.other (V' := V) (i := 0) (Nat.ne_of_gt hz12) (Nat.le_of_lt hz12) (.int .i64 (q : Int)))
  replace HVL : Hid (V < (w3.setCell ⟨V, 0, none⟩ (.int .i64 (q : Int))).heap.size) := by show _ < _; rw [nblk_setCell]; exact HVL.out
  go_wp2_with fail
  clear cV fV
  generalize w3.setCell ⟨V, 0, none⟩ (.int .i64 (q : Int)) = w4 at *
  clear w2 w3
  go_at_call 109
  refine (number_t B b off L cap 4 3 e Ne.out _ HS.out.rd hB HS.out.cells HL.out HCap.out HCm.out (by decide) (by decide) (HP.out 4 3 (by decide))).mono ?_
  rintro x w5 ⟨rfl, hr1, ht1⟩
  replace HS := hide (HS.out.num hr1 ht1)
  replace HT := hide (HT.out.num hr1 ht1)
  replace HVL : Hid (V < w5.heap.size) := Nat.lt_of_lt_of_le HVL.out ht1.size
  clear hr1 ht1
  simp only [Nat.reduceAdd] at HS HT
  have cV := HT.out.cell 1 (by simp) (v := .int .i64 0) rfl
  have fV := HT.out.free (by simp) 1
  replace HT := hide (HT.out.set 1 (by simp) (.int .i64 (e : Int)) (ys := [.int .i64 (q : Int), .int .i64 (e : Int), .slice none 0 0]) rfl)
  replace HS := hide (HS.out.other (V' := V) (i := 1) (Nat.ne_of_gt hz12) (Nat.le_of_lt hz12) (.int .i64 (e : Int)))
  replace HVL : Hid (V < (w5.setCell ⟨V, 1, none⟩ (.int .i64 (e : Int))).heap.size) := by show _ < _; rw [nblk_setCell]; exact HVL.out
  go_wp2_with fail
  clear cV fV
  generalize w5.setCell ⟨V, 1, none⟩ (.int .i64 (e : Int)) = w6 at *
  clear w4 w5
  go_at_call 109
  refine (number_t B b off L cap 7 1 n Nn.out _ HS.out.rd hB HS.out.cells HL.out HCap.out HCm.out (by decide) (by decide) (HP.out 7 1 (by decide))).mono ?_
  rintro x w7 ⟨rfl, hr1, ht1⟩
  replace HS := hide (HS.out.num hr1 ht1)
  replace HT := hide (HT.out.num hr1 ht1)
  replace HVL : Hid (V < w7.heap.size) := Nat.lt_of_lt_of_le HVL.out ht1.size
  clear hr1 ht1
  simp only [Nat.reduceAdd] at HS HT
  have hn2 : (n : Int) ≤ 100 := by have := HN.out; omega
  go_wp2_with fail
  go_at_call 108
  refine (insist_yes _).mono ?_
  rintro e w' ⟨rfl, hw'⟩
  obtain rfl := Eq.symm hw'
  clear hw'
  have HXL : Hid ((cut L 8 n).length = n) := cut_length (HP.out 8 n (by have := HN.out; omega))
  go_wp2_with fail
  go_at_call 118
  refine (take_t B b off L cap 8 n _ HS.out.rd HL.out HCap.out HCm.out (by have := HN.out; omega) (HP.out 8 n (by have := HN.out; omega)) (HC8.out 8 (by decide))).mono ?_
  rintro x w8 ⟨rfl, hr1, ht1⟩
  replace HS := hide (HS.out.num hr1 ht1)
  replace HT := hide (HT.out.num hr1 ht1)
  replace HVL : Hid (V < w8.heap.size) := Nat.lt_of_lt_of_le HVL.out ht1.size
  clear hr1 ht1
  go_wp2_with fail
  go_at_call 84
  refine (clone_n (some ⟨b, off + 8, none⟩) (cap - 8) n (cut L 8 n) HXL.out _ (cells_cut HS.out.cells 8 n (HP.out 8 n (by have := HN.out; omega))) (fun e => by cases e) (by have := HN.out; rw [HXL.out]; omega)).mono ?_
  rintro x w9 ⟨v, rfl, ho, hk⟩
  obtain ⟨ab, cb, rfl, hnc, hby⟩ := Born.of_owns3 ho
  have HNC := hide hnc
  have HYN : Hid (∀ x ∈ fp [(ab, bys (cut L 8 n))], x ≠ B ∧ x ≠ V ∧ x ≠ w.heap.size ∧ w.heap.size ≤ x) := fun x hx => by
    have h1 := hby.new x hx
    have h2 := HVL.out
    have h3 := HS.out.oldB
    omega
  have HY := hide hby.toOwn
  replace HS := hide (HS.out.kept hk)
  replace HT := hide (HT.out.kept hk)
  replace HVL : Hid (V < w9.heap.size) := Nat.lt_of_lt_of_le HVL.out hk.size
  clear ho hk hnc hby
  have cV := HT.out.cell 2 (by simp) (v := .slice none 0 0) rfl
  have fV := HT.out.free (by simp) 2
  replace HT := hide (HT.out.set 2 (by simp) (.slice ab (cut L 8 n).length cb) (ys := [.int .i64 (q : Int), .int .i64 (e : Int), .slice ab (cut L 8 n).length cb]) rfl)
  replace HS := hide (HS.out.other (V' := V) (i := 2) (Nat.ne_of_gt hz12) (Nat.le_of_lt hz12) (.slice ab (cut L 8 n).length cb))
  replace HY := hide (own_setB (a := ⟨V, 2, none⟩) HY.out (.slice ab (cut L 8 n).length cb) (fun x hx => (HYN.out x hx).2.1))
  have dP := HS.out.rd.place
  go_wp2_with fail
  clear cV fV dP
  generalize w9.setCell ⟨V, 2, none⟩ (.slice ab (cut L 8 n).length cb) = w10 at *
  clear HVL w9
  go_at_call 120
  refine (zeros_no B b off L cap (8 + n) (114 - n) _ (by have := HN.out; omega) _ u pv (HG.out _ HS.out.turn) HGB.out HS.out.rd hB HS.out.cells HL.out HCap.out HCm.out (by omega) (HP.out _ _ (by have := HN.out; omega)) (HC8.out _ (by have := HN.out; omega)) HZR.out).mono ?_
  rintro x w' ⟨rfl, ht⟩
  exact ⟨rfl, rfl, HS.out.turn.trans' ht⟩
set_option maxHeartbeats 8000000 in
theorem sector_seq (B b off : Nat) (L : List UInt8) (cap : Nat) (w : World) (u : TypeId) (pv : Value) (hv : w.cell? ⟨0, 0, none⟩ = some (.iface u pv)) (hgB : 0 ≠ B) (hr : Rd w B (some ⟨b, off, none⟩) L cap (0 : Nat)) (hB : b ≠ B) (hBl : B < w.heap.size) (hbl : b < w.heap.size) (hc : Cells w (some ⟨b, off, none⟩) (bys L)) (hcap : L.length ≤ cap) (hcm : cap ≤ 9223372036854775807) (h128 : L.length = 128) (z q e n q2 e2 : Nat) (ez : numL (cut L 0 1) = z) (eq : numL (cut L 1 3) = q) (ee : numL (cut L 4 3) = e) (en : numL (cut L 7 1) = n) (eq2 : numL (cut L 122 3) = q2) (ee2 : numL (cut L 125 3) = e2) (hz : z = 74) (hn : n ≤ 100) (hzr : cut L (8 + n) (114 - n) = List.replicate (114 - n) 0) (hq2 : q2 ≠ q) :
    Calls Tryz.prog 112 #[.pointer (some ⟨B, 0, none⟩)] w fun x w' => x = .panicked [{ v := .iface u pv, recovered := false }] ∧ Turn [B] w w' := by
  have hb := born_alloc w #[.int .i64 0, .int .i64 0, .slice none 0 0] 72
  dsimp only at hb
  have hk := Keeps.alloc (Keeps.refl w) (.cells #[.int .i64 0, .int .i64 0, .slice none 0 0] 72)
  have HG := hide (fun (w' : World) (ht : Turn [B] w w') => ht.cell (p := ⟨0, 0, none⟩) (by simpa using hgB) hv)
  have HS : Hid (RS w (w.alloc (.cells #[.int .i64 0, .int .i64 0, .slice none 0 0] 72)) B b off L cap 0 w.heap.size [.int .i64 0, .int .i64 0, .slice none 0 0]) :=
    ⟨⟨hk.cell hr.data, hk.cell hr.place, by rw [hk.oldF _ _ hBl]; exact hr.free⟩, hc.kept hk, hb.toOwn, Turn.of_keeps hk [B], Nat.le_refl _, hBl, hbl, hB⟩
  have HCap := hide hcap
  have HCm := hide hcm
  have HGB := hide hgB
  clear hb hk hv hr hc hgB hcm
  have hn1 : ((L.length : Int) == 128) = true := by rw [h128]; rfl
  have HL : Hid (L.length ≤ 16777216) := by show _ ≤ _; omega
  have HL128 := hide h128
  have HP : Hid (∀ p s : Nat, p + s ≤ 128 → p + s ≤ L.length) := fun p s h => by omega
  have HC8 : Hid (∀ p : Nat, p < 128 → p < cap) := fun p h => by omega
  have d0 := HS.out.rd.data
  clear hcap
  have Nz := hide ez
  have Nq := hide eq
  have Ne := hide ee
  have Nn := hide en
  have Nq2 := hide eq2
  have Ne2 := hide ee2
  clear h128 ez eq ee en eq2 ee2
  have hz2 : ((z : Int) == 74) = true := by rw [hz]; rfl
  clear hz
  have HZR := hide hzr
  clear hzr
  have HQ2 := hide hq2
  clear hq2
  have HN := hide hn
  clear hn
  go_enter Tryz.func112, Tryz.ntmps112
  go_wp2_with fail
  go_at_call 109
  refine (number_t B b off L cap 0 1 z Nz.out _ HS.out.rd hB HS.out.cells HL.out HCap.out HCm.out (by decide) (by decide) (HP.out 0 1 (by decide))).mono ?_
  rintro e w1 ⟨rfl, hr1, ht1⟩
  replace HS := hide (HS.out.num hr1 ht1)
  have hz12 : w.heap.size < w1.heap.size := by have := ht1.size; simp at this; omega
  clear hr1 ht1 d0
  simp only [Nat.zero_add] at HS
  go_wp2_with fail
  go_at_call 108
  refine (insist_yes _).mono ?_
  rintro e w' ⟨rfl, hw'⟩
  obtain rfl := Eq.symm hw'
  clear hw'
  have hbV := born_alloc w1 #[.int .i64 0, .int .i64 0, .slice none 0 0] 72
  dsimp only at hbV
  have hkV := Keeps.alloc (Keeps.refl w1) (.cells #[.int .i64 0, .int .i64 0, .slice none 0 0] 72)
  have HT : Hid (RS w (w1.alloc (.cells #[.int .i64 0, .int .i64 0, .slice none 0 0] 72)) B b off L cap 1 w1.heap.size [.int .i64 0, .int .i64 0, .slice none 0 0]) :=
    ⟨(HS.out.kept hkV).rd, (HS.out.kept hkV).cells, hbV.toOwn, (HS.out.kept hkV).turn, Nat.le_trans (Nat.le_of_lt hz12) (Nat.le_refl _), HS.out.oldB, HS.out.oldb, HS.out.ne⟩
  replace HS := hide (HS.out.kept hkV)
  have HVL : Hid (w1.heap.size < (w1.alloc (.cells #[.int .i64 0, .int .i64 0, .slice none 0 0] 72)).heap.size) := by show _ < _; simp
  clear hbV hkV
  go_wp2_with fail
  generalize w1.alloc (.cells #[.int .i64 0, .int .i64 0, .slice none 0 0] 72) = w2 at *
  generalize hV : w1.heap.size = V at *
  clear hV w1
  go_at_call 109
  refine (number_t B b off L cap 1 3 q Nq.out _ HS.out.rd hB HS.out.cells HL.out HCap.out HCm.out (by decide) (by decide) (HP.out 1 3 (by decide))).mono ?_
  rintro x w3 ⟨rfl, hr1, ht1⟩
  replace HS := hide (HS.out.num hr1 ht1)
  replace HT := hide (HT.out.num hr1 ht1)
  replace HVL : Hid (V < w3.heap.size) := Nat.lt_of_lt_of_le HVL.out ht1.size
  clear hr1 ht1
  simp only [Nat.reduceAdd] at HS HT
  have cV := HT.out.cell 0 (by simp) (v := .int .i64 0) rfl
  have fV := HT.out.free (by simp) 0
  replace HT := hide (HT.out.set 0 (by simp) (.int .i64 (q : Int)) (ys := [.int .i64 (q : Int), .int .i64 0, .slice none 0 0]) rfl)
  replace HS := hide (HS.out.other (V' := V) (i := 0) (Nat.ne_of_gt hz12) (Nat.le_of_lt hz12) (.int .i64 (q : Int)))
  replace HVL : Hid (V < (w3.setCell ⟨V, 0, none⟩ (.int .i64 (q : Int))).heap.size) := by show _ < _; rw [nblk_setCell]; exact HVL.out
  go_wp2_with fail
  clear cV fV
  generalize w3.setCell ⟨V, 0, none⟩ (.int .i64 (q : Int)) = w4 at *
  clear w2 w3
  go_at_call 109
  refine (number_t B b off L cap 4 3 e Ne.out _ HS.out.rd hB HS.out.cells HL.out HCap.out HCm.out (by decide) (by decide) (HP.out 4 3 (by decide))).mono ?_
  rintro x w5 ⟨rfl, hr1, ht1⟩
  replace HS := hide (HS.out.num hr1 ht1)
  replace HT := hide (HT.out.num hr1 ht1)
  replace HVL : Hid (V < w5.heap.size) := Nat.lt_of_lt_of_le HVL.out ht1.size
  clear hr1 ht1
  simp only [Nat.reduceAdd] at HS HT
  have cV := HT.out.cell 1 (by simp) (v := .int .i64 0) rfl
  have fV := HT.out.free (by simp) 1
  replace HT := hide (HT.out.set 1 (by simp) (.int .i64 (e : Int)) (ys := [.int .i64 (q : Int), .int .i64 (e : Int), .slice none 0 0]) rfl)
  replace HS := hide (HS.out.other (V' := V) (i := 1) (Nat.ne_of_gt hz12) (Nat.le_of_lt hz12) (.int .i64 (e : Int)))
  replace HVL : Hid (V < (w5.setCell ⟨V, 1, none⟩ (.int .i64 (e : Int))).heap.size) := by show _ < _; rw [nblk_setCell]; exact HVL.out
  go_wp2_with fail
  clear cV fV
  generalize w5.setCell ⟨V, 1, none⟩ (.int .i64 (e : Int)) = w6 at *
  clear w4 w5
  go_at_call 109
  refine (number_t B b off L cap 7 1 n Nn.out _ HS.out.rd hB HS.out.cells HL.out HCap.out HCm.out (by decide) (by decide) (HP.out 7 1 (by decide))).mono ?_
  rintro x w7 ⟨rfl, hr1, ht1⟩
  replace HS := hide (HS.out.num hr1 ht1)
  replace HT := hide (HT.out.num hr1 ht1)
  replace HVL : Hid (V < w7.heap.size) := Nat.lt_of_lt_of_le HVL.out ht1.size
  clear hr1 ht1
  simp only [Nat.reduceAdd] at HS HT
  have hn2 : (n : Int) ≤ 100 := by have := HN.out; omega
  go_wp2_with fail
  go_at_call 108
  refine (insist_yes _).mono ?_
  rintro e w' ⟨rfl, hw'⟩
  obtain rfl := Eq.symm hw'
  clear hw'
  have HXL : Hid ((cut L 8 n).length = n) := cut_length (HP.out 8 n (by have := HN.out; omega))
  go_wp2_with fail
  go_at_call 118
  refine (take_t B b off L cap 8 n _ HS.out.rd HL.out HCap.out HCm.out (by have := HN.out; omega) (HP.out 8 n (by have := HN.out; omega)) (HC8.out 8 (by decide))).mono ?_
  rintro x w8 ⟨rfl, hr1, ht1⟩
  replace HS := hide (HS.out.num hr1 ht1)
  replace HT := hide (HT.out.num hr1 ht1)
  replace HVL : Hid (V < w8.heap.size) := Nat.lt_of_lt_of_le HVL.out ht1.size
  clear hr1 ht1
  go_wp2_with fail
  go_at_call 84
  refine (clone_n (some ⟨b, off + 8, none⟩) (cap - 8) n (cut L 8 n) HXL.out _ (cells_cut HS.out.cells 8 n (HP.out 8 n (by have := HN.out; omega))) (fun e => by cases e) (by have := HN.out; rw [HXL.out]; omega)).mono ?_
  rintro x w9 ⟨v, rfl, ho, hk⟩
  obtain ⟨ab, cb, rfl, hnc, hby⟩ := Born.of_owns3 ho
  have HNC := hide hnc
  have HYN : Hid (∀ x ∈ fp [(ab, bys (cut L 8 n))], x ≠ B ∧ x ≠ V ∧ x ≠ w.heap.size ∧ w.heap.size ≤ x) := fun x hx => by
    have h1 := hby.new x hx
    have h2 := HVL.out
    have h3 := HS.out.oldB
    omega
  have HY := hide hby.toOwn
  replace HS := hide (HS.out.kept hk)
  replace HT := hide (HT.out.kept hk)
  replace HVL : Hid (V < w9.heap.size) := Nat.lt_of_lt_of_le HVL.out hk.size
  clear ho hk hnc hby
  have cV := HT.out.cell 2 (by simp) (v := .slice none 0 0) rfl
  have fV := HT.out.free (by simp) 2
  replace HT := hide (HT.out.set 2 (by simp) (.slice ab (cut L 8 n).length cb) (ys := [.int .i64 (q : Int), .int .i64 (e : Int), .slice ab (cut L 8 n).length cb]) rfl)
  replace HS := hide (HS.out.other (V' := V) (i := 2) (Nat.ne_of_gt hz12) (Nat.le_of_lt hz12) (.slice ab (cut L 8 n).length cb))
  replace HY := hide (own_setB (a := ⟨V, 2, none⟩) HY.out (.slice ab (cut L 8 n).length cb) (fun x hx => (HYN.out x hx).2.1))
  have dP := HS.out.rd.place
  go_wp2_with fail
  clear cV fV dP
  generalize w9.setCell ⟨V, 2, none⟩ (.slice ab (cut L 8 n).length cb) = w10 at *
  clear HVL w9
  go_at_call 120
  refine (zeros_yes B b off L cap (8 + n) (114 - n) _ (by have := HN.out; omega) _ HS.out.rd hB HS.out.cells HL.out HCap.out HCm.out (by omega) (HP.out _ _ (by have := HN.out; omega)) (HC8.out _ (by have := HN.out; omega)) HZR.out).mono ?_
  rintro x w11 ⟨rfl, hr1, ht1⟩
  rw [show 8 + n + (114 - n) = 122 by have := HN.out; omega] at hr1
  replace HS := hide (HS.out.num hr1 ht1)
  replace HT := hide (HT.out.num hr1 ht1)
  replace HY := hide (own_turnB HY.out ht1 (fun x hx => (HYN.out x hx).1))
  clear hr1 ht1 w10
  have hcmp : (((q2 : Nat) : Int) == (q : Int)) = false := beq_eq_false_iff_ne.2 (by have := HQ2.out; omega)
  have cV := HT.out.cell 0 (by simp) (v := .int .i64 (q : Int)) rfl
  go_wp2_with fail
  go_region_held (fun w' => w'.cell? ⟨V, 0, none⟩ = some (.int .i64 (q : Int))) (go_keep)
    (first
       | (go_at_call 109
          refine (number_t B b off L cap 122 3 q2 Nq2.out _ HS.out.drew.rd hB HS.out.drew.cells HL.out HCap.out HCm.out (by decide) (by decide) (HP.out 122 3 (by decide))).mono ?_
          rintro x w12 ⟨rfl, hr1, ht1⟩
          replace HS := hide (HS.out.drew.num hr1 ht1)
          replace HT := hide (HT.out.drew.num hr1 ht1)
          replace HY := hide (own_turnB (HY.out.kept (Keeps.drew (Keeps.refl w11))) ht1 (fun x hx => (HYN.out x hx).1))
          clear hr1 ht1 cV
          have cV := HT.out.cell 0 (by simp) (v := .int .i64 (q : Int)) rfl)
       | (go_at_call 108
          refine (insist_no _ u pv (HG.out _ HS.out.turn)).mono ?_
          rintro x w' ⟨rfl, rfl⟩
          refine dead (by assumption) { tmps := #[], defers := [] } w' ⟨rfl, rfl, HS.out.turn⟩ (fun hF => ?_)))
  exact (by assumption : Shut False).out.elim
set_option maxHeartbeats 8000000 in
theorem sector_epoch (B b off : Nat) (L : List UInt8) (cap : Nat) (w : World) (u : TypeId) (pv : Value) (hv : w.cell? ⟨0, 0, none⟩ = some (.iface u pv)) (hgB : 0 ≠ B) (hr : Rd w B (some ⟨b, off, none⟩) L cap (0 : Nat)) (hB : b ≠ B) (hBl : B < w.heap.size) (hbl : b < w.heap.size) (hc : Cells w (some ⟨b, off, none⟩) (bys L)) (hcap : L.length ≤ cap) (hcm : cap ≤ 9223372036854775807) (h128 : L.length = 128) (z q e n q2 e2 : Nat) (ez : numL (cut L 0 1) = z) (eq : numL (cut L 1 3) = q) (ee : numL (cut L 4 3) = e) (en : numL (cut L 7 1) = n) (eq2 : numL (cut L 122 3) = q2) (ee2 : numL (cut L 125 3) = e2) (hz : z = 74) (hn : n ≤ 100) (hzr : cut L (8 + n) (114 - n) = List.replicate (114 - n) 0) (hq2 : q2 = q) (he2 : e2 ≠ e) :
    Calls Tryz.prog 112 #[.pointer (some ⟨B, 0, none⟩)] w fun x w' => x = .panicked [{ v := .iface u pv, recovered := false }] ∧ Turn [B] w w' := by
  have hb := born_alloc w #[.int .i64 0, .int .i64 0, .slice none 0 0] 72
  dsimp only at hb
  have hk := Keeps.alloc (Keeps.refl w) (.cells #[.int .i64 0, .int .i64 0, .slice none 0 0] 72)
  have HG := hide (fun (w' : World) (ht : Turn [B] w w') => ht.cell (p := ⟨0, 0, none⟩) (by simpa using hgB) hv)
  have HS : Hid (RS w (w.alloc (.cells #[.int .i64 0, .int .i64 0, .slice none 0 0] 72)) B b off L cap 0 w.heap.size [.int .i64 0, .int .i64 0, .slice none 0 0]) :=
    ⟨⟨hk.cell hr.data, hk.cell hr.place, by rw [hk.oldF _ _ hBl]; exact hr.free⟩, hc.kept hk, hb.toOwn, Turn.of_keeps hk [B], Nat.le_refl _, hBl, hbl, hB⟩
  have HCap := hide hcap
  have HCm := hide hcm
  have HGB := hide hgB
  clear hb hk hv hr hc hgB hcm
  have hn1 : ((L.length : Int) == 128) = true := by rw [h128]; rfl
  have HL : Hid (L.length ≤ 16777216) := by show _ ≤ _; omega
  have HL128 := hide h128
  have HP : Hid (∀ p s : Nat, p + s ≤ 128 → p + s ≤ L.length) := fun p s h => by omega
  have HC8 : Hid (∀ p : Nat, p < 128 → p < cap) := fun p h => by omega
  have d0 := HS.out.rd.data
  clear hcap
  have Nz := hide ez
  have Nq := hide eq
  have Ne := hide ee
  have Nn := hide en
  have Nq2 := hide eq2
  have Ne2 := hide ee2
  clear h128 ez eq ee en eq2 ee2
  have hz2 : ((z : Int) == 74) = true := by rw [hz]; rfl
  clear hz
  have HZR := hide hzr
  clear hzr
  have HQ2 := hide hq2
  clear hq2
  have HE2 := hide he2
  clear he2
  have HN := hide hn
  clear hn
  go_enter Tryz.func112, Tryz.ntmps112
  go_wp2_with fail
  go_at_call 109
  refine (number_t B b off L cap 0 1 z Nz.out _ HS.out.rd hB HS.out.cells HL.out HCap.out HCm.out (by decide) (by decide) (HP.out 0 1 (by decide))).mono ?_
  rintro e w1 ⟨rfl, hr1, ht1⟩
  replace HS := hide (HS.out.num hr1 ht1)
  have hz12 : w.heap.size < w1.heap.size := by have := ht1.size; simp at this; omega
  clear hr1 ht1 d0
  simp only [Nat.zero_add] at HS
  go_wp2_with fail
  go_at_call 108
  refine (insist_yes _).mono ?_
  rintro e w' ⟨rfl, hw'⟩
  obtain rfl := Eq.symm hw'
  clear hw'
  have hbV := born_alloc w1 #[.int .i64 0, .int .i64 0, .slice none 0 0] 72
  dsimp only at hbV
  have hkV := Keeps.alloc (Keeps.refl w1) (.cells #[.int .i64 0, .int .i64 0, .slice none 0 0] 72)
  have HT : Hid (RS w (w1.alloc (.cells #[.int .i64 0, .int .i64 0, .slice none 0 0] 72)) B b off L cap 1 w1.heap.size [.int .i64 0, .int .i64 0, .slice none 0 0]) :=
    ⟨(HS.out.kept hkV).rd, (HS.out.kept hkV).cells, hbV.toOwn, (HS.out.kept hkV).turn, Nat.le_trans (Nat.le_of_lt hz12) (Nat.le_refl _), HS.out.oldB, HS.out.oldb, HS.out.ne⟩
  replace HS := hide (HS.out.kept hkV)
  have HVL : Hid (w1.heap.size < (w1.alloc (.cells #[.int .i64 0, .int .i64 0, .slice none 0 0] 72)).heap.size) := by show _ < _; simp
  clear hbV hkV
  go_wp2_with fail
  generalize w1.alloc (.cells #[.int .i64 0, .int .i64 0, .slice none 0 0] 72) = w2 at *
  generalize hV : w1.heap.size = V at *
  clear hV w1
  go_at_call 109
  refine (number_t B b off L cap 1 3 q Nq.out _ HS.out.rd hB HS.out.cells HL.out HCap.out HCm.out (by decide) (by decide) (HP.out 1 3 (by decide))).mono ?_
  rintro x w3 ⟨rfl, hr1, ht1⟩
  replace HS := hide (HS.out.num hr1 ht1)
  replace HT := hide (HT.out.num hr1 ht1)
  replace HVL : Hid (V < w3.heap.size) := Nat.lt_of_lt_of_le HVL.out ht1.size
  clear hr1 ht1
  simp only [Nat.reduceAdd] at HS HT
  have cV := HT.out.cell 0 (by simp) (v := .int .i64 0) rfl
  have fV := HT.out.free (by simp) 0
  replace HT := hide (HT.out.set 0 (by simp) (.int .i64 (q : Int)) (ys := [.int .i64 (q : Int), .int .i64 0, .slice none 0 0]) rfl)
  replace HS := hide (HS.out.other (V' := V) (i := 0) (Nat.ne_of_gt hz12) (Nat.le_of_lt hz12) (.int .i64 (q : Int)))
  replace HVL : Hid (V < (w3.setCell ⟨V, 0, none⟩ (.int .i64 (q : Int))).heap.size) := by show _ < _; rw [nblk_setCell]; exact HVL.out
  go_wp2_with fail
  clear cV fV
  generalize w3.setCell ⟨V, 0, none⟩ (.int .i64 (q : Int)) = w4 at *
  clear w2 w3
  go_at_call 109
  refine (number_t B b off L cap 4 3 e Ne.out _ HS.out.rd hB HS.out.cells HL.out HCap.out HCm.out (by decide) (by decide) (HP.out 4 3 (by decide))).mono ?_
  rintro x w5 ⟨rfl, hr1, ht1⟩
  replace HS := hide (HS.out.num hr1 ht1)
  replace HT := hide (HT.out.num hr1 ht1)
  replace HVL : Hid (V < w5.heap.size) := Nat.lt_of_lt_of_le HVL.out ht1.size
  clear hr1 ht1
  simp only [Nat.reduceAdd] at HS HT
  have cV := HT.out.cell 1 (by simp) (v := .int .i64 0) rfl
  have fV := HT.out.free (by simp) 1
  replace HT := hide (HT.out.set 1 (by simp) (.int .i64 (e : Int)) (ys := [.int .i64 (q : Int), .int .i64 (e : Int), .slice none 0 0]) rfl)
  replace HS := hide (HS.out.other (V' := V) (i := 1) (Nat.ne_of_gt hz12) (Nat.le_of_lt hz12) (.int .i64 (e : Int)))
  replace HVL : Hid (V < (w5.setCell ⟨V, 1, none⟩ (.int .i64 (e : Int))).heap.size) := by show _ < _; rw [nblk_setCell]; exact HVL.out
  go_wp2_with fail
  clear cV fV
  generalize w5.setCell ⟨V, 1, none⟩ (.int .i64 (e : Int)) = w6 at *
  clear w4 w5
  go_at_call 109
  refine (number_t B b off L cap 7 1 n Nn.out _ HS.out.rd hB HS.out.cells HL.out HCap.out HCm.out (by decide) (by decide) (HP.out 7 1 (by decide))).mono ?_
  rintro x w7 ⟨rfl, hr1, ht1⟩
  replace HS := hide (HS.out.num hr1 ht1)
  replace HT := hide (HT.out.num hr1 ht1)
  replace HVL : Hid (V < w7.heap.size) := Nat.lt_of_lt_of_le HVL.out ht1.size
  clear hr1 ht1
  simp only [Nat.reduceAdd] at HS HT
  have hn2 : (n : Int) ≤ 100 := by have := HN.out; omega
  go_wp2_with fail
  go_at_call 108
  refine (insist_yes _).mono ?_
  rintro e w' ⟨rfl, hw'⟩
  obtain rfl := Eq.symm hw'
  clear hw'
  have HXL : Hid ((cut L 8 n).length = n) := cut_length (HP.out 8 n (by have := HN.out; omega))
  go_wp2_with fail
  go_at_call 118
  refine (take_t B b off L cap 8 n _ HS.out.rd HL.out HCap.out HCm.out (by have := HN.out; omega) (HP.out 8 n (by have := HN.out; omega)) (HC8.out 8 (by decide))).mono ?_
  rintro x w8 ⟨rfl, hr1, ht1⟩
  replace HS := hide (HS.out.num hr1 ht1)
  replace HT := hide (HT.out.num hr1 ht1)
  replace HVL : Hid (V < w8.heap.size) := Nat.lt_of_lt_of_le HVL.out ht1.size
  clear hr1 ht1
  go_wp2_with fail
  go_at_call 84
  refine (clone_n (some ⟨b, off + 8, none⟩) (cap - 8) n (cut L 8 n) HXL.out _ (cells_cut HS.out.cells 8 n (HP.out 8 n (by have := HN.out; omega))) (fun e => by cases e) (by have := HN.out; rw [HXL.out]; omega)).mono ?_
  rintro x w9 ⟨v, rfl, ho, hk⟩
  obtain ⟨ab, cb, rfl, hnc, hby⟩ := Born.of_owns3 ho
  have HNC := hide hnc
  have HYN : Hid (∀ x ∈ fp [(ab, bys (cut L 8 n))], x ≠ B ∧ x ≠ V ∧ x ≠ w.heap.size ∧ w.heap.size ≤ x) := fun x hx => by
    have h1 := hby.new x hx
    have h2 := HVL.out
    have h3 := HS.out.oldB
    omega
  have HY := hide hby.toOwn
  replace HS := hide (HS.out.kept hk)
  replace HT := hide (HT.out.kept hk)
  replace HVL : Hid (V < w9.heap.size) := Nat.lt_of_lt_of_le HVL.out hk.size
  clear ho hk hnc hby
  have cV := HT.out.cell 2 (by simp) (v := .slice none 0 0) rfl
  have fV := HT.out.free (by simp) 2
  replace HT := hide (HT.out.set 2 (by simp) (.slice ab (cut L 8 n).length cb) (ys := [.int .i64 (q : Int), .int .i64 (e : Int), .slice ab (cut L 8 n).length cb]) rfl)
  replace HS := hide (HS.out.other (V' := V) (i := 2) (Nat.ne_of_gt hz12) (Nat.le_of_lt hz12) (.slice ab (cut L 8 n).length cb))
  replace HY := hide (own_setB (a := ⟨V, 2, none⟩) HY.out (.slice ab (cut L 8 n).length cb) (fun x hx => (HYN.out x hx).2.1))
  have dP := HS.out.rd.place
  go_wp2_with fail
  clear cV fV dP
  generalize w9.setCell ⟨V, 2, none⟩ (.slice ab (cut L 8 n).length cb) = w10 at *
  clear HVL w9
  go_at_call 120
  refine (zeros_yes B b off L cap (8 + n) (114 - n) _ (by have := HN.out; omega) _ HS.out.rd hB HS.out.cells HL.out HCap.out HCm.out (by omega) (HP.out _ _ (by have := HN.out; omega)) (HC8.out _ (by have := HN.out; omega)) HZR.out).mono ?_
  rintro x w11 ⟨rfl, hr1, ht1⟩
  rw [show 8 + n + (114 - n) = 122 by have := HN.out; omega] at hr1
  replace HS := hide (HS.out.num hr1 ht1)
  replace HT := hide (HT.out.num hr1 ht1)
  replace HY := hide (own_turnB HY.out ht1 (fun x hx => (HYN.out x hx).1))
  clear hr1 ht1 w10
  have hcmp : (((q2 : Nat) : Int) == (q : Int)) = true := by rw [HQ2.out]; simp
  have cV := HT.out.cell 0 (by simp) (v := .int .i64 (q : Int)) rfl
  go_wp2_with fail
  go_region_held3 (fun w' => w'.cell? ⟨V, 0, none⟩ = some (.int .i64 (q : Int))) (go_keep)
    (first
       | (go_at_call 109
          refine (number_t B b off L cap 122 3 q2 Nq2.out _ HS.out.drew.rd hB HS.out.drew.cells HL.out HCap.out HCm.out (by decide) (by decide) (HP.out 122 3 (by decide))).mono ?_
          rintro x w12 ⟨rfl, hr1, ht1⟩
          replace HS := hide (HS.out.drew.num hr1 ht1)
          replace HT := hide (HT.out.drew.num hr1 ht1)
          replace HY := hide (own_turnB (HY.out.kept (Keeps.drew (Keeps.refl w11))) ht1 (fun x hx => (HYN.out x hx).1))
          clear hr1 ht1 cV
          have cV := HT.out.cell 0 (by simp) (v := .int .i64 (q : Int)) rfl)
       | (go_at_call 108
          refine (insist_yes _).mono ?_
          rintro x w' ⟨rfl, hw'⟩
          obtain rfl := Eq.symm hw'
          clear hw'))
  clear cV hcmp
  simp only [Nat.reduceAdd] at HS HT
  have hcmp : (((e2 : Nat) : Int) == (e : Int)) = false := beq_eq_false_iff_ne.2 (by have := HE2.out; omega)
  have cV := HT.out.cell 1 (by simp) (v := .int .i64 (e : Int)) rfl
  go_wp2_with fail
  go_region_held (fun w' => w'.cell? ⟨V, 1, none⟩ = some (.int .i64 (e : Int))) (go_keep)
    (first
       | (go_at_call 109
          refine (number_t B b off L cap 125 3 e2 Ne2.out _ HS.out.drew.rd hB HS.out.drew.cells HL.out HCap.out HCm.out (by decide) (by decide) (HP.out 125 3 (by decide))).mono ?_
          rintro x w13 ⟨rfl, hr1, ht1⟩
          replace HS := hide (HS.out.drew.num hr1 ht1)
          replace HT := hide (HT.out.drew.num hr1 ht1)
          replace HY := hide (own_turnB (HY.out.kept (Keeps.drew (Keeps.refl w12))) ht1 (fun x hx => (HYN.out x hx).1))
          clear hr1 ht1 cV
          have cV := HT.out.cell 1 (by simp) (v := .int .i64 (e : Int)) rfl)
       | (go_at_call 108
          refine (insist_no _ u pv (HG.out _ HS.out.turn)).mono ?_
          rintro x w' ⟨rfl, rfl⟩
          refine dead (by assumption) { tmps := #[], defers := [] } w' ⟨rfl, rfl, HS.out.turn⟩ (fun hF => ?_)))
  exact (by assumption : Shut False).out.elim
set_option maxHeartbeats 8000000 in
theorem sector_ok (B b off : Nat) (L : List UInt8) (cap : Nat) (w : World) (u : TypeId) (pv : Value) (hv : w.cell? ⟨0, 0, none⟩ = some (.iface u pv)) (hgB : 0 ≠ B) (hr : Rd w B (some ⟨b, off, none⟩) L cap (0 : Nat)) (hB : b ≠ B) (hBl : B < w.heap.size) (hbl : b < w.heap.size) (hc : Cells w (some ⟨b, off, none⟩) (bys L)) (hcap : L.length ≤ cap) (hcm : cap ≤ 9223372036854775807) (h128 : L.length = 128) (z q e n q2 e2 : Nat) (ez : numL (cut L 0 1) = z) (eq : numL (cut L 1 3) = q) (ee : numL (cut L 4 3) = e) (en : numL (cut L 7 1) = n) (eq2 : numL (cut L 122 3) = q2) (ee2 : numL (cut L 125 3) = e2) (hz : z = 74) (hn : n ≤ 100) (hzr : cut L (8 + n) (114 - n) = List.replicate (114 - n) 0) (hq2 : q2 = q) (he2 : e2 = e) (hok : secB q e n = false) :
    Calls Tryz.prog 112 #[.pointer (some ⟨B, 0, none⟩)] w fun x w' => x = .panicked [{ v := .iface u pv, recovered := false }] ∧ Turn [B] w w' := by
  have hb := born_alloc w #[.int .i64 0, .int .i64 0, .slice none 0 0] 72
  dsimp only at hb
  have hk := Keeps.alloc (Keeps.refl w) (.cells #[.int .i64 0, .int .i64 0, .slice none 0 0] 72)
  have HG := hide (fun (w' : World) (ht : Turn [B] w w') => ht.cell (p := ⟨0, 0, none⟩) (by simpa using hgB) hv)
  have HS : Hid (RS w (w.alloc (.cells #[.int .i64 0, .int .i64 0, .slice none 0 0] 72)) B b off L cap 0 w.heap.size [.int .i64 0, .int .i64 0, .slice none 0 0]) :=
    ⟨⟨hk.cell hr.data, hk.cell hr.place, by rw [hk.oldF _ _ hBl]; exact hr.free⟩, hc.kept hk, hb.toOwn, Turn.of_keeps hk [B], Nat.le_refl _, hBl, hbl, hB⟩
  have HCap := hide hcap
  have HCm := hide hcm
  have HGB := hide hgB
  clear hb hk hv hr hc hgB hcm
  have hn1 : ((L.length : Int) == 128) = true := by rw [h128]; rfl
  have HL : Hid (L.length ≤ 16777216) := by show _ ≤ _; omega
  have HL128 := hide h128
  have HP : Hid (∀ p s : Nat, p + s ≤ 128 → p + s ≤ L.length) := fun p s h => by omega
  have HC8 : Hid (∀ p : Nat, p < 128 → p < cap) := fun p h => by omega
  have d0 := HS.out.rd.data
  clear hcap
  have Nz := hide ez
  have Nq := hide eq
  have Ne := hide ee
  have Nn := hide en
  have Nq2 := hide eq2
  have Ne2 := hide ee2
  clear h128 ez eq ee en eq2 ee2
  have hz2 : ((z : Int) == 74) = true := by rw [hz]; rfl
  clear hz
  have HZR := hide hzr
  clear hzr
  have HQ2 := hide hq2
  clear hq2
  have HE2 := hide he2
  clear he2
  have HOK := hide hok
  clear hok
  have HN := hide hn
  clear hn
  go_enter Tryz.func112, Tryz.ntmps112
  go_wp2_with fail
  go_at_call 109
  refine (number_t B b off L cap 0 1 z Nz.out _ HS.out.rd hB HS.out.cells HL.out HCap.out HCm.out (by decide) (by decide) (HP.out 0 1 (by decide))).mono ?_
  rintro e w1 ⟨rfl, hr1, ht1⟩
  replace HS := hide (HS.out.num hr1 ht1)
  have hz12 : w.heap.size < w1.heap.size := by have := ht1.size; simp at this; omega
  clear hr1 ht1 d0
  simp only [Nat.zero_add] at HS
  go_wp2_with fail
  go_at_call 108
  refine (insist_yes _).mono ?_
  rintro e w' ⟨rfl, hw'⟩
  obtain rfl := Eq.symm hw'
  clear hw'
  have hbV := born_alloc w1 #[.int .i64 0, .int .i64 0, .slice none 0 0] 72
  dsimp only at hbV
  have hkV := Keeps.alloc (Keeps.refl w1) (.cells #[.int .i64 0, .int .i64 0, .slice none 0 0] 72)
  have HT : Hid (RS w (w1.alloc (.cells #[.int .i64 0, .int .i64 0, .slice none 0 0] 72)) B b off L cap 1 w1.heap.size [.int .i64 0, .int .i64 0, .slice none 0 0]) :=
    ⟨(HS.out.kept hkV).rd, (HS.out.kept hkV).cells, hbV.toOwn, (HS.out.kept hkV).turn, Nat.le_trans (Nat.le_of_lt hz12) (Nat.le_refl _), HS.out.oldB, HS.out.oldb, HS.out.ne⟩
  replace HS := hide (HS.out.kept hkV)
  have HVL : Hid (w1.heap.size < (w1.alloc (.cells #[.int .i64 0, .int .i64 0, .slice none 0 0] 72)).heap.size) := by show _ < _; simp
  clear hbV hkV
  go_wp2_with fail
  generalize w1.alloc (.cells #[.int .i64 0, .int .i64 0, .slice none 0 0] 72) = w2 at *
  generalize hV : w1.heap.size = V at *
  clear hV w1
  go_at_call 109
  refine (number_t B b off L cap 1 3 q Nq.out _ HS.out.rd hB HS.out.cells HL.out HCap.out HCm.out (by decide) (by decide) (HP.out 1 3 (by decide))).mono ?_
  rintro x w3 ⟨rfl, hr1, ht1⟩
  replace HS := hide (HS.out.num hr1 ht1)
  replace HT := hide (HT.out.num hr1 ht1)
  replace HVL : Hid (V < w3.heap.size) := Nat.lt_of_lt_of_le HVL.out ht1.size
  clear hr1 ht1
  simp only [Nat.reduceAdd] at HS HT
  have cV := HT.out.cell 0 (by simp) (v := .int .i64 0) rfl
  have fV := HT.out.free (by simp) 0
  replace HT := hide (HT.out.set 0 (by simp) (.int .i64 (q : Int)) (ys := [.int .i64 (q : Int), .int .i64 0, .slice none 0 0]) rfl)
  replace HS := hide (HS.out.other (V' := V) (i := 0) (Nat.ne_of_gt hz12) (Nat.le_of_lt hz12) (.int .i64 (q : Int)))
  replace HVL : Hid (V < (w3.setCell ⟨V, 0, none⟩ (.int .i64 (q : Int))).heap.size) := by show _ < _; rw [nblk_setCell]; exact HVL.out
  go_wp2_with fail
  clear cV fV
  generalize w3.setCell ⟨V, 0, none⟩ (.int .i64 (q : Int)) = w4 at *
  clear w2 w3
  go_at_call 109
  refine (number_t B b off L cap 4 3 e Ne.out _ HS.out.rd hB HS.out.cells HL.out HCap.out HCm.out (by decide) (by decide) (HP.out 4 3 (by decide))).mono ?_
  rintro x w5 ⟨rfl, hr1, ht1⟩
  replace HS := hide (HS.out.num hr1 ht1)
  replace HT := hide (HT.out.num hr1 ht1)
  replace HVL : Hid (V < w5.heap.size) := Nat.lt_of_lt_of_le HVL.out ht1.size
  clear hr1 ht1
  simp only [Nat.reduceAdd] at HS HT
  have cV := HT.out.cell 1 (by simp) (v := .int .i64 0) rfl
  have fV := HT.out.free (by simp) 1
  replace HT := hide (HT.out.set 1 (by simp) (.int .i64 (e : Int)) (ys := [.int .i64 (q : Int), .int .i64 (e : Int), .slice none 0 0]) rfl)
  replace HS := hide (HS.out.other (V' := V) (i := 1) (Nat.ne_of_gt hz12) (Nat.le_of_lt hz12) (.int .i64 (e : Int)))
  replace HVL : Hid (V < (w5.setCell ⟨V, 1, none⟩ (.int .i64 (e : Int))).heap.size) := by show _ < _; rw [nblk_setCell]; exact HVL.out
  go_wp2_with fail
  clear cV fV
  generalize w5.setCell ⟨V, 1, none⟩ (.int .i64 (e : Int)) = w6 at *
  clear w4 w5
  go_at_call 109
  refine (number_t B b off L cap 7 1 n Nn.out _ HS.out.rd hB HS.out.cells HL.out HCap.out HCm.out (by decide) (by decide) (HP.out 7 1 (by decide))).mono ?_
  rintro x w7 ⟨rfl, hr1, ht1⟩
  replace HS := hide (HS.out.num hr1 ht1)
  replace HT := hide (HT.out.num hr1 ht1)
  replace HVL : Hid (V < w7.heap.size) := Nat.lt_of_lt_of_le HVL.out ht1.size
  clear hr1 ht1
  simp only [Nat.reduceAdd] at HS HT
  have hn2 : (n : Int) ≤ 100 := by have := HN.out; omega
  go_wp2_with fail
  go_at_call 108
  refine (insist_yes _).mono ?_
  rintro e w' ⟨rfl, hw'⟩
  obtain rfl := Eq.symm hw'
  clear hw'
  have HXL : Hid ((cut L 8 n).length = n) := cut_length (HP.out 8 n (by have := HN.out; omega))
  go_wp2_with fail
  go_at_call 118
  refine (take_t B b off L cap 8 n _ HS.out.rd HL.out HCap.out HCm.out (by have := HN.out; omega) (HP.out 8 n (by have := HN.out; omega)) (HC8.out 8 (by decide))).mono ?_
  rintro x w8 ⟨rfl, hr1, ht1⟩
  replace HS := hide (HS.out.num hr1 ht1)
  replace HT := hide (HT.out.num hr1 ht1)
  replace HVL : Hid (V < w8.heap.size) := Nat.lt_of_lt_of_le HVL.out ht1.size
  clear hr1 ht1
  go_wp2_with fail
  go_at_call 84
  refine (clone_n (some ⟨b, off + 8, none⟩) (cap - 8) n (cut L 8 n) HXL.out _ (cells_cut HS.out.cells 8 n (HP.out 8 n (by have := HN.out; omega))) (fun e => by cases e) (by have := HN.out; rw [HXL.out]; omega)).mono ?_
  rintro x w9 ⟨v, rfl, ho, hk⟩
  obtain ⟨ab, cb, rfl, hnc, hby⟩ := Born.of_owns3 ho
  have HNC := hide hnc
  have HYN : Hid (∀ x ∈ fp [(ab, bys (cut L 8 n))], x ≠ B ∧ x ≠ V ∧ x ≠ w.heap.size ∧ w.heap.size ≤ x) := fun x hx => by
    have h1 := hby.new x hx
    have h2 := HVL.out
    have h3 := HS.out.oldB
    omega
  have HY := hide hby.toOwn
  replace HS := hide (HS.out.kept hk)
  replace HT := hide (HT.out.kept hk)
  replace HVL : Hid (V < w9.heap.size) := Nat.lt_of_lt_of_le HVL.out hk.size
  clear ho hk hnc hby
  have cV := HT.out.cell 2 (by simp) (v := .slice none 0 0) rfl
  have fV := HT.out.free (by simp) 2
  replace HT := hide (HT.out.set 2 (by simp) (.slice ab (cut L 8 n).length cb) (ys := [.int .i64 (q : Int), .int .i64 (e : Int), .slice ab (cut L 8 n).length cb]) rfl)
  replace HS := hide (HS.out.other (V' := V) (i := 2) (Nat.ne_of_gt hz12) (Nat.le_of_lt hz12) (.slice ab (cut L 8 n).length cb))
  replace HY := hide (own_setB (a := ⟨V, 2, none⟩) HY.out (.slice ab (cut L 8 n).length cb) (fun x hx => (HYN.out x hx).2.1))
  have dP := HS.out.rd.place
  go_wp2_with fail
  clear cV fV dP
  generalize w9.setCell ⟨V, 2, none⟩ (.slice ab (cut L 8 n).length cb) = w10 at *
  clear HVL w9
  go_at_call 120
  refine (zeros_yes B b off L cap (8 + n) (114 - n) _ (by have := HN.out; omega) _ HS.out.rd hB HS.out.cells HL.out HCap.out HCm.out (by omega) (HP.out _ _ (by have := HN.out; omega)) (HC8.out _ (by have := HN.out; omega)) HZR.out).mono ?_
  rintro x w11 ⟨rfl, hr1, ht1⟩
  rw [show 8 + n + (114 - n) = 122 by have := HN.out; omega] at hr1
  replace HS := hide (HS.out.num hr1 ht1)
  replace HT := hide (HT.out.num hr1 ht1)
  replace HY := hide (own_turnB HY.out ht1 (fun x hx => (HYN.out x hx).1))
  clear hr1 ht1 w10
  have hcmp : (((q2 : Nat) : Int) == (q : Int)) = true := by rw [HQ2.out]; simp
  have cV := HT.out.cell 0 (by simp) (v := .int .i64 (q : Int)) rfl
  go_wp2_with fail
  go_region_held3 (fun w' => w'.cell? ⟨V, 0, none⟩ = some (.int .i64 (q : Int))) (go_keep)
    (first
       | (go_at_call 109
          refine (number_t B b off L cap 122 3 q2 Nq2.out _ HS.out.drew.rd hB HS.out.drew.cells HL.out HCap.out HCm.out (by decide) (by decide) (HP.out 122 3 (by decide))).mono ?_
          rintro x w12 ⟨rfl, hr1, ht1⟩
          replace HS := hide (HS.out.drew.num hr1 ht1)
          replace HT := hide (HT.out.drew.num hr1 ht1)
          replace HY := hide (own_turnB (HY.out.kept (Keeps.drew (Keeps.refl w11))) ht1 (fun x hx => (HYN.out x hx).1))
          clear hr1 ht1 cV
          have cV := HT.out.cell 0 (by simp) (v := .int .i64 (q : Int)) rfl)
       | (go_at_call 108
          refine (insist_yes _).mono ?_
          rintro x w' ⟨rfl, hw'⟩
          obtain rfl := Eq.symm hw'
          clear hw'))
  clear cV hcmp
  simp only [Nat.reduceAdd] at HS HT
  have hcmp : (((e2 : Nat) : Int) == (e : Int)) = true := by rw [HE2.out]; simp
  have cV := HT.out.cell 1 (by simp) (v := .int .i64 (e : Int)) rfl
  go_wp2_with fail
  go_region_held3 (fun w' => w'.cell? ⟨V, 1, none⟩ = some (.int .i64 (e : Int))) (go_keep)
    (first
       | (go_at_call 109
          refine (number_t B b off L cap 125 3 e2 Ne2.out _ HS.out.drew.rd hB HS.out.drew.cells HL.out HCap.out HCm.out (by decide) (by decide) (HP.out 125 3 (by decide))).mono ?_
          rintro x w13 ⟨rfl, hr1, ht1⟩
          replace HS := hide (HS.out.drew.num hr1 ht1)
          replace HT := hide (HT.out.drew.num hr1 ht1)
          replace HY := hide (own_turnB (HY.out.kept (Keeps.drew (Keeps.refl w12))) ht1 (fun x hx => (HYN.out x hx).1))
          clear hr1 ht1 cV
          have cV := HT.out.cell 1 (by simp) (v := .int .i64 (e : Int)) rfl)
       | (go_at_call 108
          refine (insist_yes _).mono ?_
          rintro x w' ⟨rfl, hw'⟩
          obtain rfl := Eq.symm hw'
          clear hw'))
  clear cV hcmp
  simp only [Nat.reduceAdd] at HS HT
  have e0 := HT.out.cell 0 (by simp) (v := .int .i64 (q : Int)) rfl
  have e1 := HT.out.cell 1 (by simp) (v := .int .i64 (e : Int)) rfl
  have e2 := HT.out.cell 2 (by simp) (v := .slice ab (cut L 8 n).length cb) rfl
  have hsb : secB (q : Int) (e : Int) (cut L 8 n).length = false := by rw [HXL.out]; exact HOK.out
  go_wp2_with fail
  go_at_call 104
  refine (secok_is q e ab (cut L 8 n).length cb _ hsb _ (by have := HN.out; rw [HXL.out]; omega)).mono ?_
  rintro x w14 ⟨rfl, hk⟩
  replace HS := hide (HS.out.kept hk)
  replace HT := hide (HT.out.kept hk)
  replace HY := hide (HY.out.kept hk)
  clear hk e0 e1 e2 hsb
  go_wp2_with fail
  go_at_call 108
  refine (insist_no _ u pv (HG.out _ HS.out.turn)).mono ?_
  rintro e w' ⟨rfl, rfl⟩
  exact ⟨rfl, rfl, HS.out.turn⟩
end Go.Proofs.YtkdnddckogbgaaaGreatDoor
