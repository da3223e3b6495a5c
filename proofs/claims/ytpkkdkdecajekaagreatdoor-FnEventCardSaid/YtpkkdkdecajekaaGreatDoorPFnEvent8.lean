/- Texts of the verifier, joined: Txt, EtI, ShelfC, Sent, Told, TextK, Wrd. -/
import Derived.Test.YtpkkdkdecajekaaGreatDoorPFnEvent7
import Derived.Test.YtpkkdkdecajekaaGreatDoorPFnEvent6
import Derived.Shelf.LaysC
import Derived.Shelf.Strconv.AtoiAll
import Derived.Shelf.Strconv.ErrVarAll
import Derived.Test.YtpkkdkdecajekaaGreatDoorProg
import Derived.Test.YtpkkdkdecajekaaGreatDoorPFnEvent1
import Derived.Deep.OwnRows
namespace Go.Proofs.YtpkkdkdecajekaaGreatDoor
open Go.RowKit Go.Deep
set_option linter.unusedVariables false
set_option maxRecDepth 10000
theorem nums_two (w : World) (o : Obj) (K : List Int) : Cells ((w.alloc o).alloc (.cells (nums K).toArray 3)) (some ⟨w.heap.size + 1, 0, none⟩) (nums K) := by
  have h := (born_alloc (w.alloc o) (nums K).toArray 3).toOwn.one
  simpa using h
theorem two_keeps (w : World) (o p : Obj) : Keeps w ((w.alloc o).alloc p) := Keeps.alloc (Keeps.alloc (Keeps.refl w) o) p
theorem ret_more {D X : List UInt8} {c : List UInt8} (h : X = D ++ c) : Ending.returned (.string (⟨D.toArray⟩ ++ ⟨c.toArray⟩)) = .returned (.string ⟨X.toArray⟩) := by
  rw [h, ByteArray.mk_append_mk]
theorem sen_len {W : List UInt8} {ns : List Int} (h : W.length ≤ 20) (h' : ns.length ≤ 8) : (sen W ns).length ≤ 200 := by
  have := senN_len ns
  simp only [sen, List.length_append]
  omega
set_option maxHeartbeats 2000000 in
theorem text_deposit (m : Int) (w : World) (ht : Tab w) : Calls Tryz.prog 101 #[.agg #[.int .i64 m]] w fun e w' => e = .returned (.string ⟨(sen [100, 101, 112, 111, 115, 105, 116] [m]).toArray⟩) ∧ Keeps w w' := by
  have HT := hide ht
  clear ht
  have HC : Hid (Cells ((w.alloc (.cells #[.int .i64 m] 65)).alloc (.cells #[.int .i64 m] 3)) (some ⟨w.heap.size + 1, 0, none⟩) (nums [m])) := nums_two w _ [m]
  have HK := hide (two_keeps w (.cells #[.int .i64 m] 65) (.cells #[.int .i64 m] 3))
  go_enter Tryz.func101, Tryz.ntmps101
  go_wp2_with fail
  refine (sentence_k [100, 101, 112, 111, 115, 105, 116] (some ⟨w.heap.size + 1, 0, none⟩) 1 [m] _ (by decide) (by decide) (by simp) HC.out (HT.out.kept HK.out)).mono ?_
  rintro e w1 ⟨rfl, hk⟩
  have HK1 := hide (HK.out.trans hk)
  clear hk HC HK
  go_wp2_with fail
  go_ret
  exact ⟨rfl, HK1.out⟩
set_option maxHeartbeats 2000000 in
theorem text_open (c m f : Int) (w : World) (ht : Tab w) : Calls Tryz.prog 110 #[.agg #[.int .i64 c, .int .i64 m, .int .i64 f]] w fun e w' => e = .returned (.string ⟨(sen [111, 112, 101, 110] [c, m, f]).toArray⟩) ∧ Keeps w w' := by
  have HT := hide ht
  clear ht
  have HC : Hid (Cells ((w.alloc (.cells #[.int .i64 c, .int .i64 m, .int .i64 f] 67)).alloc (.cells #[.int .i64 c, .int .i64 m, .int .i64 f] 3)) (some ⟨w.heap.size + 1, 0, none⟩) (nums [c, m, f])) := nums_two w _ [c, m, f]
  have HK := hide (two_keeps w (.cells #[.int .i64 c, .int .i64 m, .int .i64 f] 67) (.cells #[.int .i64 c, .int .i64 m, .int .i64 f] 3))
  go_enter Tryz.func110, Tryz.ntmps110
  go_wp2_with fail
  refine (sentence_k [111, 112, 101, 110] (some ⟨w.heap.size + 1, 0, none⟩) 3 [c, m, f] _ (by decide) (by decide) (by simp) HC.out (HT.out.kept HK.out)).mono ?_
  rintro e w1 ⟨rfl, hk⟩
  have HK1 := hide (HK.out.trans hk)
  clear hk HC HK
  go_wp2_with fail
  go_ret
  exact ⟨rfl, HK1.out⟩
set_option maxHeartbeats 2000000 in
theorem text_close (c f : Int) (w : World) (ht : Tab w) : Calls Tryz.prog 113 #[.agg #[.int .i64 c, .int .i64 f]] w fun e w' => e = .returned (.string ⟨(sen [99, 108, 111, 115, 101] [c, f]).toArray⟩) ∧ Keeps w w' := by
  have HT := hide ht
  clear ht
  have HC : Hid (Cells ((w.alloc (.cells #[.int .i64 c, .int .i64 f] 69)).alloc (.cells #[.int .i64 c, .int .i64 f] 3)) (some ⟨w.heap.size + 1, 0, none⟩) (nums [c, f])) := nums_two w _ [c, f]
  have HK := hide (two_keeps w (.cells #[.int .i64 c, .int .i64 f] 69) (.cells #[.int .i64 c, .int .i64 f] 3))
  go_enter Tryz.func113, Tryz.ntmps113
  go_wp2_with fail
  refine (sentence_k [99, 108, 111, 115, 101] (some ⟨w.heap.size + 1, 0, none⟩) 2 [c, f] _ (by decide) (by decide) (by simp) HC.out (HT.out.kept HK.out)).mono ?_
  rintro e w1 ⟨rfl, hk⟩
  have HK1 := hide (HK.out.trans hk)
  clear hk HC HK
  go_wp2_with fail
  go_ret
  exact ⟨rfl, HK1.out⟩
set_option maxHeartbeats 2000000 in
theorem text_price (c m f : Int) (w : World) (ht : Tab w) : Calls Tryz.prog 115 #[.agg #[.int .i64 c, .int .i64 m, .int .i64 f]] w fun e w' => e = .returned (.string ⟨(sen [112, 114, 105, 99, 101] [c, m, f]).toArray⟩) ∧ Keeps w w' := by
  have HT := hide ht
  clear ht
  have HC : Hid (Cells ((w.alloc (.cells #[.int .i64 c, .int .i64 m, .int .i64 f] 71)).alloc (.cells #[.int .i64 c, .int .i64 m, .int .i64 f] 3)) (some ⟨w.heap.size + 1, 0, none⟩) (nums [c, m, f])) := nums_two w _ [c, m, f]
  have HK := hide (two_keeps w (.cells #[.int .i64 c, .int .i64 m, .int .i64 f] 71) (.cells #[.int .i64 c, .int .i64 m, .int .i64 f] 3))
  go_enter Tryz.func115, Tryz.ntmps115
  go_wp2_with fail
  refine (sentence_k [112, 114, 105, 99, 101] (some ⟨w.heap.size + 1, 0, none⟩) 3 [c, m, f] _ (by decide) (by decide) (by simp) HC.out (HT.out.kept HK.out)).mono ?_
  rintro e w1 ⟨rfl, hk⟩
  have HK1 := hide (HK.out.trans hk)
  clear hk HC HK
  go_wp2_with fail
  go_ret
  exact ⟨rfl, HK1.out⟩
set_option maxHeartbeats 2000000 in
theorem text_fulfill (y : Int) (w : World) (ht : Tab w) : Calls Tryz.prog 122 #[.agg #[.int .i64 y]] w fun e w' => e = .returned (.string ⟨(sen [102, 117, 108, 102, 105, 108, 108] [y]).toArray⟩) ∧ Keeps w w' := by
  have HT := hide ht
  clear ht
  have HC : Hid (Cells ((w.alloc (.cells #[.int .i64 y] 75)).alloc (.cells #[.int .i64 y] 3)) (some ⟨w.heap.size + 1, 0, none⟩) (nums [y])) := nums_two w _ [y]
  have HK := hide (two_keeps w (.cells #[.int .i64 y] 75) (.cells #[.int .i64 y] 3))
  go_enter Tryz.func122, Tryz.ntmps122
  go_wp2_with fail
  refine (sentence_k [102, 117, 108, 102, 105, 108, 108] (some ⟨w.heap.size + 1, 0, none⟩) 1 [y] _ (by decide) (by decide) (by simp) HC.out (HT.out.kept HK.out)).mono ?_
  rintro e w1 ⟨rfl, hk⟩
  have HK1 := hide (HK.out.trans hk)
  clear hk HC HK
  go_wp2_with fail
  go_ret
  exact ⟨rfl, HK1.out⟩
set_option maxHeartbeats 2000000 in
theorem text_fail (y : Int) (w : World) (ht : Tab w) : Calls Tryz.prog 124 #[.agg #[.int .i64 y]] w fun e w' => e = .returned (.string ⟨(sen [102, 97, 105, 108] [y]).toArray⟩) ∧ Keeps w w' := by
  have HT := hide ht
  clear ht
  have HC : Hid (Cells ((w.alloc (.cells #[.int .i64 y] 76)).alloc (.cells #[.int .i64 y] 3)) (some ⟨w.heap.size + 1, 0, none⟩) (nums [y])) := nums_two w _ [y]
  have HK := hide (two_keeps w (.cells #[.int .i64 y] 76) (.cells #[.int .i64 y] 3))
  go_enter Tryz.func124, Tryz.ntmps124
  go_wp2_with fail
  refine (sentence_k [102, 97, 105, 108] (some ⟨w.heap.size + 1, 0, none⟩) 1 [y] _ (by decide) (by decide) (by simp) HC.out (HT.out.kept HK.out)).mono ?_
  rintro e w1 ⟨rfl, hk⟩
  have HK1 := hide (HK.out.trans hk)
  clear hk HC HK
  go_wp2_with fail
  go_ret
  exact ⟨rfl, HK1.out⟩
set_option maxHeartbeats 2000000 in
theorem text_tick (w : World) (ht : Tab w) : Calls Tryz.prog 126 #[.agg #[]] w fun e w' => e = .returned (.string ⟨(sen [116, 105, 99, 107] []).toArray⟩) ∧ Keeps w w' := by
  have HT := hide ht
  clear ht
  have HC : Hid (Cells (w.alloc (.cells #[] 78)) none (nums [])) := .inl rfl
  have HK := hide (Keeps.alloc (Keeps.refl w) (.cells #[] 78))
  go_enter Tryz.func126, Tryz.ntmps126
  go_wp2_with fail
  refine (sentence_k [116, 105, 99, 107] none 0 [] _ (by decide) (by decide) (by simp) HC.out (HT.out.kept HK.out)).mono ?_
  rintro e w1 ⟨rfl, hk⟩
  have HK1 := hide (HK.out.trans hk)
  clear hk HC HK
  go_wp2_with fail
  go_ret
  exact ⟨rfl, HK1.out⟩
set_option maxHeartbeats 2000000 in
theorem text_launch (y c t m f : Int) (w : World) (ht : Tab w) : Calls Tryz.prog 128 #[.agg #[.int .i64 y, .int .i64 c, .int .i64 t, .int .i64 m, .int .i64 f]] w fun e w' => e = .returned (.string ⟨(sen [108, 97, 117, 110, 99, 104] [y, c, t, m, f]).toArray⟩) ∧ Keeps w w' := by
  have HT := hide ht
  clear ht
  have HC : Hid (Cells ((w.alloc (.cells #[.int .i64 y, .int .i64 c, .int .i64 t, .int .i64 m, .int .i64 f] 80)).alloc (.cells #[.int .i64 y, .int .i64 c, .int .i64 t, .int .i64 m, .int .i64 f] 3)) (some ⟨w.heap.size + 1, 0, none⟩) (nums [y, c, t, m, f])) := nums_two w _ [y, c, t, m, f]
  have HK := hide (two_keeps w (.cells #[.int .i64 y, .int .i64 c, .int .i64 t, .int .i64 m, .int .i64 f] 80) (.cells #[.int .i64 y, .int .i64 c, .int .i64 t, .int .i64 m, .int .i64 f] 3))
  go_enter Tryz.func128, Tryz.ntmps128
  go_wp2_with fail
  refine (sentence_k [108, 97, 117, 110, 99, 104] (some ⟨w.heap.size + 1, 0, none⟩) 5 [y, c, t, m, f] _ (by decide) (by decide) (by simp) HC.out (HT.out.kept HK.out)).mono ?_
  rintro e w1 ⟨rfl, hk⟩
  have HK1 := hide (HK.out.trans hk)
  clear hk HC HK
  go_wp2_with fail
  go_ret
  exact ⟨rfl, HK1.out⟩
set_option maxHeartbeats 2000000 in
theorem text_arrive (y : Int) (w : World) (ht : Tab w) : Calls Tryz.prog 130 #[.agg #[.int .i64 y]] w fun e w' => e = .returned (.string ⟨(sen [97, 114, 114, 105, 118, 101] [y]).toArray⟩) ∧ Keeps w w' := by
  have HT := hide ht
  clear ht
  have HC : Hid (Cells ((w.alloc (.cells #[.int .i64 y] 81)).alloc (.cells #[.int .i64 y] 3)) (some ⟨w.heap.size + 1, 0, none⟩) (nums [y])) := nums_two w _ [y]
  have HK := hide (two_keeps w (.cells #[.int .i64 y] 81) (.cells #[.int .i64 y] 3))
  go_enter Tryz.func130, Tryz.ntmps130
  go_wp2_with fail
  refine (sentence_k [97, 114, 114, 105, 118, 101] (some ⟨w.heap.size + 1, 0, none⟩) 1 [y] _ (by decide) (by decide) (by simp) HC.out (HT.out.kept HK.out)).mono ?_
  rintro e w1 ⟨rfl, hk⟩
  have HK1 := hide (HK.out.trans hk)
  clear hk HC HK
  go_wp2_with fail
  go_ret
  exact ⟨rfl, HK1.out⟩
set_option maxHeartbeats 2000000 in
theorem text_lost (y : Int) (w : World) (ht : Tab w) : Calls Tryz.prog 132 #[.agg #[.int .i64 y]] w fun e w' => e = .returned (.string ⟨(sen [108, 111, 115, 116] [y]).toArray⟩) ∧ Keeps w w' := by
  have HT := hide ht
  clear ht
  have HC : Hid (Cells ((w.alloc (.cells #[.int .i64 y] 82)).alloc (.cells #[.int .i64 y] 3)) (some ⟨w.heap.size + 1, 0, none⟩) (nums [y])) := nums_two w _ [y]
  have HK := hide (two_keeps w (.cells #[.int .i64 y] 82) (.cells #[.int .i64 y] 3))
  go_enter Tryz.func132, Tryz.ntmps132
  go_wp2_with fail
  refine (sentence_k [108, 111, 115, 116] (some ⟨w.heap.size + 1, 0, none⟩) 1 [y] _ (by decide) (by decide) (by simp) HC.out (HT.out.kept HK.out)).mono ?_
  rintro e w1 ⟨rfl, hk⟩
  have HK1 := hide (HK.out.trans hk)
  clear hk HC HK
  go_wp2_with fail
  go_ret
  exact ⟨rfl, HK1.out⟩
set_option maxHeartbeats 2000000 in
theorem text_admit (y c t m : Int) (b : Bool) (w : World) (ht : Tab w) : Calls Tryz.prog 118 #[.agg #[.int .i64 y, .int .i64 c, .int .i64 t, .int .i64 m, .bool b]] w fun e w' => e = .returned (.string ⟨(sen [97, 100, 109, 105, 116] [y, c, t, m] ++ (if b = true then [32, 121, 101, 115] else [32, 110, 111])).toArray⟩) ∧ Keeps w w' := by
  have HT := hide ht
  clear ht
  have HC : Hid (Cells ((w.alloc (.cells #[.int .i64 y, .int .i64 c, .int .i64 t, .int .i64 m, .bool b] 73)).alloc (.cells #[.int .i64 y, .int .i64 c, .int .i64 t, .int .i64 m] 3)) (some ⟨w.heap.size + 1, 0, none⟩) (nums [y, c, t, m])) := nums_two w _ [y, c, t, m]
  have HK := hide (two_keeps w (.cells #[.int .i64 y, .int .i64 c, .int .i64 t, .int .i64 m, .bool b] 73) (.cells #[.int .i64 y, .int .i64 c, .int .i64 t, .int .i64 m] 3))
  cases b
  · go_enter Tryz.func118, Tryz.ntmps118
    go_wp2_with fail
    refine (sentence_k [97, 100, 109, 105, 116] (some ⟨w.heap.size + 1, 0, none⟩) 4 [y, c, t, m] _ (by decide) (by decide) (by simp) HC.out (HT.out.kept HK.out)).mono ?_
    rintro e w1 ⟨rfl, hk⟩
    have HK1 := hide (HK.out.trans hk)
    have hlen := sen_len (W := [97, 100, 109, 105, 116]) (ns := [y, c, t, m]) (by decide) (by simp)
    have c4 := hk.cell (p := ⟨w.heap.size, 4, none⟩) (v := .bool false) (by simp)
    generalize hZ : sen [97, 100, 109, 105, 116] [y, c, t, m] = Z at hlen ⊢
    have HZ := hide hZ
    clear hk HC HK hZ
    go_wp2_with fail
    go_ret
    exact ⟨ret_more (by rw [HZ.out]; try rfl), HK1.out⟩
  · go_enter Tryz.func118, Tryz.ntmps118
    go_wp2_with fail
    refine (sentence_k [97, 100, 109, 105, 116] (some ⟨w.heap.size + 1, 0, none⟩) 4 [y, c, t, m] _ (by decide) (by decide) (by simp) HC.out (HT.out.kept HK.out)).mono ?_
    rintro e w1 ⟨rfl, hk⟩
    have HK1 := hide (HK.out.trans hk)
    have hlen := sen_len (W := [97, 100, 109, 105, 116]) (ns := [y, c, t, m]) (by decide) (by simp)
    have c4 := hk.cell (p := ⟨w.heap.size, 4, none⟩) (v := .bool true) (by simp)
    generalize hZ : sen [97, 100, 109, 105, 116] [y, c, t, m] = Z at hlen ⊢
    have HZ := hide hZ
    clear hk HC HK hZ
    go_wp2_with fail
    go_ret
    exact ⟨ret_more (by rw [HZ.out]; try rfl), HK1.out⟩
end Go.Proofs.YtpkkdkdecajekaaGreatDoor
namespace Go.Proofs.YtpkkdkdecajekaaGreatDoor
open Go.RowKit Go.Deep
set_option linter.unusedVariables false
set_option maxRecDepth 10000
def etL (k y c t m f : Int) (b : Bool) : List UInt8 := if evB k y c t m f b = true then evT k y c t m f b else []
set_option maxHeartbeats 2000000 in
theorem etx_1 (y c t m f : Int) (b : Bool) (w : World) (ht : Tab w) (h : evB 1 y c t m f b = true) : Calls Tryz.prog 7 #[evV 1 y c t m f b] w fun e w' => e = .returned (.string ⟨(evT 1 y c t m f b).toArray⟩) ∧ Keeps w w' := by
  have hm2 : ∀ w : World, (method 265 65 (.agg #[.int .i64 m]) "loop.example/g00400/impl.text").run Tryz.prog w = .ok (101, .agg #[.int .i64 m]) w := fun _ => by kernel_rfl
  have HT := hide ht
  have HEO := hide (evok_impl 1 y c t m f b)
  rw [h] at HEO
  have HTX := hide (fun w1 ht1 => text_deposit m w1 ht1)
  simp only [← evT_1 y c t m f b] at HTX
  generalize evT 1 y c t m f b = X at HTX ⊢
  clear ht h
  have hkA := Keeps.alloc (Keeps.refl w) (.cells (evCells 1 y c t m f b) 24)
  go_enter Tryz.func7, Tryz.ntmps7
  go_wp2_with fail
  refine (HEO.out _).mono ?_
  rintro x w1 ⟨rfl, hk1⟩
  have c0 := hk1.cell (p := ⟨w.heap.size, 0, none⟩) (v := .int .i64 1) (by simp)
  have c1 := hk1.cell (p := ⟨w.heap.size, 1, none⟩) (v := .int .i64 y) (by simp)
  have c2 := hk1.cell (p := ⟨w.heap.size, 2, none⟩) (v := .int .i64 c) (by simp)
  have c3 := hk1.cell (p := ⟨w.heap.size, 3, none⟩) (v := .int .i64 t) (by simp)
  have c4 := hk1.cell (p := ⟨w.heap.size, 4, none⟩) (v := .int .i64 m) (by simp)
  have c5 := hk1.cell (p := ⟨w.heap.size, 5, none⟩) (v := .int .i64 f) (by simp)
  have c6 := hk1.cell (p := ⟨w.heap.size, 6, none⟩) (v := .bool b) (by simp)
  have HK := hide (hkA.trans hk1)
  clear hk1 hkA HEO
  go_wp2_with fail
  refine (kindOf_deposit y c t m f b w1).mono ?_
  rintro x w2 ⟨rfl, hk2⟩
  replace HK := hide (HK.out.trans hk2)
  clear hk2 c0 c1 c2 c3 c4 c5 c6
  go_wp2_with fail
  refine (HTX.out w2 (HT.out.kept HK.out)).mono ?_
  rintro x w3 ⟨rfl, hk3⟩
  replace HK := hide (HK.out.trans hk3)
  clear hk3
  go_wp2_with fail
  go_ret
  exact ⟨rfl, HK.out⟩
set_option maxHeartbeats 2000000 in
theorem etx_2 (y c t m f : Int) (b : Bool) (w : World) (ht : Tab w) (h : evB 2 y c t m f b = true) : Calls Tryz.prog 7 #[evV 2 y c t m f b] w fun e w' => e = .returned (.string ⟨(evT 2 y c t m f b).toArray⟩) ∧ Keeps w w' := by
  have hm2 : ∀ w : World, (method 265 67 (.agg #[.int .i64 c, .int .i64 m, .int .i64 f]) "loop.example/g00400/impl.text").run Tryz.prog w = .ok (110, .agg #[.int .i64 c, .int .i64 m, .int .i64 f]) w := fun _ => by kernel_rfl
  have HT := hide ht
  have HEO := hide (evok_impl 2 y c t m f b)
  rw [h] at HEO
  have HTX := hide (fun w1 ht1 => text_open c m f w1 ht1)
  simp only [← evT_2 y c t m f b] at HTX
  generalize evT 2 y c t m f b = X at HTX ⊢
  clear ht h
  have hkA := Keeps.alloc (Keeps.refl w) (.cells (evCells 2 y c t m f b) 24)
  go_enter Tryz.func7, Tryz.ntmps7
  go_wp2_with fail
  refine (HEO.out _).mono ?_
  rintro x w1 ⟨rfl, hk1⟩
  have c0 := hk1.cell (p := ⟨w.heap.size, 0, none⟩) (v := .int .i64 2) (by simp)
  have c1 := hk1.cell (p := ⟨w.heap.size, 1, none⟩) (v := .int .i64 y) (by simp)
  have c2 := hk1.cell (p := ⟨w.heap.size, 2, none⟩) (v := .int .i64 c) (by simp)
  have c3 := hk1.cell (p := ⟨w.heap.size, 3, none⟩) (v := .int .i64 t) (by simp)
  have c4 := hk1.cell (p := ⟨w.heap.size, 4, none⟩) (v := .int .i64 m) (by simp)
  have c5 := hk1.cell (p := ⟨w.heap.size, 5, none⟩) (v := .int .i64 f) (by simp)
  have c6 := hk1.cell (p := ⟨w.heap.size, 6, none⟩) (v := .bool b) (by simp)
  have HK := hide (hkA.trans hk1)
  clear hk1 hkA HEO
  go_wp2_with fail
  refine (kindOf_open y c t m f b w1).mono ?_
  rintro x w2 ⟨rfl, hk2⟩
  replace HK := hide (HK.out.trans hk2)
  clear hk2 c0 c1 c2 c3 c4 c5 c6
  go_wp2_with fail
  refine (HTX.out w2 (HT.out.kept HK.out)).mono ?_
  rintro x w3 ⟨rfl, hk3⟩
  replace HK := hide (HK.out.trans hk3)
  clear hk3
  go_wp2_with fail
  go_ret
  exact ⟨rfl, HK.out⟩
set_option maxHeartbeats 2000000 in
theorem etx_3 (y c t m f : Int) (b : Bool) (w : World) (ht : Tab w) (h : evB 3 y c t m f b = true) : Calls Tryz.prog 7 #[evV 3 y c t m f b] w fun e w' => e = .returned (.string ⟨(evT 3 y c t m f b).toArray⟩) ∧ Keeps w w' := by
  have hm2 : ∀ w : World, (method 265 69 (.agg #[.int .i64 c, .int .i64 f]) "loop.example/g00400/impl.text").run Tryz.prog w = .ok (113, .agg #[.int .i64 c, .int .i64 f]) w := fun _ => by kernel_rfl
  have HT := hide ht
  have HEO := hide (evok_impl 3 y c t m f b)
  rw [h] at HEO
  have HTX := hide (fun w1 ht1 => text_close c f w1 ht1)
  simp only [← evT_3 y c t m f b] at HTX
  generalize evT 3 y c t m f b = X at HTX ⊢
  clear ht h
  have hkA := Keeps.alloc (Keeps.refl w) (.cells (evCells 3 y c t m f b) 24)
  go_enter Tryz.func7, Tryz.ntmps7
  go_wp2_with fail
  refine (HEO.out _).mono ?_
  rintro x w1 ⟨rfl, hk1⟩
  have c0 := hk1.cell (p := ⟨w.heap.size, 0, none⟩) (v := .int .i64 3) (by simp)
  have c1 := hk1.cell (p := ⟨w.heap.size, 1, none⟩) (v := .int .i64 y) (by simp)
  have c2 := hk1.cell (p := ⟨w.heap.size, 2, none⟩) (v := .int .i64 c) (by simp)
  have c3 := hk1.cell (p := ⟨w.heap.size, 3, none⟩) (v := .int .i64 t) (by simp)
  have c4 := hk1.cell (p := ⟨w.heap.size, 4, none⟩) (v := .int .i64 m) (by simp)
  have c5 := hk1.cell (p := ⟨w.heap.size, 5, none⟩) (v := .int .i64 f) (by simp)
  have c6 := hk1.cell (p := ⟨w.heap.size, 6, none⟩) (v := .bool b) (by simp)
  have HK := hide (hkA.trans hk1)
  clear hk1 hkA HEO
  go_wp2_with fail
  refine (kindOf_close y c t m f b w1).mono ?_
  rintro x w2 ⟨rfl, hk2⟩
  replace HK := hide (HK.out.trans hk2)
  clear hk2 c0 c1 c2 c3 c4 c5 c6
  go_wp2_with fail
  refine (HTX.out w2 (HT.out.kept HK.out)).mono ?_
  rintro x w3 ⟨rfl, hk3⟩
  replace HK := hide (HK.out.trans hk3)
  clear hk3
  go_wp2_with fail
  go_ret
  exact ⟨rfl, HK.out⟩
set_option maxHeartbeats 2000000 in
theorem etx_4 (y c t m f : Int) (b : Bool) (w : World) (ht : Tab w) (h : evB 4 y c t m f b = true) : Calls Tryz.prog 7 #[evV 4 y c t m f b] w fun e w' => e = .returned (.string ⟨(evT 4 y c t m f b).toArray⟩) ∧ Keeps w w' := by
  have hm2 : ∀ w : World, (method 265 71 (.agg #[.int .i64 c, .int .i64 m, .int .i64 f]) "loop.example/g00400/impl.text").run Tryz.prog w = .ok (115, .agg #[.int .i64 c, .int .i64 m, .int .i64 f]) w := fun _ => by kernel_rfl
  have HT := hide ht
  have HEO := hide (evok_impl 4 y c t m f b)
  rw [h] at HEO
  have HTX := hide (fun w1 ht1 => text_price c m f w1 ht1)
  simp only [← evT_4 y c t m f b] at HTX
  generalize evT 4 y c t m f b = X at HTX ⊢
  clear ht h
  have hkA := Keeps.alloc (Keeps.refl w) (.cells (evCells 4 y c t m f b) 24)
  go_enter Tryz.func7, Tryz.ntmps7
  go_wp2_with fail
  refine (HEO.out _).mono ?_
  rintro x w1 ⟨rfl, hk1⟩
  have c0 := hk1.cell (p := ⟨w.heap.size, 0, none⟩) (v := .int .i64 4) (by simp)
  have c1 := hk1.cell (p := ⟨w.heap.size, 1, none⟩) (v := .int .i64 y) (by simp)
  have c2 := hk1.cell (p := ⟨w.heap.size, 2, none⟩) (v := .int .i64 c) (by simp)
  have c3 := hk1.cell (p := ⟨w.heap.size, 3, none⟩) (v := .int .i64 t) (by simp)
  have c4 := hk1.cell (p := ⟨w.heap.size, 4, none⟩) (v := .int .i64 m) (by simp)
  have c5 := hk1.cell (p := ⟨w.heap.size, 5, none⟩) (v := .int .i64 f) (by simp)
  have c6 := hk1.cell (p := ⟨w.heap.size, 6, none⟩) (v := .bool b) (by simp)
  have HK := hide (hkA.trans hk1)
  clear hk1 hkA HEO
  go_wp2_with fail
  refine (kindOf_price y c t m f b w1).mono ?_
  rintro x w2 ⟨rfl, hk2⟩
  replace HK := hide (HK.out.trans hk2)
  clear hk2 c0 c1 c2 c3 c4 c5 c6
  go_wp2_with fail
  refine (HTX.out w2 (HT.out.kept HK.out)).mono ?_
  rintro x w3 ⟨rfl, hk3⟩
  replace HK := hide (HK.out.trans hk3)
  clear hk3
  go_wp2_with fail
  go_ret
  exact ⟨rfl, HK.out⟩
set_option maxHeartbeats 2000000 in
theorem etx_5 (y c t m f : Int) (b : Bool) (w : World) (ht : Tab w) (h : evB 5 y c t m f b = true) : Calls Tryz.prog 7 #[evV 5 y c t m f b] w fun e w' => e = .returned (.string ⟨(evT 5 y c t m f b).toArray⟩) ∧ Keeps w w' := by
  have hm2 : ∀ w : World, (method 265 73 (.agg #[.int .i64 y, .int .i64 c, .int .i64 t, .int .i64 m, .bool b]) "loop.example/g00400/impl.text").run Tryz.prog w = .ok (118, .agg #[.int .i64 y, .int .i64 c, .int .i64 t, .int .i64 m, .bool b]) w := fun _ => by kernel_rfl
  have HT := hide ht
  have HEO := hide (evok_impl 5 y c t m f b)
  rw [h] at HEO
  have HTX := hide (fun w1 ht1 => text_admit y c t m b w1 ht1)
  simp only [← evT_5 y c t m f b] at HTX
  generalize evT 5 y c t m f b = X at HTX ⊢
  clear ht h
  have hkA := Keeps.alloc (Keeps.refl w) (.cells (evCells 5 y c t m f b) 24)
  go_enter Tryz.func7, Tryz.ntmps7
  go_wp2_with fail
  refine (HEO.out _).mono ?_
  rintro x w1 ⟨rfl, hk1⟩
  have c0 := hk1.cell (p := ⟨w.heap.size, 0, none⟩) (v := .int .i64 5) (by simp)
  have c1 := hk1.cell (p := ⟨w.heap.size, 1, none⟩) (v := .int .i64 y) (by simp)
  have c2 := hk1.cell (p := ⟨w.heap.size, 2, none⟩) (v := .int .i64 c) (by simp)
  have c3 := hk1.cell (p := ⟨w.heap.size, 3, none⟩) (v := .int .i64 t) (by simp)
  have c4 := hk1.cell (p := ⟨w.heap.size, 4, none⟩) (v := .int .i64 m) (by simp)
  have c5 := hk1.cell (p := ⟨w.heap.size, 5, none⟩) (v := .int .i64 f) (by simp)
  have c6 := hk1.cell (p := ⟨w.heap.size, 6, none⟩) (v := .bool b) (by simp)
  have HK := hide (hkA.trans hk1)
  clear hk1 hkA HEO
  go_wp2_with fail
  refine (kindOf_admit y c t m f b w1).mono ?_
  rintro x w2 ⟨rfl, hk2⟩
  replace HK := hide (HK.out.trans hk2)
  clear hk2 c0 c1 c2 c3 c4 c5 c6
  go_wp2_with fail
  refine (HTX.out w2 (HT.out.kept HK.out)).mono ?_
  rintro x w3 ⟨rfl, hk3⟩
  replace HK := hide (HK.out.trans hk3)
  clear hk3
  go_wp2_with fail
  go_ret
  exact ⟨rfl, HK.out⟩
set_option maxHeartbeats 2000000 in
theorem etx_6 (y c t m f : Int) (b : Bool) (w : World) (ht : Tab w) (h : evB 6 y c t m f b = true) : Calls Tryz.prog 7 #[evV 6 y c t m f b] w fun e w' => e = .returned (.string ⟨(evT 6 y c t m f b).toArray⟩) ∧ Keeps w w' := by
  have hm2 : ∀ w : World, (method 265 75 (.agg #[.int .i64 y]) "loop.example/g00400/impl.text").run Tryz.prog w = .ok (122, .agg #[.int .i64 y]) w := fun _ => by kernel_rfl
  have HT := hide ht
  have HEO := hide (evok_impl 6 y c t m f b)
  rw [h] at HEO
  have HTX := hide (fun w1 ht1 => text_fulfill y w1 ht1)
  simp only [← evT_6 y c t m f b] at HTX
  generalize evT 6 y c t m f b = X at HTX ⊢
  clear ht h
  have hkA := Keeps.alloc (Keeps.refl w) (.cells (evCells 6 y c t m f b) 24)
  go_enter Tryz.func7, Tryz.ntmps7
  go_wp2_with fail
  refine (HEO.out _).mono ?_
  rintro x w1 ⟨rfl, hk1⟩
  have c0 := hk1.cell (p := ⟨w.heap.size, 0, none⟩) (v := .int .i64 6) (by simp)
  have c1 := hk1.cell (p := ⟨w.heap.size, 1, none⟩) (v := .int .i64 y) (by simp)
  have c2 := hk1.cell (p := ⟨w.heap.size, 2, none⟩) (v := .int .i64 c) (by simp)
  have c3 := hk1.cell (p := ⟨w.heap.size, 3, none⟩) (v := .int .i64 t) (by simp)
  have c4 := hk1.cell (p := ⟨w.heap.size, 4, none⟩) (v := .int .i64 m) (by simp)
  have c5 := hk1.cell (p := ⟨w.heap.size, 5, none⟩) (v := .int .i64 f) (by simp)
  have c6 := hk1.cell (p := ⟨w.heap.size, 6, none⟩) (v := .bool b) (by simp)
  have HK := hide (hkA.trans hk1)
  clear hk1 hkA HEO
  go_wp2_with fail
  refine (kindOf_fulfill y c t m f b w1).mono ?_
  rintro x w2 ⟨rfl, hk2⟩
  replace HK := hide (HK.out.trans hk2)
  clear hk2 c0 c1 c2 c3 c4 c5 c6
  go_wp2_with fail
  refine (HTX.out w2 (HT.out.kept HK.out)).mono ?_
  rintro x w3 ⟨rfl, hk3⟩
  replace HK := hide (HK.out.trans hk3)
  clear hk3
  go_wp2_with fail
  go_ret
  exact ⟨rfl, HK.out⟩
set_option maxHeartbeats 2000000 in
theorem etx_7 (y c t m f : Int) (b : Bool) (w : World) (ht : Tab w) (h : evB 7 y c t m f b = true) : Calls Tryz.prog 7 #[evV 7 y c t m f b] w fun e w' => e = .returned (.string ⟨(evT 7 y c t m f b).toArray⟩) ∧ Keeps w w' := by
  have hm2 : ∀ w : World, (method 265 76 (.agg #[.int .i64 y]) "loop.example/g00400/impl.text").run Tryz.prog w = .ok (124, .agg #[.int .i64 y]) w := fun _ => by kernel_rfl
  have HT := hide ht
  have HEO := hide (evok_impl 7 y c t m f b)
  rw [h] at HEO
  have HTX := hide (fun w1 ht1 => text_fail y w1 ht1)
  simp only [← evT_7 y c t m f b] at HTX
  generalize evT 7 y c t m f b = X at HTX ⊢
  clear ht h
  have hkA := Keeps.alloc (Keeps.refl w) (.cells (evCells 7 y c t m f b) 24)
  go_enter Tryz.func7, Tryz.ntmps7
  go_wp2_with fail
  refine (HEO.out _).mono ?_
  rintro x w1 ⟨rfl, hk1⟩
  have c0 := hk1.cell (p := ⟨w.heap.size, 0, none⟩) (v := .int .i64 7) (by simp)
  have c1 := hk1.cell (p := ⟨w.heap.size, 1, none⟩) (v := .int .i64 y) (by simp)
  have c2 := hk1.cell (p := ⟨w.heap.size, 2, none⟩) (v := .int .i64 c) (by simp)
  have c3 := hk1.cell (p := ⟨w.heap.size, 3, none⟩) (v := .int .i64 t) (by simp)
  have c4 := hk1.cell (p := ⟨w.heap.size, 4, none⟩) (v := .int .i64 m) (by simp)
  have c5 := hk1.cell (p := ⟨w.heap.size, 5, none⟩) (v := .int .i64 f) (by simp)
  have c6 := hk1.cell (p := ⟨w.heap.size, 6, none⟩) (v := .bool b) (by simp)
  have HK := hide (hkA.trans hk1)
  clear hk1 hkA HEO
  go_wp2_with fail
  refine (kindOf_fail y c t m f b w1).mono ?_
  rintro x w2 ⟨rfl, hk2⟩
  replace HK := hide (HK.out.trans hk2)
  clear hk2 c0 c1 c2 c3 c4 c5 c6
  go_wp2_with fail
  refine (HTX.out w2 (HT.out.kept HK.out)).mono ?_
  rintro x w3 ⟨rfl, hk3⟩
  replace HK := hide (HK.out.trans hk3)
  clear hk3
  go_wp2_with fail
  go_ret
  exact ⟨rfl, HK.out⟩
set_option maxHeartbeats 2000000 in
theorem etx_8 (y c t m f : Int) (b : Bool) (w : World) (ht : Tab w) (h : evB 8 y c t m f b = true) : Calls Tryz.prog 7 #[evV 8 y c t m f b] w fun e w' => e = .returned (.string ⟨(evT 8 y c t m f b).toArray⟩) ∧ Keeps w w' := by
  have hm2 : ∀ w : World, (method 265 78 (.agg #[]) "loop.example/g00400/impl.text").run Tryz.prog w = .ok (126, .agg #[]) w := fun _ => by kernel_rfl
  have HT := hide ht
  have HEO := hide (evok_impl 8 y c t m f b)
  rw [h] at HEO
  have HTX := hide (fun w1 ht1 => text_tick  w1 ht1)
  simp only [← evT_8 y c t m f b] at HTX
  generalize evT 8 y c t m f b = X at HTX ⊢
  clear ht h
  have hkA := Keeps.alloc (Keeps.refl w) (.cells (evCells 8 y c t m f b) 24)
  go_enter Tryz.func7, Tryz.ntmps7
  go_wp2_with fail
  refine (HEO.out _).mono ?_
  rintro x w1 ⟨rfl, hk1⟩
  have c0 := hk1.cell (p := ⟨w.heap.size, 0, none⟩) (v := .int .i64 8) (by simp)
  have c1 := hk1.cell (p := ⟨w.heap.size, 1, none⟩) (v := .int .i64 y) (by simp)
  have c2 := hk1.cell (p := ⟨w.heap.size, 2, none⟩) (v := .int .i64 c) (by simp)
  have c3 := hk1.cell (p := ⟨w.heap.size, 3, none⟩) (v := .int .i64 t) (by simp)
  have c4 := hk1.cell (p := ⟨w.heap.size, 4, none⟩) (v := .int .i64 m) (by simp)
  have c5 := hk1.cell (p := ⟨w.heap.size, 5, none⟩) (v := .int .i64 f) (by simp)
  have c6 := hk1.cell (p := ⟨w.heap.size, 6, none⟩) (v := .bool b) (by simp)
  have HK := hide (hkA.trans hk1)
  clear hk1 hkA HEO
  go_wp2_with fail
  refine (kindOf_tick y c t m f b w1).mono ?_
  rintro x w2 ⟨rfl, hk2⟩
  replace HK := hide (HK.out.trans hk2)
  clear hk2 c0 c1 c2 c3 c4 c5 c6
  go_wp2_with fail
  refine (HTX.out w2 (HT.out.kept HK.out)).mono ?_
  rintro x w3 ⟨rfl, hk3⟩
  replace HK := hide (HK.out.trans hk3)
  clear hk3
  go_wp2_with fail
  go_ret
  exact ⟨rfl, HK.out⟩
set_option maxHeartbeats 2000000 in
theorem etx_9 (y c t m f : Int) (b : Bool) (w : World) (ht : Tab w) (h : evB 9 y c t m f b = true) : Calls Tryz.prog 7 #[evV 9 y c t m f b] w fun e w' => e = .returned (.string ⟨(evT 9 y c t m f b).toArray⟩) ∧ Keeps w w' := by
  have hm2 : ∀ w : World, (method 265 80 (.agg #[.int .i64 y, .int .i64 c, .int .i64 t, .int .i64 m, .int .i64 f]) "loop.example/g00400/impl.text").run Tryz.prog w = .ok (128, .agg #[.int .i64 y, .int .i64 c, .int .i64 t, .int .i64 m, .int .i64 f]) w := fun _ => by kernel_rfl
  have HT := hide ht
  have HEO := hide (evok_impl 9 y c t m f b)
  rw [h] at HEO
  have HTX := hide (fun w1 ht1 => text_launch y c t m f w1 ht1)
  simp only [← evT_9 y c t m f b] at HTX
  generalize evT 9 y c t m f b = X at HTX ⊢
  clear ht h
  have hkA := Keeps.alloc (Keeps.refl w) (.cells (evCells 9 y c t m f b) 24)
  go_enter Tryz.func7, Tryz.ntmps7
  go_wp2_with fail
  refine (HEO.out _).mono ?_
  rintro x w1 ⟨rfl, hk1⟩
  have c0 := hk1.cell (p := ⟨w.heap.size, 0, none⟩) (v := .int .i64 9) (by simp)
  have c1 := hk1.cell (p := ⟨w.heap.size, 1, none⟩) (v := .int .i64 y) (by simp)
  have c2 := hk1.cell (p := ⟨w.heap.size, 2, none⟩) (v := .int .i64 c) (by simp)
  have c3 := hk1.cell (p := ⟨w.heap.size, 3, none⟩) (v := .int .i64 t) (by simp)
  have c4 := hk1.cell (p := ⟨w.heap.size, 4, none⟩) (v := .int .i64 m) (by simp)
  have c5 := hk1.cell (p := ⟨w.heap.size, 5, none⟩) (v := .int .i64 f) (by simp)
  have c6 := hk1.cell (p := ⟨w.heap.size, 6, none⟩) (v := .bool b) (by simp)
  have HK := hide (hkA.trans hk1)
  clear hk1 hkA HEO
  go_wp2_with fail
  refine (kindOf_launch y c t m f b w1).mono ?_
  rintro x w2 ⟨rfl, hk2⟩
  replace HK := hide (HK.out.trans hk2)
  clear hk2 c0 c1 c2 c3 c4 c5 c6
  go_wp2_with fail
  refine (HTX.out w2 (HT.out.kept HK.out)).mono ?_
  rintro x w3 ⟨rfl, hk3⟩
  replace HK := hide (HK.out.trans hk3)
  clear hk3
  go_wp2_with fail
  go_ret
  exact ⟨rfl, HK.out⟩
set_option maxHeartbeats 2000000 in
theorem etx_10 (y c t m f : Int) (b : Bool) (w : World) (ht : Tab w) (h : evB 10 y c t m f b = true) : Calls Tryz.prog 7 #[evV 10 y c t m f b] w fun e w' => e = .returned (.string ⟨(evT 10 y c t m f b).toArray⟩) ∧ Keeps w w' := by
  have hm2 : ∀ w : World, (method 265 81 (.agg #[.int .i64 y]) "loop.example/g00400/impl.text").run Tryz.prog w = .ok (130, .agg #[.int .i64 y]) w := fun _ => by kernel_rfl
  have HT := hide ht
  have HEO := hide (evok_impl 10 y c t m f b)
  rw [h] at HEO
  have HTX := hide (fun w1 ht1 => text_arrive y w1 ht1)
  simp only [← evT_10 y c t m f b] at HTX
  generalize evT 10 y c t m f b = X at HTX ⊢
  clear ht h
  have hkA := Keeps.alloc (Keeps.refl w) (.cells (evCells 10 y c t m f b) 24)
  go_enter Tryz.func7, Tryz.ntmps7
  go_wp2_with fail
  refine (HEO.out _).mono ?_
  rintro x w1 ⟨rfl, hk1⟩
  have c0 := hk1.cell (p := ⟨w.heap.size, 0, none⟩) (v := .int .i64 10) (by simp)
  have c1 := hk1.cell (p := ⟨w.heap.size, 1, none⟩) (v := .int .i64 y) (by simp)
  have c2 := hk1.cell (p := ⟨w.heap.size, 2, none⟩) (v := .int .i64 c) (by simp)
  have c3 := hk1.cell (p := ⟨w.heap.size, 3, none⟩) (v := .int .i64 t) (by simp)
  have c4 := hk1.cell (p := ⟨w.heap.size, 4, none⟩) (v := .int .i64 m) (by simp)
  have c5 := hk1.cell (p := ⟨w.heap.size, 5, none⟩) (v := .int .i64 f) (by simp)
  have c6 := hk1.cell (p := ⟨w.heap.size, 6, none⟩) (v := .bool b) (by simp)
  have HK := hide (hkA.trans hk1)
  clear hk1 hkA HEO
  go_wp2_with fail
  refine (kindOf_arrive y c t m f b w1).mono ?_
  rintro x w2 ⟨rfl, hk2⟩
  replace HK := hide (HK.out.trans hk2)
  clear hk2 c0 c1 c2 c3 c4 c5 c6
  go_wp2_with fail
  refine (HTX.out w2 (HT.out.kept HK.out)).mono ?_
  rintro x w3 ⟨rfl, hk3⟩
  replace HK := hide (HK.out.trans hk3)
  clear hk3
  go_wp2_with fail
  go_ret
  exact ⟨rfl, HK.out⟩
set_option maxHeartbeats 2000000 in
theorem etx_11 (y c t m f : Int) (b : Bool) (w : World) (ht : Tab w) (h : evB 11 y c t m f b = true) : Calls Tryz.prog 7 #[evV 11 y c t m f b] w fun e w' => e = .returned (.string ⟨(evT 11 y c t m f b).toArray⟩) ∧ Keeps w w' := by
  have hm2 : ∀ w : World, (method 265 82 (.agg #[.int .i64 y]) "loop.example/g00400/impl.text").run Tryz.prog w = .ok (132, .agg #[.int .i64 y]) w := fun _ => by kernel_rfl
  have HT := hide ht
  have HEO := hide (evok_impl 11 y c t m f b)
  rw [h] at HEO
  have HTX := hide (fun w1 ht1 => text_lost y w1 ht1)
  simp only [← evT_11 y c t m f b] at HTX
  generalize evT 11 y c t m f b = X at HTX ⊢
  clear ht h
  have hkA := Keeps.alloc (Keeps.refl w) (.cells (evCells 11 y c t m f b) 24)
  go_enter Tryz.func7, Tryz.ntmps7
  go_wp2_with fail
  refine (HEO.out _).mono ?_
  rintro x w1 ⟨rfl, hk1⟩
  have c0 := hk1.cell (p := ⟨w.heap.size, 0, none⟩) (v := .int .i64 11) (by simp)
  have c1 := hk1.cell (p := ⟨w.heap.size, 1, none⟩) (v := .int .i64 y) (by simp)
  have c2 := hk1.cell (p := ⟨w.heap.size, 2, none⟩) (v := .int .i64 c) (by simp)
  have c3 := hk1.cell (p := ⟨w.heap.size, 3, none⟩) (v := .int .i64 t) (by simp)
  have c4 := hk1.cell (p := ⟨w.heap.size, 4, none⟩) (v := .int .i64 m) (by simp)
  have c5 := hk1.cell (p := ⟨w.heap.size, 5, none⟩) (v := .int .i64 f) (by simp)
  have c6 := hk1.cell (p := ⟨w.heap.size, 6, none⟩) (v := .bool b) (by simp)
  have HK := hide (hkA.trans hk1)
  clear hk1 hkA HEO
  go_wp2_with fail
  refine (kindOf_lost y c t m f b w1).mono ?_
  rintro x w2 ⟨rfl, hk2⟩
  replace HK := hide (HK.out.trans hk2)
  clear hk2 c0 c1 c2 c3 c4 c5 c6
  go_wp2_with fail
  refine (HTX.out w2 (HT.out.kept HK.out)).mono ?_
  rintro x w3 ⟨rfl, hk3⟩
  replace HK := hide (HK.out.trans hk3)
  clear hk3
  go_wp2_with fail
  go_ret
  exact ⟨rfl, HK.out⟩
theorem etx_no (k y c t m f : Int) (b : Bool) (w : World) (h : evB k y c t m f b = false) : Calls Tryz.prog 7 #[evV k y c t m f b] w fun e w' => e = .returned (.string ⟨[].toArray⟩) ∧ Keeps w w' := by
  have HEO := hide (evok_impl k y c t m f b)
  rw [h] at HEO
  have hkA := Keeps.alloc (Keeps.refl w) (.cells (evCells k y c t m f b) 24)
  go_enter Tryz.func7, Tryz.ntmps7
  go_wp2_with fail
  refine (HEO.out _).mono ?_
  rintro x w1 ⟨rfl, hk1⟩
  have HK := hide (hkA.trans hk1)
  clear hk1 hkA HEO
  go_wp2_with fail
  go_ret
  exact ⟨rfl, HK.out⟩
theorem etx_impl (k y c t m f : Int) (b : Bool) (w : World) (ht : Tab w) : Calls Tryz.prog 7 #[evV k y c t m f b] w fun e w' => e = .returned (.string ⟨(etL k y c t m f b).toArray⟩) ∧ Keeps w w' := by
  unfold etL
  cases h : evB k y c t m f b
  · rw [if_neg (by simp)]
    exact etx_no k y c t m f b w h
  · rw [if_pos rfl]
    obtain ⟨⟨k1, k2⟩, _⟩ := ev_bounds h
    have hk : k = 1 ∨ k = 2 ∨ k = 3 ∨ k = 4 ∨ k = 5 ∨ k = 6 ∨ k = 7 ∨ k = 8 ∨ k = 9 ∨ k = 10 ∨ k = 11 := by omega
    rcases hk with rfl | rfl | rfl | rfl | rfl | rfl | rfl | rfl | rfl | rfl | rfl
    · exact etx_1 y c t m f b w ht h
    · exact etx_2 y c t m f b w ht h
    · exact etx_3 y c t m f b w ht h
    · exact etx_4 y c t m f b w ht h
    · exact etx_5 y c t m f b w ht h
    · exact etx_6 y c t m f b w ht h
    · exact etx_7 y c t m f b w ht h
    · exact etx_8 y c t m f b w ht h
    · exact etx_9 y c t m f b w ht h
    · exact etx_10 y c t m f b w ht h
    · exact etx_11 y c t m f b w ht h
end Go.Proofs.YtpkkdkdecajekaaGreatDoor
namespace Go.Proofs
open Go.Shelf
def Tryz.laysC172_ren : Go.Shelf.Ren := ⟨fun | 172 => 50 | 244 => 57 | 245 => 58 | 247 => 62 | 279 => 63 | 280 => 64 | 281 => 65 | 282 => 66 | 287 => 68 | 316 => 69 | 171 => 59 | 205 => 70 | 321 => 72 | 322 => 73 | 243 => 67 | 246 => 71 | 283 => 74 | 284 => 75 | 285 => 76 | 286 => 77 | 129 => 79 | 317 => 78 | 318 => 80 | 319 => 81 | 320 => 82 | 337 => 83 | 338 => 84 | n => n, fun | 9 => 9 | 3 => 3 | 75 => 92 | 76 => 99 | 4 => 4 | 5 => 5 | 167 => 113 | 37 => 22 | 0 => 0 | 85 => 114 | 2 => 2 | 168 => 116 | 53 => 119 | 175 => 120 | 46 => 95 | 210 => 124 | 127 => 128 | 145 => 131 | 143 => 129 | 21 => 21 | 171 => 132 | 173 => 135 | 212 => 138 | 51 => 110 | 20 => 20 | 213 => 139 | 232 => 142 | 233 => 143 | 80 => 43 | n => n, fun | 15 => 5 | 16 => 6 | 17 => 7 | 18 => 8 | 19 => 9 | n => n⟩
theorem Tryz.laysC172 : Go.Proofs.LaysC.n172 Tryz.prog Tryz.laysC172_ren := {
  mixed := by kernel_rfl
  f129 := Tryz.func79.trans (congrArg some (by kernel_rfl))
  f171 := Tryz.func59.trans (congrArg some (by kernel_rfl))
  f172 := Tryz.func50.trans (congrArg some (by kernel_rfl))
  f205 := Tryz.func70.trans (congrArg some (by kernel_rfl))
  f243 := Tryz.func67.trans (congrArg some (by kernel_rfl))
  f244 := Tryz.func57.trans (congrArg some (by kernel_rfl))
  f245 := Tryz.func58.trans (congrArg some (by kernel_rfl))
  f246 := Tryz.func71.trans (congrArg some (by kernel_rfl))
  f247 := Tryz.func62.trans (congrArg some (by kernel_rfl))
  f279 := Tryz.func63.trans (congrArg some (by kernel_rfl))
  f280 := Tryz.func64.trans (congrArg some (by kernel_rfl))
  f281 := Tryz.func65.trans (congrArg some (by kernel_rfl))
  f282 := Tryz.func66.trans (congrArg some (by kernel_rfl))
  f283 := Tryz.func74.trans (congrArg some (by kernel_rfl))
  f284 := Tryz.func75.trans (congrArg some (by kernel_rfl))
  f285 := Tryz.func76.trans (congrArg some (by kernel_rfl))
  f286 := Tryz.func77.trans (congrArg some (by kernel_rfl))
  f287 := Tryz.func68.trans (congrArg some (by kernel_rfl))
  f316 := Tryz.func69.trans (congrArg some (by kernel_rfl))
  f317 := Tryz.func78.trans (congrArg some (by kernel_rfl))
  f318 := Tryz.func80.trans (congrArg some (by kernel_rfl))
  f319 := Tryz.func81.trans (congrArg some (by kernel_rfl))
  f320 := Tryz.func82.trans (congrArg some (by kernel_rfl))
  f321 := Tryz.func72.trans (congrArg some (by kernel_rfl))
  f322 := Tryz.func73.trans (congrArg some (by kernel_rfl))
  f337 := Tryz.func83.trans (congrArg some (by kernel_rfl))
  f338 := Tryz.func84.trans (congrArg some (by kernel_rfl))
  t0 := Tryz.underlying0
  a0 := Tryz.isAgg0
  z0 := Tryz.sizeOf0
  v0 := Tryz.zeroValue0
  t2 := Tryz.underlying2
  a2 := Tryz.isAgg2
  z2 := Tryz.sizeOf2
  v2 := Tryz.zeroValue2
  t3 := Tryz.underlying3
  a3 := Tryz.isAgg3
  z3 := Tryz.sizeOf3
  v3 := Tryz.zeroValue3
  t4 := Tryz.underlying4
  a4 := Tryz.isAgg4
  z4 := Tryz.sizeOf4
  v4 := Tryz.zeroValue4
  t5 := Tryz.underlying5
  a5 := Tryz.isAgg5
  z5 := Tryz.sizeOf5
  v5 := Tryz.zeroValue5
  t9 := Tryz.underlying9
  a9 := Tryz.isAgg9
  z9 := Tryz.sizeOf9
  v9 := Tryz.zeroValue9
  t20 := Tryz.underlying20
  a20 := Tryz.isAgg20
  z20 := Tryz.sizeOf20
  v20 := Tryz.zeroValue20
  t21 := Tryz.underlying21
  a21 := Tryz.isAgg21
  z21 := Tryz.sizeOf21
  v21 := Tryz.zeroValue21
  t37 := Tryz.underlying22
  a37 := Tryz.isAgg22
  z37 := Tryz.sizeOf22
  v37 := Tryz.zeroValue22
  t46 := Tryz.underlying95
  a46 := Tryz.isAgg95
  z46 := Tryz.sizeOf95
  v46 := Tryz.zeroValue95
  t51 := Tryz.underlying110
  a51 := Tryz.isAgg110
  z51 := Tryz.sizeOf110
  v51 := Tryz.zeroValue110
  t53 := Tryz.underlying119
  a53 := Tryz.isAgg119
  z53 := Tryz.sizeOf119
  v53 := Tryz.zeroValue119
  t75 := Tryz.underlying92
  a75 := Tryz.isAgg92
  z75 := Tryz.sizeOf92
  v75 := Tryz.zeroValue92
  t76 := Tryz.underlying99
  a76 := Tryz.isAgg99
  z76 := Tryz.sizeOf99
  v76 := Tryz.zeroValue99
  t85 := Tryz.underlying114
  a85 := Tryz.isAgg114
  z85 := Tryz.sizeOf114
  v85 := Tryz.zeroValue114
  t127 := Tryz.underlying128
  a127 := Tryz.isAgg128
  z127 := Tryz.sizeOf128
  v127 := Tryz.zeroValue128
  t143 := Tryz.underlying129
  a143 := Tryz.isAgg129
  z143 := Tryz.sizeOf129
  v143 := Tryz.zeroValue129
  t145 := Tryz.underlying131
  a145 := Tryz.isAgg131
  z145 := Tryz.sizeOf131
  v145 := Tryz.zeroValue131
  t167 := Tryz.underlying113
  a167 := Tryz.isAgg113
  z167 := Tryz.sizeOf113
  v167 := Tryz.zeroValue113
  t168 := Tryz.underlying116
  a168 := Tryz.isAgg116
  z168 := Tryz.sizeOf116
  v168 := Tryz.zeroValue116
  t171 := Tryz.underlying132
  a171 := Tryz.isAgg132
  z171 := Tryz.sizeOf132
  v171 := Tryz.zeroValue132
  t173 := Tryz.underlying135
  a173 := Tryz.isAgg135
  z173 := Tryz.sizeOf135
  v173 := Tryz.zeroValue135
  t175 := Tryz.underlying120
  a175 := Tryz.isAgg120
  z175 := Tryz.sizeOf120
  v175 := Tryz.zeroValue120
  t210 := Tryz.underlying124
  a210 := Tryz.isAgg124
  z210 := Tryz.sizeOf124
  v210 := Tryz.zeroValue124
  t212 := Tryz.underlying138
  a212 := Tryz.isAgg138
  z212 := Tryz.sizeOf138
  v212 := Tryz.zeroValue138
  t213 := Tryz.underlying139
  a213 := Tryz.isAgg139
  z213 := Tryz.sizeOf139
  t232 := Tryz.underlying142
  a232 := Tryz.isAgg142
  z232 := Tryz.sizeOf142
  v232 := Tryz.zeroValue142
  t233 := Tryz.underlying143
  a233 := Tryz.isAgg143
  z233 := Tryz.sizeOf143
  v233 := Tryz.zeroValue143
  g15 := by kernel_rfl
  g16 := by kernel_rfl
  g17 := by kernel_rfl
  g18 := by kernel_rfl
  g19 := by kernel_rfl
  t80 := Tryz.underlying43
  a80 := Tryz.isAgg43
  z80 := Tryz.sizeOf43
  v80 := Tryz.zeroValue43
  i0 := by kernel_rfl
  i2 := by kernel_rfl
  i3 := by kernel_rfl
  i4 := by kernel_rfl
  i5 := by kernel_rfl
  i9 := by kernel_rfl
  i20 := by kernel_rfl
  i21 := by kernel_rfl
  i37 := by kernel_rfl
  i46 := by kernel_rfl
  i51 := by kernel_rfl
  i53 := by kernel_rfl
  i75 := by kernel_rfl
  i76 := by kernel_rfl
  i80 := by kernel_rfl
  i85 := by kernel_rfl
  i127 := by kernel_rfl
  i143 := by kernel_rfl
  i145 := by kernel_rfl
  i167 := by kernel_rfl
  i168 := by kernel_rfl
  i171 := by kernel_rfl
  i173 := by kernel_rfl
  i175 := by kernel_rfl
  i210 := by kernel_rfl
  i212 := by kernel_rfl
  i232 := by kernel_rfl
  i233 := by kernel_rfl
  m15 := by kernel_rfl
  m16 := by kernel_rfl
  m17 := by kernel_rfl
  m18 := by kernel_rfl
  m19 := by kernel_rfl
  c0 := by kernel_rfl
  c2 := by kernel_rfl
  c3 := by kernel_rfl
  c4 := by kernel_rfl
  c5 := by kernel_rfl
  c9 := by kernel_rfl
  c20 := by kernel_rfl
  c21 := by kernel_rfl
  c37 := by kernel_rfl
  c46 := by kernel_rfl
  c51 := by kernel_rfl
  c53 := by kernel_rfl
  c75 := by kernel_rfl
  c76 := by kernel_rfl
  c80 := by kernel_rfl
  c85 := by kernel_rfl
  c127 := by kernel_rfl
  c143 := by kernel_rfl
  c145 := by kernel_rfl
  c167 := by kernel_rfl
  c168 := by kernel_rfl
  c171 := by kernel_rfl
  c173 := by kernel_rfl
  c175 := by kernel_rfl
  c210 := by kernel_rfl
  c212 := by kernel_rfl
  c213 := by kernel_rfl
  c232 := by kernel_rfl
  c233 := by kernel_rfl }
open Go.RowKit in
theorem Tryz.strconv_Atoi_ok (s : ByteArray) (hmax : s.size ≤ 9223372036854775806) (v : Int) (h : Lib.atoiAll s.data.toList = .ok v) (w : World) :
    Calls Tryz.prog 50 #[.string s] w fun e w' => e = .returned (.tuple #[.int .i64 v, .nilIface]) ∧ (w' = w ∨ ∃ t, w' = Lib.bytesWorld w 5 t) := Any.strconv_Atoi_ok Tryz.laysC172 s hmax v h w
end Go.Proofs
namespace Go.Proofs.YtpkkdkdecajekaaGreatDoor
open Go.RowKit Go.ChangeShapes

theorem cells96 : Tryz.prog.cellsOf 131 = 1 := by kernel_rfl
theorem cells9 : Tryz.prog.cellsOf 9 = 1 := by kernel_rfl
theorem star : "*" ++ "errors.errorString" = "*errors.errorString" := by decide
theorem row94 (u : TypeId) (h : Tryz.prog.typeName? 3 u = some "*errors.errorString") : u = 129 :=
  typeName_ptr_named (nm := "errors.errorString") (by rw [star]; kernel_rfl) (by kernel_rfl) (by decide) u (by rw [star]; exact h)

/-- The head of the list, a sentinel: its variable holds a pointer. -/
theorem sent {n : String} {text : List UInt8} {r : List (String × DataW Unit)} {W : World} {g : Nat} (h : laidMet Tryz.prog ((n, .iface "*errors.errorString" (.ptr (.agg [.lit (.string text)]))) :: r) W)
    (hg : Tryz.prog.globalNamed n = some g) (ht : (Tryz.prog.globals[g]?).map (·.type) = some 92) : ∃ a : Addr, W.var? Tryz.prog n = some #[.iface 129 (.pointer (some a))] := by
  obtain ⟨a, _, h, _⟩ := laid_sentinel h hg ht Tryz.underlying92 row94 Tryz.underlying129 Tryz.underlying131 rfl rfl Tryz.underlying9 cells96 cells9
  exact ⟨a, h⟩
end Go.Proofs.YtpkkdkdecajekaaGreatDoor
namespace Go.Proofs.YtpkkdkdecajekaaGreatDoor
open Go.RowKit
set_option linter.unusedVariables false
theorem told_ok (n : Int) (w : World) : Calls Tryz.prog 44 #[.int .i64 n, .nilIface] w fun e w' => e = .returned (.tuple #[.int .i64 n, .bool true]) ∧ w' = w := by
  go_enter Tryz.func44, Tryz.ntmps44
  go_wp2
  go_ret2
  exact ⟨rfl, rfl⟩
theorem told_no (n : Int) (u : TypeId) (x : Value) (w : World) : Calls Tryz.prog 44 #[.int .i64 n, .iface u x] w fun e w' => e = .returned (.tuple #[.int .i64 0, .bool false]) ∧ w' = w := by
  go_enter Tryz.func44, Tryz.ntmps44
  go_wp2
  go_ret2
  exact ⟨rfl, rfl⟩
theorem gNumber : Tryz.prog.globalNamed "loop.example/g00400/impl.errNoNumber" = some 1 := by kernel_rfl
theorem tNumber : (Tryz.prog.globals[1]?).map (·.type) = some 92 := by kernel_rfl
end Go.Proofs.YtpkkdkdecajekaaGreatDoor
namespace Go.Proofs.YtpkkdkdecajekaaGreatDoor
open Go.RowKit
set_option linter.unusedVariables false

theorem atoi_ok (s : ByteArray) (v : Int) (w : World) (hs : s.size ≤ 1048576) (h : Lib.atoiAll s.data.toList = .ok v) :
    Calls Tryz.prog 50 #[.string s] w fun e w' => e = .returned (.tuple #[.int .i64 v, .nilIface]) ∧ Keeps w w' := by
  refine (Tryz.strconv_Atoi_ok s (by omega) v h w).mono ?_
  rintro e w' ⟨rfl, h | ⟨t, h⟩⟩
  · subst h; exact ⟨rfl, Keeps.refl _⟩
  · subst h; exact ⟨rfl, Lib.bytesWorld_below _ _ _⟩
theorem atoi_no (s : ByteArray) (w : World) (hs : s.size ≤ 1048576) (tS tR : TypeId) (pS pR : Value) (hS : w.var? Tryz.prog "strconv.ErrSyntax" = some #[.iface tS pS]) (hR : w.var? Tryz.prog "strconv.ErrRange" = some #[.iface tR pR])
    (h : ∀ v, Lib.atoiAll s.data.toList ≠ .ok v) :
    Calls Tryz.prog 50 #[.string s] w fun e w' => (∃ v u x, e = .returned (.tuple #[.int .i64 v, .iface u x])) ∧ Keeps w w' := by
  cases hc : Lib.atoiAll s.data.toList with
  | ok v => exact absurd hc (h v)
  | _ =>
    first
      | (refine (Any.strconv_Atoi_range_var Tryz.laysC172 s (by omega) hc tR pR w hR).mono ?_; rintro e w' ⟨N, rfl, _, _, hb⟩; exact ⟨⟨_, _, _, rfl⟩, hb⟩)
      | (refine (Any.strconv_Atoi_syntax_var Tryz.laysC172 s (by omega) hc tS pS w hS).mono ?_; rintro e w' ⟨N, rfl, _, _, hb⟩; exact ⟨⟨_, _, _, rfl⟩, hb⟩)

theorem toList_data (s : ByteArray) : s.toList = s.data.toList := ByteArray.toList_eq s
theorem atoi_ne {l : List UInt8} {v : Int} (h : Lib.atoiAll l = .ok v) : l ≠ [] := by
  intro e; subst e; cases h

theorem number_any (s : ByteArray) (w : World) (hs : s.size ≤ 1048576) (tS tR u1 : TypeId) (pS pR x1 : Value) (hS : w.var? Tryz.prog "strconv.ErrSyntax" = some #[.iface tS pS]) (hR : w.var? Tryz.prog "strconv.ErrRange" = some #[.iface tR pR])
    (ht : Tab w) (hg : w.cell? ⟨1, 0, none⟩ = some (.iface u1 x1)) :
    Calls Tryz.prog 45 #[.string s] w fun e w' => ((∃ v, Res s.data.toList v true ∧ e = .returned (.tuple #[.int .i64 v, .nilIface])) ∨ (Res s.data.toList 0 false ∧ ∃ u x, e = .returned (.tuple #[.int .i64 0, .iface u x]))) ∧ Keeps w w' := by
  by_cases hok : ∃ v, Lib.atoiAll s.data.toList = .ok v
  · obtain ⟨v, hv⟩ := hok
    have HA := hide (atoi_ok s v w hs hv)
    have HN := hide (fun w1 (h : Tab w1) => num_impl v w1 h)
    have HT := hide ht
    have HR := hide (fun h => res_other hv h)
    have HY := hide (fun hl h => res_yes (l := s.data.toList) (v := v) hl h)
    have HL := hide (atoi_ne hv)
    clear hS hR ht hv
    cases hb : numT v == s.toList
    · have HB : Hid (numT v ≠ s.data.toList) := by
        rw [toList_data] at hb
        exact beq_eq_false_iff_ne.1 hb
      go_enter Tryz.func45, Tryz.ntmps45
      go_wp2_with (first | (go_at_call 50; refine (unhide HA).mono ?_; rintro e w1 ⟨rfl, hk⟩) | (go_at_call 51; refine (unhide HN _ ((unhide HT).kept hk)).mono ?_; rintro e w2 ⟨rfl, hk2⟩; have hg2 := (hk.trans hk2).cell hg))
      go_quiet (fail)
      go_wp2
      go_ret2
      exact ⟨Or.inr ⟨unhide HR HB.out, _, _, rfl⟩, (hk.trans hk2).drewN _⟩
    · have HB : Hid (numT v = s.data.toList) := by
        rw [toList_data] at hb
        exact beq_iff_eq.1 hb
      go_enter Tryz.func45, Tryz.ntmps45
      go_wp2_with (first | (go_at_call 50; refine (unhide HA).mono ?_; rintro e w1 ⟨rfl, hk⟩) | (go_at_call 51; refine (unhide HN _ ((unhide HT).kept hk)).mono ?_; rintro e w2 ⟨rfl, hk2⟩))
      go_ret2
      exact ⟨Or.inl ⟨_, unhide HY HL.out HB.out, rfl⟩, hk.trans hk2⟩
  · have hok' : ∀ v, Lib.atoiAll s.data.toList ≠ .ok v := fun v h => hok ⟨v, h⟩
    have HA := hide (atoi_no s w hs tS tR pS pR hS hR hok')
    have HR := hide (res_err hok')
    clear hS hR ht hok hok'
    go_enter Tryz.func45, Tryz.ntmps45
    go_wp2_with (first | (go_at_call 50; refine (unhide HA).mono ?_; rintro e w1 ⟨⟨v, u, x, rfl⟩, hk⟩; have hg2 := hk.cell hg))
    go_quiet (fail)
    go_wp2
    go_ret2
    exact ⟨Or.inr ⟨unhide HR, _, _, rfl⟩, hk.drewN _⟩

theorem text_impl (s : ByteArray) (w : World) (hs : s.size ≤ 1048576) (tS tR u1 : TypeId) (pS pR x1 : Value) (hS : w.var? Tryz.prog "strconv.ErrSyntax" = some #[.iface tS pS]) (hR : w.var? Tryz.prog "strconv.ErrRange" = some #[.iface tR pR])
    (ht : Tab w) (hg : w.cell? ⟨1, 0, none⟩ = some (.iface u1 x1)) :
    Calls Tryz.prog 40 #[.string s] w fun e w' => (∃ v b, Res s.data.toList v b ∧ e = .returned (.tuple #[.int .i64 v, .bool b])) ∧ Keeps w w' := by
  have HN := hide (number_any s w hs tS tR u1 pS pR x1 hS hR ht hg)
  clear hS hR ht hg
  go_enter Tryz.func40, Tryz.ntmps40
  go_wp2_with fail
  refine (unhide HN).mono ?_
  rintro e w1 ⟨⟨v, hr, rfl⟩ | ⟨hr, u, x, rfl⟩, hk⟩
  · go_wp2_with (go_at_call 44; refine (told_ok _ _).mono ?_; rintro e w' ⟨rfl, hw⟩; rw [hw]; clear hw w')
    go_ret2
    exact ⟨⟨_, _, hr, rfl⟩, hk⟩
  · go_wp2_with (go_at_call 44; refine (told_no _ _ _ _).mono ?_; rintro e w' ⟨rfl, hw⟩; rw [hw]; clear hw w')
    go_ret2
    exact ⟨⟨_, _, hr, rfl⟩, hk⟩
end Go.Proofs.YtpkkdkdecajekaaGreatDoor
namespace Go.Proofs.YtpkkdkdecajekaaGreatDoor
open Go.RowKit Go.Deep
set_option linter.unusedVariables false
set_option linter.unusedSimpArgs false
set_option maxRecDepth 10000
/-- What the package's variables hold while texts are read. -/
structure Env (w : World) : Prop where
  tab : Tab w
  syn : ∃ t p, w.var? Tryz.prog "strconv.ErrSyntax" = some #[.iface t p]
  rng : ∃ t p, w.var? Tryz.prog "strconv.ErrRange" = some #[.iface t p]
  num : ∃ t p, w.cell? ⟨1, 0, none⟩ = some (.iface t p)
theorem Env.kept {w w' : World} (h : Env w) (hk : Keeps w w') : Env w' := by
  obtain ⟨a, ⟨t, p, b⟩, ⟨t', p', c⟩, ⟨t2, p2, d⟩⟩ := h
  exact ⟨a.kept hk, ⟨t, p, var_kept hk b⟩, ⟨t', p', var_kept hk c⟩, ⟨t2, p2, hk.cell d⟩⟩
theorem textnum_k (s : ByteArray) (w : World) (hs : s.size ≤ 1048576) (h : Env w) :
    Calls Tryz.prog 40 #[.string s] w fun e w' => (∃ b : Bool, e = .returned (.tuple #[.int .i64 (txN s.data.toList), .bool b])) ∧ Keeps w w' := by
  obtain ⟨ht, ⟨tS, pS, hS⟩, ⟨tR, pR, hR⟩, ⟨u1, x1, hg⟩⟩ := h
  refine (text_impl s w hs tS tR u1 pS pR x1 hS hR ht hg).mono ?_
  rintro e w' ⟨⟨v, b, hr, rfl⟩, hk⟩
  exact ⟨⟨b, by rw [res_tx hr]⟩, hk⟩
/-- Words in memory. -/
def Wds (w : World) (b off : Nat) (ws : List ByteArray) : Prop := ∀ i (h : i < ws.length), w.cell? ⟨b, off + i, none⟩ = some (.string ws[i])
theorem Wds.kept {w w' : World} {b off : Nat} {ws : List ByteArray} (h : Wds w b off ws) (hk : Keeps w w') : Wds w' b off ws := fun i hi => hk.cell (h i hi)
noncomputable def nn (ws : List ByteArray) (i : Nat) : Int := if h : i < ws.length then txN ws[i].data.toList else 0
noncomputable def nRow (ws : List ByteArray) (k i : Nat) : Value := if i < k then .int .i64 (nn ws i) else .int .i64 0
theorem five_zero : ∀ i, i < (#[.int .i64 0, .int .i64 0, .int .i64 0, .int .i64 0, .int .i64 0] : Array Value).size → (#[.int .i64 0, .int .i64 0, .int .i64 0, .int .i64 0, .int .i64 0] : Array Value)[i]? = some (.int .i64 0)
  | 0, _ => rfl
  | 1, _ => rfl
  | 2, _ => rfl
  | 3, _ => rfl
  | 4, _ => rfl
  | n + 5, h => absurd h (by simp)
theorem size_allocW (w : World) (o : Obj) : (w.alloc o).heap.size = w.heap.size + 1 := by simp
theorem nRow_step (ws : List ByteArray) (k j : Nat) : (if j = k then (.int .i64 (nn ws k) : Value) else nRow ws k j) = nRow ws (k + 1) j := by
  unfold nRow
  by_cases e : j = k
  · subst e
    rw [if_pos rfl, if_pos (by omega)]
  · rw [if_neg e]
    by_cases h : j < k
    · rw [if_pos h, if_pos (by omega)]
    · rw [if_neg h, if_neg (by omega)]
theorem nRow_end (ws : List ByteArray) (k j : Nat) (hj : j < 5) (h : k = 5 ∨ k = ws.length) (hl : k ≤ ws.length) (h5 : k ≤ 5) : nRow ws k j = nRow ws 5 j := by
  unfold nRow
  rw [if_pos hj]
  by_cases hk : j < k
  · rw [if_pos hk]
  · rw [if_neg hk]
    unfold nn
    rw [dif_neg (by omega)]
set_option maxHeartbeats 4000000 in
theorem numbers_k (b off cap : Nat) (ws : List ByteArray) (w : World) (hw : Wds w b off ws) (hs : ∀ x ∈ ws, x.size ≤ 1048576) (hl : ws.length ≤ 8) (he : Env w) :
    Calls Tryz.prog 34 #[.slice (some ⟨b, off, none⟩) ws.length cap] w fun e w' => e = .returned (.agg #[.int .i64 (nn ws 0), .int .i64 (nn ws 1), .int .i64 (nn ws 2), .int .i64 (nn ws 3), .int .i64 (nn ws 4)]) ∧ Keeps w w' := by
  have HW := hide hw
  have HS := hide hs
  have HE := hide he
  clear hw hs he
  go_enter Tryz.func34, Tryz.ntmps34
  have HR0 := hide ((World.rowIs_alloc w #[.int .i64 0, .int .i64 0, .int .i64 0, .int .i64 0, .int .i64 0] 87 (fun _ => .int .i64 0) five_zero).alloc (.cells #[.int .i64 0, .int .i64 0, .int .i64 0, .int .i64 0, .int .i64 0] 87))
  have HA0 := hide ((World.rowIs_alloc (w.alloc (.cells #[.int .i64 0, .int .i64 0, .int .i64 0, .int .i64 0, .int .i64 0] 87)) #[.int .i64 0, .int .i64 0, .int .i64 0, .int .i64 0, .int .i64 0] 87 (fun _ => .int .i64 0) five_zero).congr (g := nRow ws 0) (fun i _ => by simp [nRow]))
  rw [size_allocW] at HA0
  have HK0 := hide (two_keeps w (.cells #[.int .i64 0, .int .i64 0, .int .i64 0, .int .i64 0, .int .i64 0] 87) (.cells #[.int .i64 0, .int .i64 0, .int .i64 0, .int .i64 0, .int .i64 0] 87))
  go_wp2_with fail
  go_loopw [4] (fun y wr => ∃ k : Nat, k ≤ 5 ∧ k ≤ ws.length ∧ y = .int .i64 (k : Int) ∧ Hid (wr.rowIs w.heap.size 87 5 (fun _ => .int .i64 0)) ∧ Hid (wr.rowIs (w.heap.size + 1) 87 5 (nRow ws k)) ∧ Hid (Keeps w wr)) (fun y _ => 5 - (intOf y).toNat)
  case atStart => exact ⟨0, by omega, by omega, rfl, HR0, HA0, HK0⟩
  case round =>
    clear HR0 HA0 HK0
    obtain ⟨k, hk5, hkl, rfl, HR, HA, HK⟩ := hrel
    by_cases hlt : k < 5 ∧ k < ws.length
    · obtain ⟨h5, hlt⟩ := hlt
      have c0 := (HW.out.kept HK.out) k hlt
      have hsz := HS.out ws[k] (List.getElem_mem hlt)
      have hn : nn ws k = txN ws[k].data.toList := by unfold nn; rw [dif_pos hlt]
      generalize ws[k] = x at *
      go_wp2_with fail
      refine (textnum_k x wr hsz (HE.out.kept HK.out)).mono ?_
      rintro e w1 ⟨⟨bb, rfl⟩, hk1⟩
      have HR1 := hide (HR.out.of_block (Below.block hk1 _ HR.out.lt))
      have HA1 := hide (HA.out.of_block (Below.block hk1 _ HA.out.lt))
      have HK1 := hide (HK.out.trans hk1)
      have d0 := HA1.out.cell (i := k) (by omega)
      have df := HA1.out.frozen k
      have dl := HA1.out.lt
      rw [← hn]
      have HN := hide hn
      clear hk1 HR HA HK c0 hn
      generalize hv : nn ws k = v at *
      have HV := hide hv
      clear hv
      go_wp2_with fail
      go_roundw
      case rel => exact ⟨k + 1, by omega, by omega, by go_num, HR1.out.setOther (by simp) _, (HA1.out.set k (.int .i64 v)).congr (fun j hj => by rw [← HV.out]; exact nRow_step ws k j), Keeps.setCell HK1.out (by simp) _⟩
      case measure => simp [intOf]; omega
    · have HF := hide (HA.out.congr (g := nRow ws 5) (fun j hj => nRow_end ws k j hj (by omega) hkl hk5))
      have d0 := HF.out.cell (i := 0) (by decide)
      have d1 := HF.out.cell (i := 1) (by decide)
      have d2 := HF.out.cell (i := 2) (by decide)
      have d3 := HF.out.cell (i := 3) (by decide)
      have d4 := HF.out.cell (i := 4) (by decide)
      simp only [nRow] at d0 d1 d2 d3 d4
      rw [if_pos (by decide)] at d0 d1 d2 d3 d4
      have r0 := HR.out.cell (i := 0) (by decide)
      have r1 := HR.out.cell (i := 1) (by decide)
      have r2 := HR.out.cell (i := 2) (by decide)
      have r3 := HR.out.cell (i := 3) (by decide)
      have r4 := HR.out.cell (i := 4) (by decide)
      have f0 := HR.out.frozen 0
      have f1 := HR.out.frozen 1
      have f2 := HR.out.frozen 2
      have f3 := HR.out.frozen 3
      have f4 := HR.out.frozen 4
      have rl := HR.out.lt
      have HK2 := hide HK.out
      have HRR := hide HR.out
      clear HA HF HK HR
      generalize hn0 : nn ws 0 = n0 at *
      have HN0 := hide hn0
      clear hn0
      generalize hn1 : nn ws 1 = n1 at *
      have HN1 := hide hn1
      clear hn1
      generalize hn2 : nn ws 2 = n2 at *
      have HN2 := hide hn2
      clear hn2
      generalize hn3 : nn ws 3 = n3 at *
      have HN3 := hide hn3
      clear hn3
      generalize hn4 : nn ws 4 = n4 at *
      have HN4 := hide hn4
      clear hn4
      have HKF : Hid (Keeps w (((((wr.setCell ⟨w.heap.size, 0, none⟩ (.int .i64 n0)).setCell ⟨w.heap.size, 1, none⟩ (.int .i64 n1)).setCell ⟨w.heap.size, 2, none⟩ (.int .i64 n2)).setCell ⟨w.heap.size, 3, none⟩ (.int .i64 n3)).setCell ⟨w.heap.size, 4, none⟩ (.int .i64 n4))) := ((((Keeps.setCell HK2.out (Nat.le_refl _) _).setCell (Nat.le_refl _) _).setCell (Nat.le_refl _) _).setCell (Nat.le_refl _) _).setCell (Nat.le_refl _) _
      clear HK2
      have hcase : k = 5 ∨ (k < 5 ∧ k = ws.length) := by omega
      rcases hcase with rfl | ⟨h5, rfl⟩
      all_goals
        go_wp2_with fail
        refine bodyPost_ret (v := .agg #[.int .i64 n0, .int .i64 n1, .int .i64 n2, .int .i64 n3, .int .i64 n4]) ?_ rfl ⟨by rw [HN0.out, HN1.out, HN2.out, HN3.out, HN4.out], HKF.out⟩
        have r9 := (((((HRR.out.set 0 (.int .i64 n0)).set 1 (.int .i64 n1)).set 2 (.int .i64 n2)).set 3 (.int .i64 n3)).set 4 (.int .i64 n4))
        have o0 := r9.cell (i := 0) (by decide)
        have o1 := r9.cell (i := 1) (by decide)
        have o2 := r9.cell (i := 2) (by decide)
        have o3 := r9.cell (i := 3) (by decide)
        have o4 := r9.cell (i := 4) (by decide)
        simp at o0 o1 o2 o3 o4
        clear r9 HRR HKF r0 r1 r2 r3 r4 f0 f1 f2 f3 f4 d0 d1 d2 d3 d4
        revert o0 o1 o2 o3 o4
        generalize World.setCell (World.setCell _ _ _) _ _ = W'
        intro o0 o1 o2 o3 o4
        simp [results, Tryz.results34, go_sem, o0, o1, o2, o3, o4]
end Go.Proofs.YtpkkdkdecajekaaGreatDoor
