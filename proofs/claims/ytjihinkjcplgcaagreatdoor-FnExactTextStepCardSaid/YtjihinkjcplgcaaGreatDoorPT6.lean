/- Texts of the verifier, joined: Txt, EtI. -/
import Derived.Test.YtjihinkjcplgcaaGreatDoorPT2
import Derived.Test.YtjihinkjcplgcaaGreatDoorPT5
import Derived.Test.YtjihinkjcplgcaaGreatDoorPT3
namespace Go.Proofs.YtjihinkjcplgcaaGreatDoor
open Go.RowKit Go.Deep
set_option linter.unusedVariables false
set_option maxRecDepth 10000
theorem nums_two (w : World) (o : Obj) (K : List Int) : Cells ((w.alloc o).alloc (.cells (nums K).toArray 3)) (some ⟨w.heap.size + 1, 0, none⟩) (nums K) := by
  have h := (born_alloc (w.alloc o) (nums K).toArray 3).toOwn.one
  simpa using h
theorem two_keeps (w : World) (o p : Obj) : Keeps w ((w.alloc o).alloc p) := Keeps.alloc (Keeps.alloc (Keeps.refl w) o) p
theorem ret_more {D X : List UInt8} {c : List UInt8} (h : X = D ++ c) : Ending.returned (.string (⟨D.toArray⟩ ++ ⟨c.toArray⟩)) = .returned (.string ⟨X.toArray⟩) := by
  rw [h, ByteArray.mk_append_mk]
theorem sen_len {W : List UInt8} {ns : List Int} (h : W.length ≤ 20) (h' : ns.length ≤ 8) : (sen W ns).length ≤ 200 := by
  have := senN_len ns
  simp only [sen, List.length_append]
  omega
set_option maxHeartbeats 2000000 in
theorem text_deposit (m : Int) (w : World) (ht : Tab w) : Calls Tryz.prog 149 #[.agg #[.int .i64 m]] w fun e w' => e = .returned (.string ⟨(sen [100, 101, 112, 111, 115, 105, 116] [m]).toArray⟩) ∧ Keeps w w' := by
  have HT := hide ht
  clear ht
  have HC : Hid (Cells ((w.alloc (.cells #[.int .i64 m] 111)).alloc (.cells #[.int .i64 m] 3)) (some ⟨w.heap.size + 1, 0, none⟩) (nums [m])) := nums_two w _ [m]
  have HK := hide (two_keeps w (.cells #[.int .i64 m] 111) (.cells #[.int .i64 m] 3))
  go_enter Tryz.func149, Tryz.ntmps149
  go_wp2_with fail
  refine (sentence_k [100, 101, 112, 111, 115, 105, 116] (some ⟨w.heap.size + 1, 0, none⟩) 1 [m] _ (by decide) (by decide) (by simp) HC.out (HT.out.kept HK.out)).mono ?_
  rintro e w1 ⟨rfl, hk⟩
  have HK1 := hide (HK.out.trans hk)
  clear hk HC HK
  go_wp2_with fail
  go_ret
  exact ⟨rfl, HK1.out⟩
set_option maxHeartbeats 2000000 in
theorem text_open (c m f : Int) (w : World) (ht : Tab w) : Calls Tryz.prog 152 #[.agg #[.int .i64 c, .int .i64 m, .int .i64 f]] w fun e w' => e = .returned (.string ⟨(sen [111, 112, 101, 110] [c, m, f]).toArray⟩) ∧ Keeps w w' := by
  have HT := hide ht
  clear ht
  have HC : Hid (Cells ((w.alloc (.cells #[.int .i64 c, .int .i64 m, .int .i64 f] 113)).alloc (.cells #[.int .i64 c, .int .i64 m, .int .i64 f] 3)) (some ⟨w.heap.size + 1, 0, none⟩) (nums [c, m, f])) := nums_two w _ [c, m, f]
  have HK := hide (two_keeps w (.cells #[.int .i64 c, .int .i64 m, .int .i64 f] 113) (.cells #[.int .i64 c, .int .i64 m, .int .i64 f] 3))
  go_enter Tryz.func152, Tryz.ntmps152
  go_wp2_with fail
  refine (sentence_k [111, 112, 101, 110] (some ⟨w.heap.size + 1, 0, none⟩) 3 [c, m, f] _ (by decide) (by decide) (by simp) HC.out (HT.out.kept HK.out)).mono ?_
  rintro e w1 ⟨rfl, hk⟩
  have HK1 := hide (HK.out.trans hk)
  clear hk HC HK
  go_wp2_with fail
  go_ret
  exact ⟨rfl, HK1.out⟩
set_option maxHeartbeats 2000000 in
theorem text_close (c f : Int) (w : World) (ht : Tab w) : Calls Tryz.prog 155 #[.agg #[.int .i64 c, .int .i64 f]] w fun e w' => e = .returned (.string ⟨(sen [99, 108, 111, 115, 101] [c, f]).toArray⟩) ∧ Keeps w w' := by
  have HT := hide ht
  clear ht
  have HC : Hid (Cells ((w.alloc (.cells #[.int .i64 c, .int .i64 f] 115)).alloc (.cells #[.int .i64 c, .int .i64 f] 3)) (some ⟨w.heap.size + 1, 0, none⟩) (nums [c, f])) := nums_two w _ [c, f]
  have HK := hide (two_keeps w (.cells #[.int .i64 c, .int .i64 f] 115) (.cells #[.int .i64 c, .int .i64 f] 3))
  go_enter Tryz.func155, Tryz.ntmps155
  go_wp2_with fail
  refine (sentence_k [99, 108, 111, 115, 101] (some ⟨w.heap.size + 1, 0, none⟩) 2 [c, f] _ (by decide) (by decide) (by simp) HC.out (HT.out.kept HK.out)).mono ?_
  rintro e w1 ⟨rfl, hk⟩
  have HK1 := hide (HK.out.trans hk)
  clear hk HC HK
  go_wp2_with fail
  go_ret
  exact ⟨rfl, HK1.out⟩
set_option maxHeartbeats 2000000 in
theorem text_price (c m f : Int) (w : World) (ht : Tab w) : Calls Tryz.prog 157 #[.agg #[.int .i64 c, .int .i64 m, .int .i64 f]] w fun e w' => e = .returned (.string ⟨(sen [112, 114, 105, 99, 101] [c, m, f]).toArray⟩) ∧ Keeps w w' := by
  have HT := hide ht
  clear ht
  have HC : Hid (Cells ((w.alloc (.cells #[.int .i64 c, .int .i64 m, .int .i64 f] 117)).alloc (.cells #[.int .i64 c, .int .i64 m, .int .i64 f] 3)) (some ⟨w.heap.size + 1, 0, none⟩) (nums [c, m, f])) := nums_two w _ [c, m, f]
  have HK := hide (two_keeps w (.cells #[.int .i64 c, .int .i64 m, .int .i64 f] 117) (.cells #[.int .i64 c, .int .i64 m, .int .i64 f] 3))
  go_enter Tryz.func157, Tryz.ntmps157
  go_wp2_with fail
  refine (sentence_k [112, 114, 105, 99, 101] (some ⟨w.heap.size + 1, 0, none⟩) 3 [c, m, f] _ (by decide) (by decide) (by simp) HC.out (HT.out.kept HK.out)).mono ?_
  rintro e w1 ⟨rfl, hk⟩
  have HK1 := hide (HK.out.trans hk)
  clear hk HC HK
  go_wp2_with fail
  go_ret
  exact ⟨rfl, HK1.out⟩
set_option maxHeartbeats 2000000 in
theorem text_fulfill (y : Int) (w : World) (ht : Tab w) : Calls Tryz.prog 163 #[.agg #[.int .i64 y]] w fun e w' => e = .returned (.string ⟨(sen [102, 117, 108, 102, 105, 108, 108] [y]).toArray⟩) ∧ Keeps w w' := by
  have HT := hide ht
  clear ht
  have HC : Hid (Cells ((w.alloc (.cells #[.int .i64 y] 121)).alloc (.cells #[.int .i64 y] 3)) (some ⟨w.heap.size + 1, 0, none⟩) (nums [y])) := nums_two w _ [y]
  have HK := hide (two_keeps w (.cells #[.int .i64 y] 121) (.cells #[.int .i64 y] 3))
  go_enter Tryz.func163, Tryz.ntmps163
  go_wp2_with fail
  refine (sentence_k [102, 117, 108, 102, 105, 108, 108] (some ⟨w.heap.size + 1, 0, none⟩) 1 [y] _ (by decide) (by decide) (by simp) HC.out (HT.out.kept HK.out)).mono ?_
  rintro e w1 ⟨rfl, hk⟩
  have HK1 := hide (HK.out.trans hk)
  clear hk HC HK
  go_wp2_with fail
  go_ret
  exact ⟨rfl, HK1.out⟩
set_option maxHeartbeats 2000000 in
theorem text_fail (y : Int) (w : World) (ht : Tab w) : Calls Tryz.prog 165 #[.agg #[.int .i64 y]] w fun e w' => e = .returned (.string ⟨(sen [102, 97, 105, 108] [y]).toArray⟩) ∧ Keeps w w' := by
  have HT := hide ht
  clear ht
  have HC : Hid (Cells ((w.alloc (.cells #[.int .i64 y] 122)).alloc (.cells #[.int .i64 y] 3)) (some ⟨w.heap.size + 1, 0, none⟩) (nums [y])) := nums_two w _ [y]
  have HK := hide (two_keeps w (.cells #[.int .i64 y] 122) (.cells #[.int .i64 y] 3))
  go_enter Tryz.func165, Tryz.ntmps165
  go_wp2_with fail
  refine (sentence_k [102, 97, 105, 108] (some ⟨w.heap.size + 1, 0, none⟩) 1 [y] _ (by decide) (by decide) (by simp) HC.out (HT.out.kept HK.out)).mono ?_
  rintro e w1 ⟨rfl, hk⟩
  have HK1 := hide (HK.out.trans hk)
  clear hk HC HK
  go_wp2_with fail
  go_ret
  exact ⟨rfl, HK1.out⟩
set_option maxHeartbeats 2000000 in
theorem text_tick (w : World) (ht : Tab w) : Calls Tryz.prog 167 #[.agg #[]] w fun e w' => e = .returned (.string ⟨(sen [116, 105, 99, 107] []).toArray⟩) ∧ Keeps w w' := by
  have HT := hide ht
  clear ht
  have HC : Hid (Cells (w.alloc (.cells #[] 124)) none (nums [])) := .inl rfl
  have HK := hide (Keeps.alloc (Keeps.refl w) (.cells #[] 124))
  go_enter Tryz.func167, Tryz.ntmps167
  go_wp2_with fail
  refine (sentence_k [116, 105, 99, 107] none 0 [] _ (by decide) (by decide) (by simp) HC.out (HT.out.kept HK.out)).mono ?_
  rintro e w1 ⟨rfl, hk⟩
  have HK1 := hide (HK.out.trans hk)
  clear hk HC HK
  go_wp2_with fail
  go_ret
  exact ⟨rfl, HK1.out⟩
set_option maxHeartbeats 2000000 in
theorem text_launch (y c t m f : Int) (w : World) (ht : Tab w) : Calls Tryz.prog 169 #[.agg #[.int .i64 y, .int .i64 c, .int .i64 t, .int .i64 m, .int .i64 f]] w fun e w' => e = .returned (.string ⟨(sen [108, 97, 117, 110, 99, 104] [y, c, t, m, f]).toArray⟩) ∧ Keeps w w' := by
  have HT := hide ht
  clear ht
  have HC : Hid (Cells ((w.alloc (.cells #[.int .i64 y, .int .i64 c, .int .i64 t, .int .i64 m, .int .i64 f] 126)).alloc (.cells #[.int .i64 y, .int .i64 c, .int .i64 t, .int .i64 m, .int .i64 f] 3)) (some ⟨w.heap.size + 1, 0, none⟩) (nums [y, c, t, m, f])) := nums_two w _ [y, c, t, m, f]
  have HK := hide (two_keeps w (.cells #[.int .i64 y, .int .i64 c, .int .i64 t, .int .i64 m, .int .i64 f] 126) (.cells #[.int .i64 y, .int .i64 c, .int .i64 t, .int .i64 m, .int .i64 f] 3))
  go_enter Tryz.func169, Tryz.ntmps169
  go_wp2_with fail
  refine (sentence_k [108, 97, 117, 110, 99, 104] (some ⟨w.heap.size + 1, 0, none⟩) 5 [y, c, t, m, f] _ (by decide) (by decide) (by simp) HC.out (HT.out.kept HK.out)).mono ?_
  rintro e w1 ⟨rfl, hk⟩
  have HK1 := hide (HK.out.trans hk)
  clear hk HC HK
  go_wp2_with fail
  go_ret
  exact ⟨rfl, HK1.out⟩
set_option maxHeartbeats 2000000 in
theorem text_arrive (y : Int) (w : World) (ht : Tab w) : Calls Tryz.prog 171 #[.agg #[.int .i64 y]] w fun e w' => e = .returned (.string ⟨(sen [97, 114, 114, 105, 118, 101] [y]).toArray⟩) ∧ Keeps w w' := by
  have HT := hide ht
  clear ht
  have HC : Hid (Cells ((w.alloc (.cells #[.int .i64 y] 127)).alloc (.cells #[.int .i64 y] 3)) (some ⟨w.heap.size + 1, 0, none⟩) (nums [y])) := nums_two w _ [y]
  have HK := hide (two_keeps w (.cells #[.int .i64 y] 127) (.cells #[.int .i64 y] 3))
  go_enter Tryz.func171, Tryz.ntmps171
  go_wp2_with fail
  refine (sentence_k [97, 114, 114, 105, 118, 101] (some ⟨w.heap.size + 1, 0, none⟩) 1 [y] _ (by decide) (by decide) (by simp) HC.out (HT.out.kept HK.out)).mono ?_
  rintro e w1 ⟨rfl, hk⟩
  have HK1 := hide (HK.out.trans hk)
  clear hk HC HK
  go_wp2_with fail
  go_ret
  exact ⟨rfl, HK1.out⟩
set_option maxHeartbeats 2000000 in
theorem text_lost (y : Int) (w : World) (ht : Tab w) : Calls Tryz.prog 173 #[.agg #[.int .i64 y]] w fun e w' => e = .returned (.string ⟨(sen [108, 111, 115, 116] [y]).toArray⟩) ∧ Keeps w w' := by
  have HT := hide ht
  clear ht
  have HC : Hid (Cells ((w.alloc (.cells #[.int .i64 y] 128)).alloc (.cells #[.int .i64 y] 3)) (some ⟨w.heap.size + 1, 0, none⟩) (nums [y])) := nums_two w _ [y]
  have HK := hide (two_keeps w (.cells #[.int .i64 y] 128) (.cells #[.int .i64 y] 3))
  go_enter Tryz.func173, Tryz.ntmps173
  go_wp2_with fail
  refine (sentence_k [108, 111, 115, 116] (some ⟨w.heap.size + 1, 0, none⟩) 1 [y] _ (by decide) (by decide) (by simp) HC.out (HT.out.kept HK.out)).mono ?_
  rintro e w1 ⟨rfl, hk⟩
  have HK1 := hide (HK.out.trans hk)
  clear hk HC HK
  go_wp2_with fail
  go_ret
  exact ⟨rfl, HK1.out⟩
set_option maxHeartbeats 2000000 in
theorem text_admit (y c t m : Int) (b : Bool) (w : World) (ht : Tab w) : Calls Tryz.prog 159 #[.agg #[.int .i64 y, .int .i64 c, .int .i64 t, .int .i64 m, .bool b]] w fun e w' => e = .returned (.string ⟨(sen [97, 100, 109, 105, 116] [y, c, t, m] ++ (if b = true then [32, 121, 101, 115] else [32, 110, 111])).toArray⟩) ∧ Keeps w w' := by
  have HT := hide ht
  clear ht
  have HC : Hid (Cells ((w.alloc (.cells #[.int .i64 y, .int .i64 c, .int .i64 t, .int .i64 m, .bool b] 119)).alloc (.cells #[.int .i64 y, .int .i64 c, .int .i64 t, .int .i64 m] 3)) (some ⟨w.heap.size + 1, 0, none⟩) (nums [y, c, t, m])) := nums_two w _ [y, c, t, m]
  have HK := hide (two_keeps w (.cells #[.int .i64 y, .int .i64 c, .int .i64 t, .int .i64 m, .bool b] 119) (.cells #[.int .i64 y, .int .i64 c, .int .i64 t, .int .i64 m] 3))
  cases b
  · go_enter Tryz.func159, Tryz.ntmps159
    go_wp2_with fail
    refine (sentence_k [97, 100, 109, 105, 116] (some ⟨w.heap.size + 1, 0, none⟩) 4 [y, c, t, m] _ (by decide) (by decide) (by simp) HC.out (HT.out.kept HK.out)).mono ?_
    rintro e w1 ⟨rfl, hk⟩
    have HK1 := hide (HK.out.trans hk)
    have hlen := sen_len (W := [97, 100, 109, 105, 116]) (ns := [y, c, t, m]) (by decide) (by simp)
    have c4 := hk.cell (p := ⟨w.heap.size, 4, none⟩) (v := .bool false) (by simp)
    generalize hZ : sen [97, 100, 109, 105, 116] [y, c, t, m] = Z at hlen ⊢
    have HZ := hide hZ
    clear hk HC HK hZ
    go_wp2_with fail
    go_ret
    exact ⟨ret_more (by rw [HZ.out]; try rfl), HK1.out⟩
  · go_enter Tryz.func159, Tryz.ntmps159
    go_wp2_with fail
    refine (sentence_k [97, 100, 109, 105, 116] (some ⟨w.heap.size + 1, 0, none⟩) 4 [y, c, t, m] _ (by decide) (by decide) (by simp) HC.out (HT.out.kept HK.out)).mono ?_
    rintro e w1 ⟨rfl, hk⟩
    have HK1 := hide (HK.out.trans hk)
    have hlen := sen_len (W := [97, 100, 109, 105, 116]) (ns := [y, c, t, m]) (by decide) (by simp)
    have c4 := hk.cell (p := ⟨w.heap.size, 4, none⟩) (v := .bool true) (by simp)
    generalize hZ : sen [97, 100, 109, 105, 116] [y, c, t, m] = Z at hlen ⊢
    have HZ := hide hZ
    clear hk HC HK hZ
    go_wp2_with fail
    go_ret
    exact ⟨ret_more (by rw [HZ.out]; try rfl), HK1.out⟩
end Go.Proofs.YtjihinkjcplgcaaGreatDoor
namespace Go.Proofs.YtjihinkjcplgcaaGreatDoor
open Go.RowKit Go.Deep
set_option linter.unusedVariables false
set_option maxRecDepth 10000
def etL (k y c t m f : Int) (b : Bool) : List UInt8 := if evB k y c t m f b = true then evT k y c t m f b else []
set_option maxHeartbeats 2000000 in
theorem etx_1 (y c t m f : Int) (b : Bool) (w : World) (ht : Tab w) (h : evB 1 y c t m f b = true) : Calls Tryz.prog 27 #[evV 1 y c t m f b] w fun e w' => e = .returned (.string ⟨(evT 1 y c t m f b).toArray⟩) ∧ Keeps w w' := by
  have hm2 : ∀ w : World, (method 300 111 (.agg #[.int .i64 m]) "loop.example/g00400/impl.text").run Tryz.prog w = .ok (149, .agg #[.int .i64 m]) w := fun _ => by kernel_rfl
  have HT := hide ht
  have HEO := hide (evok_impl 1 y c t m f b)
  rw [h] at HEO
  have HTX := hide (fun w1 ht1 => text_deposit m w1 ht1)
  simp only [← evT_1 y c t m f b] at HTX
  generalize evT 1 y c t m f b = X at HTX ⊢
  clear ht h
  have hkA := Keeps.alloc (Keeps.refl w) (.cells (evCells 1 y c t m f b) 28)
  go_enter Tryz.func27, Tryz.ntmps27
  go_wp2_with fail
  refine (HEO.out _).mono ?_
  rintro x w1 ⟨rfl, hk1⟩
  have c0 := hk1.cell (p := ⟨w.heap.size, 0, none⟩) (v := .int .i64 1) (by simp)
  have c1 := hk1.cell (p := ⟨w.heap.size, 1, none⟩) (v := .int .i64 y) (by simp)
  have c2 := hk1.cell (p := ⟨w.heap.size, 2, none⟩) (v := .int .i64 c) (by simp)
  have c3 := hk1.cell (p := ⟨w.heap.size, 3, none⟩) (v := .int .i64 t) (by simp)
  have c4 := hk1.cell (p := ⟨w.heap.size, 4, none⟩) (v := .int .i64 m) (by simp)
  have c5 := hk1.cell (p := ⟨w.heap.size, 5, none⟩) (v := .int .i64 f) (by simp)
  have c6 := hk1.cell (p := ⟨w.heap.size, 6, none⟩) (v := .bool b) (by simp)
  have HK := hide (hkA.trans hk1)
  clear hk1 hkA HEO
  go_wp2_with fail
  refine (kindOf_deposit y c t m f b w1).mono ?_
  rintro x w2 ⟨rfl, hk2⟩
  replace HK := hide (HK.out.trans hk2)
  clear hk2 c0 c1 c2 c3 c4 c5 c6
  go_wp2_with fail
  refine (HTX.out w2 (HT.out.kept HK.out)).mono ?_
  rintro x w3 ⟨rfl, hk3⟩
  replace HK := hide (HK.out.trans hk3)
  clear hk3
  go_wp2_with fail
  go_ret
  exact ⟨rfl, HK.out⟩
set_option maxHeartbeats 2000000 in
theorem etx_2 (y c t m f : Int) (b : Bool) (w : World) (ht : Tab w) (h : evB 2 y c t m f b = true) : Calls Tryz.prog 27 #[evV 2 y c t m f b] w fun e w' => e = .returned (.string ⟨(evT 2 y c t m f b).toArray⟩) ∧ Keeps w w' := by
  have hm2 : ∀ w : World, (method 300 113 (.agg #[.int .i64 c, .int .i64 m, .int .i64 f]) "loop.example/g00400/impl.text").run Tryz.prog w = .ok (152, .agg #[.int .i64 c, .int .i64 m, .int .i64 f]) w := fun _ => by kernel_rfl
  have HT := hide ht
  have HEO := hide (evok_impl 2 y c t m f b)
  rw [h] at HEO
  have HTX := hide (fun w1 ht1 => text_open c m f w1 ht1)
  simp only [← evT_2 y c t m f b] at HTX
  generalize evT 2 y c t m f b = X at HTX ⊢
  clear ht h
  have hkA := Keeps.alloc (Keeps.refl w) (.cells (evCells 2 y c t m f b) 28)
  go_enter Tryz.func27, Tryz.ntmps27
  go_wp2_with fail
  refine (HEO.out _).mono ?_
  rintro x w1 ⟨rfl, hk1⟩
  have c0 := hk1.cell (p := ⟨w.heap.size, 0, none⟩) (v := .int .i64 2) (by simp)
  have c1 := hk1.cell (p := ⟨w.heap.size, 1, none⟩) (v := .int .i64 y) (by simp)
  have c2 := hk1.cell (p := ⟨w.heap.size, 2, none⟩) (v := .int .i64 c) (by simp)
  have c3 := hk1.cell (p := ⟨w.heap.size, 3, none⟩) (v := .int .i64 t) (by simp)
  have c4 := hk1.cell (p := ⟨w.heap.size, 4, none⟩) (v := .int .i64 m) (by simp)
  have c5 := hk1.cell (p := ⟨w.heap.size, 5, none⟩) (v := .int .i64 f) (by simp)
  have c6 := hk1.cell (p := ⟨w.heap.size, 6, none⟩) (v := .bool b) (by simp)
  have HK := hide (hkA.trans hk1)
  clear hk1 hkA HEO
  go_wp2_with fail
  refine (kindOf_open y c t m f b w1).mono ?_
  rintro x w2 ⟨rfl, hk2⟩
  replace HK := hide (HK.out.trans hk2)
  clear hk2 c0 c1 c2 c3 c4 c5 c6
  go_wp2_with fail
  refine (HTX.out w2 (HT.out.kept HK.out)).mono ?_
  rintro x w3 ⟨rfl, hk3⟩
  replace HK := hide (HK.out.trans hk3)
  clear hk3
  go_wp2_with fail
  go_ret
  exact ⟨rfl, HK.out⟩
set_option maxHeartbeats 2000000 in
theorem etx_3 (y c t m f : Int) (b : Bool) (w : World) (ht : Tab w) (h : evB 3 y c t m f b = true) : Calls Tryz.prog 27 #[evV 3 y c t m f b] w fun e w' => e = .returned (.string ⟨(evT 3 y c t m f b).toArray⟩) ∧ Keeps w w' := by
  have hm2 : ∀ w : World, (method 300 115 (.agg #[.int .i64 c, .int .i64 f]) "loop.example/g00400/impl.text").run Tryz.prog w = .ok (155, .agg #[.int .i64 c, .int .i64 f]) w := fun _ => by kernel_rfl
  have HT := hide ht
  have HEO := hide (evok_impl 3 y c t m f b)
  rw [h] at HEO
  have HTX := hide (fun w1 ht1 => text_close c f w1 ht1)
  simp only [← evT_3 y c t m f b] at HTX
  generalize evT 3 y c t m f b = X at HTX ⊢
  clear ht h
  have hkA := Keeps.alloc (Keeps.refl w) (.cells (evCells 3 y c t m f b) 28)
  go_enter Tryz.func27, Tryz.ntmps27
  go_wp2_with fail
  refine (HEO.out _).mono ?_
  rintro x w1 ⟨rfl, hk1⟩
  have c0 := hk1.cell (p := ⟨w.heap.size, 0, none⟩) (v := .int .i64 3) (by simp)
  have c1 := hk1.cell (p := ⟨w.heap.size, 1, none⟩) (v := .int .i64 y) (by simp)
  have c2 := hk1.cell (p := ⟨w.heap.size, 2, none⟩) (v := .int .i64 c) (by simp)
  have c3 := hk1.cell (p := ⟨w.heap.size, 3, none⟩) (v := .int .i64 t) (by simp)
  have c4 := hk1.cell (p := ⟨w.heap.size, 4, none⟩) (v := .int .i64 m) (by simp)
  have c5 := hk1.cell (p := ⟨w.heap.size, 5, none⟩) (v := .int .i64 f) (by simp)
  have c6 := hk1.cell (p := ⟨w.heap.size, 6, none⟩) (v := .bool b) (by simp)
  have HK := hide (hkA.trans hk1)
  clear hk1 hkA HEO
  go_wp2_with fail
  refine (kindOf_close y c t m f b w1).mono ?_
  rintro x w2 ⟨rfl, hk2⟩
  replace HK := hide (HK.out.trans hk2)
  clear hk2 c0 c1 c2 c3 c4 c5 c6
  go_wp2_with fail
  refine (HTX.out w2 (HT.out.kept HK.out)).mono ?_
  rintro x w3 ⟨rfl, hk3⟩
  replace HK := hide (HK.out.trans hk3)
  clear hk3
  go_wp2_with fail
  go_ret
  exact ⟨rfl, HK.out⟩
set_option maxHeartbeats 2000000 in
theorem etx_4 (y c t m f : Int) (b : Bool) (w : World) (ht : Tab w) (h : evB 4 y c t m f b = true) : Calls Tryz.prog 27 #[evV 4 y c t m f b] w fun e w' => e = .returned (.string ⟨(evT 4 y c t m f b).toArray⟩) ∧ Keeps w w' := by
  have hm2 : ∀ w : World, (method 300 117 (.agg #[.int .i64 c, .int .i64 m, .int .i64 f]) "loop.example/g00400/impl.text").run Tryz.prog w = .ok (157, .agg #[.int .i64 c, .int .i64 m, .int .i64 f]) w := fun _ => by kernel_rfl
  have HT := hide ht
  have HEO := hide (evok_impl 4 y c t m f b)
  rw [h] at HEO
  have HTX := hide (fun w1 ht1 => text_price c m f w1 ht1)
  simp only [← evT_4 y c t m f b] at HTX
  generalize evT 4 y c t m f b = X at HTX ⊢
  clear ht h
  have hkA := Keeps.alloc (Keeps.refl w) (.cells (evCells 4 y c t m f b) 28)
  go_enter Tryz.func27, Tryz.ntmps27
  go_wp2_with fail
  refine (HEO.out _).mono ?_
  rintro x w1 ⟨rfl, hk1⟩
  have c0 := hk1.cell (p := ⟨w.heap.size, 0, none⟩) (v := .int .i64 4) (by simp)
  have c1 := hk1.cell (p := ⟨w.heap.size, 1, none⟩) (v := .int .i64 y) (by simp)
  have c2 := hk1.cell (p := ⟨w.heap.size, 2, none⟩) (v := .int .i64 c) (by simp)
  have c3 := hk1.cell (p := ⟨w.heap.size, 3, none⟩) (v := .int .i64 t) (by simp)
  have c4 := hk1.cell (p := ⟨w.heap.size, 4, none⟩) (v := .int .i64 m) (by simp)
  have c5 := hk1.cell (p := ⟨w.heap.size, 5, none⟩) (v := .int .i64 f) (by simp)
  have c6 := hk1.cell (p := ⟨w.heap.size, 6, none⟩) (v := .bool b) (by simp)
  have HK := hide (hkA.trans hk1)
  clear hk1 hkA HEO
  go_wp2_with fail
  refine (kindOf_price y c t m f b w1).mono ?_
  rintro x w2 ⟨rfl, hk2⟩
  replace HK := hide (HK.out.trans hk2)
  clear hk2 c0 c1 c2 c3 c4 c5 c6
  go_wp2_with fail
  refine (HTX.out w2 (HT.out.kept HK.out)).mono ?_
  rintro x w3 ⟨rfl, hk3⟩
  replace HK := hide (HK.out.trans hk3)
  clear hk3
  go_wp2_with fail
  go_ret
  exact ⟨rfl, HK.out⟩
set_option maxHeartbeats 2000000 in
theorem etx_5 (y c t m f : Int) (b : Bool) (w : World) (ht : Tab w) (h : evB 5 y c t m f b = true) : Calls Tryz.prog 27 #[evV 5 y c t m f b] w fun e w' => e = .returned (.string ⟨(evT 5 y c t m f b).toArray⟩) ∧ Keeps w w' := by
  have hm2 : ∀ w : World, (method 300 119 (.agg #[.int .i64 y, .int .i64 c, .int .i64 t, .int .i64 m, .bool b]) "loop.example/g00400/impl.text").run Tryz.prog w = .ok (159, .agg #[.int .i64 y, .int .i64 c, .int .i64 t, .int .i64 m, .bool b]) w := fun _ => by kernel_rfl
  have HT := hide ht
  have HEO := hide (evok_impl 5 y c t m f b)
  rw [h] at HEO
  have HTX := hide (fun w1 ht1 => text_admit y c t m b w1 ht1)
  simp only [← evT_5 y c t m f b] at HTX
  generalize evT 5 y c t m f b = X at HTX ⊢
  clear ht h
  have hkA := Keeps.alloc (Keeps.refl w) (.cells (evCells 5 y c t m f b) 28)
  go_enter Tryz.func27, Tryz.ntmps27
  go_wp2_with fail
  refine (HEO.out _).mono ?_
  rintro x w1 ⟨rfl, hk1⟩
  have c0 := hk1.cell (p := ⟨w.heap.size, 0, none⟩) (v := .int .i64 5) (by simp)
  have c1 := hk1.cell (p := ⟨w.heap.size, 1, none⟩) (v := .int .i64 y) (by simp)
  have c2 := hk1.cell (p := ⟨w.heap.size, 2, none⟩) (v := .int .i64 c) (by simp)
  have c3 := hk1.cell (p := ⟨w.heap.size, 3, none⟩) (v := .int .i64 t) (by simp)
  have c4 := hk1.cell (p := ⟨w.heap.size, 4, none⟩) (v := .int .i64 m) (by simp)
  have c5 := hk1.cell (p := ⟨w.heap.size, 5, none⟩) (v := .int .i64 f) (by simp)
  have c6 := hk1.cell (p := ⟨w.heap.size, 6, none⟩) (v := .bool b) (by simp)
  have HK := hide (hkA.trans hk1)
  clear hk1 hkA HEO
  go_wp2_with fail
  refine (kindOf_admit y c t m f b w1).mono ?_
  rintro x w2 ⟨rfl, hk2⟩
  replace HK := hide (HK.out.trans hk2)
  clear hk2 c0 c1 c2 c3 c4 c5 c6
  go_wp2_with fail
  refine (HTX.out w2 (HT.out.kept HK.out)).mono ?_
  rintro x w3 ⟨rfl, hk3⟩
  replace HK := hide (HK.out.trans hk3)
  clear hk3
  go_wp2_with fail
  go_ret
  exact ⟨rfl, HK.out⟩
set_option maxHeartbeats 2000000 in
theorem etx_6 (y c t m f : Int) (b : Bool) (w : World) (ht : Tab w) (h : evB 6 y c t m f b = true) : Calls Tryz.prog 27 #[evV 6 y c t m f b] w fun e w' => e = .returned (.string ⟨(evT 6 y c t m f b).toArray⟩) ∧ Keeps w w' := by
  have hm2 : ∀ w : World, (method 300 121 (.agg #[.int .i64 y]) "loop.example/g00400/impl.text").run Tryz.prog w = .ok (163, .agg #[.int .i64 y]) w := fun _ => by kernel_rfl
  have HT := hide ht
  have HEO := hide (evok_impl 6 y c t m f b)
  rw [h] at HEO
  have HTX := hide (fun w1 ht1 => text_fulfill y w1 ht1)
  simp only [← evT_6 y c t m f b] at HTX
  generalize evT 6 y c t m f b = X at HTX ⊢
  clear ht h
  have hkA := Keeps.alloc (Keeps.refl w) (.cells (evCells 6 y c t m f b) 28)
  go_enter Tryz.func27, Tryz.ntmps27
  go_wp2_with fail
  refine (HEO.out _).mono ?_
  rintro x w1 ⟨rfl, hk1⟩
  have c0 := hk1.cell (p := ⟨w.heap.size, 0, none⟩) (v := .int .i64 6) (by simp)
  have c1 := hk1.cell (p := ⟨w.heap.size, 1, none⟩) (v := .int .i64 y) (by simp)
  have c2 := hk1.cell (p := ⟨w.heap.size, 2, none⟩) (v := .int .i64 c) (by simp)
  have c3 := hk1.cell (p := ⟨w.heap.size, 3, none⟩) (v := .int .i64 t) (by simp)
  have c4 := hk1.cell (p := ⟨w.heap.size, 4, none⟩) (v := .int .i64 m) (by simp)
  have c5 := hk1.cell (p := ⟨w.heap.size, 5, none⟩) (v := .int .i64 f) (by simp)
  have c6 := hk1.cell (p := ⟨w.heap.size, 6, none⟩) (v := .bool b) (by simp)
  have HK := hide (hkA.trans hk1)
  clear hk1 hkA HEO
  go_wp2_with fail
  refine (kindOf_fulfill y c t m f b w1).mono ?_
  rintro x w2 ⟨rfl, hk2⟩
  replace HK := hide (HK.out.trans hk2)
  clear hk2 c0 c1 c2 c3 c4 c5 c6
  go_wp2_with fail
  refine (HTX.out w2 (HT.out.kept HK.out)).mono ?_
  rintro x w3 ⟨rfl, hk3⟩
  replace HK := hide (HK.out.trans hk3)
  clear hk3
  go_wp2_with fail
  go_ret
  exact ⟨rfl, HK.out⟩
set_option maxHeartbeats 2000000 in
theorem etx_7 (y c t m f : Int) (b : Bool) (w : World) (ht : Tab w) (h : evB 7 y c t m f b = true) : Calls Tryz.prog 27 #[evV 7 y c t m f b] w fun e w' => e = .returned (.string ⟨(evT 7 y c t m f b).toArray⟩) ∧ Keeps w w' := by
  have hm2 : ∀ w : World, (method 300 122 (.agg #[.int .i64 y]) "loop.example/g00400/impl.text").run Tryz.prog w = .ok (165, .agg #[.int .i64 y]) w := fun _ => by kernel_rfl
  have HT := hide ht
  have HEO := hide (evok_impl 7 y c t m f b)
  rw [h] at HEO
  have HTX := hide (fun w1 ht1 => text_fail y w1 ht1)
  simp only [← evT_7 y c t m f b] at HTX
  generalize evT 7 y c t m f b = X at HTX ⊢
  clear ht h
  have hkA := Keeps.alloc (Keeps.refl w) (.cells (evCells 7 y c t m f b) 28)
  go_enter Tryz.func27, Tryz.ntmps27
  go_wp2_with fail
  refine (HEO.out _).mono ?_
  rintro x w1 ⟨rfl, hk1⟩
  have c0 := hk1.cell (p := ⟨w.heap.size, 0, none⟩) (v := .int .i64 7) (by simp)
  have c1 := hk1.cell (p := ⟨w.heap.size, 1, none⟩) (v := .int .i64 y) (by simp)
  have c2 := hk1.cell (p := ⟨w.heap.size, 2, none⟩) (v := .int .i64 c) (by simp)
  have c3 := hk1.cell (p := ⟨w.heap.size, 3, none⟩) (v := .int .i64 t) (by simp)
  have c4 := hk1.cell (p := ⟨w.heap.size, 4, none⟩) (v := .int .i64 m) (by simp)
  have c5 := hk1.cell (p := ⟨w.heap.size, 5, none⟩) (v := .int .i64 f) (by simp)
  have c6 := hk1.cell (p := ⟨w.heap.size, 6, none⟩) (v := .bool b) (by simp)
  have HK := hide (hkA.trans hk1)
  clear hk1 hkA HEO
  go_wp2_with fail
  refine (kindOf_fail y c t m f b w1).mono ?_
  rintro x w2 ⟨rfl, hk2⟩
  replace HK := hide (HK.out.trans hk2)
  clear hk2 c0 c1 c2 c3 c4 c5 c6
  go_wp2_with fail
  refine (HTX.out w2 (HT.out.kept HK.out)).mono ?_
  rintro x w3 ⟨rfl, hk3⟩
  replace HK := hide (HK.out.trans hk3)
  clear hk3
  go_wp2_with fail
  go_ret
  exact ⟨rfl, HK.out⟩
set_option maxHeartbeats 2000000 in
theorem etx_8 (y c t m f : Int) (b : Bool) (w : World) (ht : Tab w) (h : evB 8 y c t m f b = true) : Calls Tryz.prog 27 #[evV 8 y c t m f b] w fun e w' => e = .returned (.string ⟨(evT 8 y c t m f b).toArray⟩) ∧ Keeps w w' := by
  have hm2 : ∀ w : World, (method 300 124 (.agg #[]) "loop.example/g00400/impl.text").run Tryz.prog w = .ok (167, .agg #[]) w := fun _ => by kernel_rfl
  have HT := hide ht
  have HEO := hide (evok_impl 8 y c t m f b)
  rw [h] at HEO
  have HTX := hide (fun w1 ht1 => text_tick  w1 ht1)
  simp only [← evT_8 y c t m f b] at HTX
  generalize evT 8 y c t m f b = X at HTX ⊢
  clear ht h
  have hkA := Keeps.alloc (Keeps.refl w) (.cells (evCells 8 y c t m f b) 28)
  go_enter Tryz.func27, Tryz.ntmps27
  go_wp2_with fail
  refine (HEO.out _).mono ?_
  rintro x w1 ⟨rfl, hk1⟩
  have c0 := hk1.cell (p := ⟨w.heap.size, 0, none⟩) (v := .int .i64 8) (by simp)
  have c1 := hk1.cell (p := ⟨w.heap.size, 1, none⟩) (v := .int .i64 y) (by simp)
  have c2 := hk1.cell (p := ⟨w.heap.size, 2, none⟩) (v := .int .i64 c) (by simp)
  have c3 := hk1.cell (p := ⟨w.heap.size, 3, none⟩) (v := .int .i64 t) (by simp)
  have c4 := hk1.cell (p := ⟨w.heap.size, 4, none⟩) (v := .int .i64 m) (by simp)
  have c5 := hk1.cell (p := ⟨w.heap.size, 5, none⟩) (v := .int .i64 f) (by simp)
  have c6 := hk1.cell (p := ⟨w.heap.size, 6, none⟩) (v := .bool b) (by simp)
  have HK := hide (hkA.trans hk1)
  clear hk1 hkA HEO
  go_wp2_with fail
  refine (kindOf_tick y c t m f b w1).mono ?_
  rintro x w2 ⟨rfl, hk2⟩
  replace HK := hide (HK.out.trans hk2)
  clear hk2 c0 c1 c2 c3 c4 c5 c6
  go_wp2_with fail
  refine (HTX.out w2 (HT.out.kept HK.out)).mono ?_
  rintro x w3 ⟨rfl, hk3⟩
  replace HK := hide (HK.out.trans hk3)
  clear hk3
  go_wp2_with fail
  go_ret
  exact ⟨rfl, HK.out⟩
set_option maxHeartbeats 2000000 in
theorem etx_9 (y c t m f : Int) (b : Bool) (w : World) (ht : Tab w) (h : evB 9 y c t m f b = true) : Calls Tryz.prog 27 #[evV 9 y c t m f b] w fun e w' => e = .returned (.string ⟨(evT 9 y c t m f b).toArray⟩) ∧ Keeps w w' := by
  have hm2 : ∀ w : World, (method 300 126 (.agg #[.int .i64 y, .int .i64 c, .int .i64 t, .int .i64 m, .int .i64 f]) "loop.example/g00400/impl.text").run Tryz.prog w = .ok (169, .agg #[.int .i64 y, .int .i64 c, .int .i64 t, .int .i64 m, .int .i64 f]) w := fun _ => by kernel_rfl
  have HT := hide ht
  have HEO := hide (evok_impl 9 y c t m f b)
  rw [h] at HEO
  have HTX := hide (fun w1 ht1 => text_launch y c t m f w1 ht1)
  simp only [← evT_9 y c t m f b] at HTX
  generalize evT 9 y c t m f b = X at HTX ⊢
  clear ht h
  have hkA := Keeps.alloc (Keeps.refl w) (.cells (evCells 9 y c t m f b) 28)
  go_enter Tryz.func27, Tryz.ntmps27
  go_wp2_with fail
  refine (HEO.out _).mono ?_
  rintro x w1 ⟨rfl, hk1⟩
  have c0 := hk1.cell (p := ⟨w.heap.size, 0, none⟩) (v := .int .i64 9) (by simp)
  have c1 := hk1.cell (p := ⟨w.heap.size, 1, none⟩) (v := .int .i64 y) (by simp)
  have c2 := hk1.cell (p := ⟨w.heap.size, 2, none⟩) (v := .int .i64 c) (by simp)
  have c3 := hk1.cell (p := ⟨w.heap.size, 3, none⟩) (v := .int .i64 t) (by simp)
  have c4 := hk1.cell (p := ⟨w.heap.size, 4, none⟩) (v := .int .i64 m) (by simp)
  have c5 := hk1.cell (p := ⟨w.heap.size, 5, none⟩) (v := .int .i64 f) (by simp)
  have c6 := hk1.cell (p := ⟨w.heap.size, 6, none⟩) (v := .bool b) (by simp)
  have HK := hide (hkA.trans hk1)
  clear hk1 hkA HEO
  go_wp2_with fail
  refine (kindOf_launch y c t m f b w1).mono ?_
  rintro x w2 ⟨rfl, hk2⟩
  replace HK := hide (HK.out.trans hk2)
  clear hk2 c0 c1 c2 c3 c4 c5 c6
  go_wp2_with fail
  refine (HTX.out w2 (HT.out.kept HK.out)).mono ?_
  rintro x w3 ⟨rfl, hk3⟩
  replace HK := hide (HK.out.trans hk3)
  clear hk3
  go_wp2_with fail
  go_ret
  exact ⟨rfl, HK.out⟩
set_option maxHeartbeats 2000000 in
theorem etx_10 (y c t m f : Int) (b : Bool) (w : World) (ht : Tab w) (h : evB 10 y c t m f b = true) : Calls Tryz.prog 27 #[evV 10 y c t m f b] w fun e w' => e = .returned (.string ⟨(evT 10 y c t m f b).toArray⟩) ∧ Keeps w w' := by
  have hm2 : ∀ w : World, (method 300 127 (.agg #[.int .i64 y]) "loop.example/g00400/impl.text").run Tryz.prog w = .ok (171, .agg #[.int .i64 y]) w := fun _ => by kernel_rfl
  have HT := hide ht
  have HEO := hide (evok_impl 10 y c t m f b)
  rw [h] at HEO
  have HTX := hide (fun w1 ht1 => text_arrive y w1 ht1)
  simp only [← evT_10 y c t m f b] at HTX
  generalize evT 10 y c t m f b = X at HTX ⊢
  clear ht h
  have hkA := Keeps.alloc (Keeps.refl w) (.cells (evCells 10 y c t m f b) 28)
  go_enter Tryz.func27, Tryz.ntmps27
  go_wp2_with fail
  refine (HEO.out _).mono ?_
  rintro x w1 ⟨rfl, hk1⟩
  have c0 := hk1.cell (p := ⟨w.heap.size, 0, none⟩) (v := .int .i64 10) (by simp)
  have c1 := hk1.cell (p := ⟨w.heap.size, 1, none⟩) (v := .int .i64 y) (by simp)
  have c2 := hk1.cell (p := ⟨w.heap.size, 2, none⟩) (v := .int .i64 c) (by simp)
  have c3 := hk1.cell (p := ⟨w.heap.size, 3, none⟩) (v := .int .i64 t) (by simp)
  have c4 := hk1.cell (p := ⟨w.heap.size, 4, none⟩) (v := .int .i64 m) (by simp)
  have c5 := hk1.cell (p := ⟨w.heap.size, 5, none⟩) (v := .int .i64 f) (by simp)
  have c6 := hk1.cell (p := ⟨w.heap.size, 6, none⟩) (v := .bool b) (by simp)
  have HK := hide (hkA.trans hk1)
  clear hk1 hkA HEO
  go_wp2_with fail
  refine (kindOf_arrive y c t m f b w1).mono ?_
  rintro x w2 ⟨rfl, hk2⟩
  replace HK := hide (HK.out.trans hk2)
  clear hk2 c0 c1 c2 c3 c4 c5 c6
  go_wp2_with fail
  refine (HTX.out w2 (HT.out.kept HK.out)).mono ?_
  rintro x w3 ⟨rfl, hk3⟩
  replace HK := hide (HK.out.trans hk3)
  clear hk3
  go_wp2_with fail
  go_ret
  exact ⟨rfl, HK.out⟩
set_option maxHeartbeats 2000000 in
theorem etx_11 (y c t m f : Int) (b : Bool) (w : World) (ht : Tab w) (h : evB 11 y c t m f b = true) : Calls Tryz.prog 27 #[evV 11 y c t m f b] w fun e w' => e = .returned (.string ⟨(evT 11 y c t m f b).toArray⟩) ∧ Keeps w w' := by
  have hm2 : ∀ w : World, (method 300 128 (.agg #[.int .i64 y]) "loop.example/g00400/impl.text").run Tryz.prog w = .ok (173, .agg #[.int .i64 y]) w := fun _ => by kernel_rfl
  have HT := hide ht
  have HEO := hide (evok_impl 11 y c t m f b)
  rw [h] at HEO
  have HTX := hide (fun w1 ht1 => text_lost y w1 ht1)
  simp only [← evT_11 y c t m f b] at HTX
  generalize evT 11 y c t m f b = X at HTX ⊢
  clear ht h
  have hkA := Keeps.alloc (Keeps.refl w) (.cells (evCells 11 y c t m f b) 28)
  go_enter Tryz.func27, Tryz.ntmps27
  go_wp2_with fail
  refine (HEO.out _).mono ?_
  rintro x w1 ⟨rfl, hk1⟩
  have c0 := hk1.cell (p := ⟨w.heap.size, 0, none⟩) (v := .int .i64 11) (by simp)
  have c1 := hk1.cell (p := ⟨w.heap.size, 1, none⟩) (v := .int .i64 y) (by simp)
  have c2 := hk1.cell (p := ⟨w.heap.size, 2, none⟩) (v := .int .i64 c) (by simp)
  have c3 := hk1.cell (p := ⟨w.heap.size, 3, none⟩) (v := .int .i64 t) (by simp)
  have c4 := hk1.cell (p := ⟨w.heap.size, 4, none⟩) (v := .int .i64 m) (by simp)
  have c5 := hk1.cell (p := ⟨w.heap.size, 5, none⟩) (v := .int .i64 f) (by simp)
  have c6 := hk1.cell (p := ⟨w.heap.size, 6, none⟩) (v := .bool b) (by simp)
  have HK := hide (hkA.trans hk1)
  clear hk1 hkA HEO
  go_wp2_with fail
  refine (kindOf_lost y c t m f b w1).mono ?_
  rintro x w2 ⟨rfl, hk2⟩
  replace HK := hide (HK.out.trans hk2)
  clear hk2 c0 c1 c2 c3 c4 c5 c6
  go_wp2_with fail
  refine (HTX.out w2 (HT.out.kept HK.out)).mono ?_
  rintro x w3 ⟨rfl, hk3⟩
  replace HK := hide (HK.out.trans hk3)
  clear hk3
  go_wp2_with fail
  go_ret
  exact ⟨rfl, HK.out⟩
theorem etx_no (k y c t m f : Int) (b : Bool) (w : World) (h : evB k y c t m f b = false) : Calls Tryz.prog 27 #[evV k y c t m f b] w fun e w' => e = .returned (.string ⟨[].toArray⟩) ∧ Keeps w w' := by
  have HEO := hide (evok_impl k y c t m f b)
  rw [h] at HEO
  have hkA := Keeps.alloc (Keeps.refl w) (.cells (evCells k y c t m f b) 28)
  go_enter Tryz.func27, Tryz.ntmps27
  go_wp2_with fail
  refine (HEO.out _).mono ?_
  rintro x w1 ⟨rfl, hk1⟩
  have HK := hide (hkA.trans hk1)
  clear hk1 hkA HEO
  go_wp2_with fail
  go_ret
  exact ⟨rfl, HK.out⟩
theorem etx_impl (k y c t m f : Int) (b : Bool) (w : World) (ht : Tab w) : Calls Tryz.prog 27 #[evV k y c t m f b] w fun e w' => e = .returned (.string ⟨(etL k y c t m f b).toArray⟩) ∧ Keeps w w' := by
  unfold etL
  cases h : evB k y c t m f b
  · rw [if_neg (by simp)]
    exact etx_no k y c t m f b w h
  · rw [if_pos rfl]
    obtain ⟨⟨k1, k2⟩, _⟩ := ev_bounds h
    have hk : k = 1 ∨ k = 2 ∨ k = 3 ∨ k = 4 ∨ k = 5 ∨ k = 6 ∨ k = 7 ∨ k = 8 ∨ k = 9 ∨ k = 10 ∨ k = 11 := by omega
    rcases hk with rfl | rfl | rfl | rfl | rfl | rfl | rfl | rfl | rfl | rfl | rfl
    · exact etx_1 y c t m f b w ht h
    · exact etx_2 y c t m f b w ht h
    · exact etx_3 y c t m f b w ht h
    · exact etx_4 y c t m f b w ht h
    · exact etx_5 y c t m f b w ht h
    · exact etx_6 y c t m f b w ht h
    · exact etx_7 y c t m f b w ht h
    · exact etx_8 y c t m f b w ht h
    · exact etx_9 y c t m f b w ht h
    · exact etx_10 y c t m f b w ht h
    · exact etx_11 y c t m f b w ht h
end Go.Proofs.YtjihinkjcplgcaaGreatDoor
