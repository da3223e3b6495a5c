/- The texts of the kinds of events. -/
import Derived.Test.YtjihinkjcplgcaaDoorSen
import Derived.Test.YtjihinkjcplgcaaDoorEvJ
import Derived.Test.YtjihinkjcplgcaaDoorVars
namespace Go.Proofs.YtjihinkjcplgcaaDoor
open Go.RowKit Go.Deep
set_option linter.unusedVariables false
set_option maxRecDepth 10000
theorem nums_two (w : World) (o : Obj) (K : List Int) : Cells ((w.alloc o).alloc (.cells (nums K).toArray 3)) (some ⟨w.heap.size + 1, 0, none⟩) (nums K) := by
  have h := (born_alloc (w.alloc o) (nums K).toArray 3).toOwn.one
  simpa using h
theorem two_keeps (w : World) (o p : Obj) : Keeps w ((w.alloc o).alloc p) := Keeps.alloc (Keeps.alloc (Keeps.refl w) o) p
theorem ret_more {D X : List UInt8} {c : List UInt8} (h : X = D ++ c) : Ending.returned (.string (⟨D.toArray⟩ ++ ⟨c.toArray⟩)) = .returned (.string ⟨X.toArray⟩) := by
  rw [h, ByteArray.mk_append_mk]
theorem sen_len {W : List UInt8} {ns : List Int} (h : W.length ≤ 20) (h' : ns.length ≤ 8) : (sen W ns).length ≤ 200 := by
  have := senN_len ns
  simp only [sen, List.length_append]
  omega
set_option maxHeartbeats 2000000 in
theorem text_deposit (m : Int) (w : World) (ht : Tab w) : Calls Tryd.prog 80 #[.agg #[.int .i64 m]] w fun e w' => e = .returned (.string ⟨(sen [100, 101, 112, 111, 115, 105, 116] [m]).toArray⟩) ∧ Keeps w w' := by
  have HT := hide ht
  clear ht
  have HC : Hid (Cells ((w.alloc (.cells #[.int .i64 m] 80)).alloc (.cells #[.int .i64 m] 3)) (some ⟨w.heap.size + 1, 0, none⟩) (nums [m])) := nums_two w _ [m]
  have HK := hide (two_keeps w (.cells #[.int .i64 m] 80) (.cells #[.int .i64 m] 3))
  go_enter Tryd.func80, Tryd.ntmps80
  go_wp2_with fail
  refine (sentence_k [100, 101, 112, 111, 115, 105, 116] (some ⟨w.heap.size + 1, 0, none⟩) 1 [m] _ (by decide) (by decide) (by simp) HC.out (HT.out.kept HK.out)).mono ?_
  rintro e w1 ⟨rfl, hk⟩
  have HK1 := hide (HK.out.trans hk)
  clear hk HC HK
  go_wp2_with fail
  go_ret
  exact ⟨rfl, HK1.out⟩
set_option maxHeartbeats 2000000 in
theorem text_open (c m f : Int) (w : World) (ht : Tab w) : Calls Tryd.prog 83 #[.agg #[.int .i64 c, .int .i64 m, .int .i64 f]] w fun e w' => e = .returned (.string ⟨(sen [111, 112, 101, 110] [c, m, f]).toArray⟩) ∧ Keeps w w' := by
  have HT := hide ht
  clear ht
  have HC : Hid (Cells ((w.alloc (.cells #[.int .i64 c, .int .i64 m, .int .i64 f] 82)).alloc (.cells #[.int .i64 c, .int .i64 m, .int .i64 f] 3)) (some ⟨w.heap.size + 1, 0, none⟩) (nums [c, m, f])) := nums_two w _ [c, m, f]
  have HK := hide (two_keeps w (.cells #[.int .i64 c, .int .i64 m, .int .i64 f] 82) (.cells #[.int .i64 c, .int .i64 m, .int .i64 f] 3))
  go_enter Tryd.func83, Tryd.ntmps83
  go_wp2_with fail
  refine (sentence_k [111, 112, 101, 110] (some ⟨w.heap.size + 1, 0, none⟩) 3 [c, m, f] _ (by decide) (by decide) (by simp) HC.out (HT.out.kept HK.out)).mono ?_
  rintro e w1 ⟨rfl, hk⟩
  have HK1 := hide (HK.out.trans hk)
  clear hk HC HK
  go_wp2_with fail
  go_ret
  exact ⟨rfl, HK1.out⟩
set_option maxHeartbeats 2000000 in
theorem text_close (c f : Int) (w : World) (ht : Tab w) : Calls Tryd.prog 86 #[.agg #[.int .i64 c, .int .i64 f]] w fun e w' => e = .returned (.string ⟨(sen [99, 108, 111, 115, 101] [c, f]).toArray⟩) ∧ Keeps w w' := by
  have HT := hide ht
  clear ht
  have HC : Hid (Cells ((w.alloc (.cells #[.int .i64 c, .int .i64 f] 84)).alloc (.cells #[.int .i64 c, .int .i64 f] 3)) (some ⟨w.heap.size + 1, 0, none⟩) (nums [c, f])) := nums_two w _ [c, f]
  have HK := hide (two_keeps w (.cells #[.int .i64 c, .int .i64 f] 84) (.cells #[.int .i64 c, .int .i64 f] 3))
  go_enter Tryd.func86, Tryd.ntmps86
  go_wp2_with fail
  refine (sentence_k [99, 108, 111, 115, 101] (some ⟨w.heap.size + 1, 0, none⟩) 2 [c, f] _ (by decide) (by decide) (by simp) HC.out (HT.out.kept HK.out)).mono ?_
  rintro e w1 ⟨rfl, hk⟩
  have HK1 := hide (HK.out.trans hk)
  clear hk HC HK
  go_wp2_with fail
  go_ret
  exact ⟨rfl, HK1.out⟩
set_option maxHeartbeats 2000000 in
theorem text_price (c m f : Int) (w : World) (ht : Tab w) : Calls Tryd.prog 88 #[.agg #[.int .i64 c, .int .i64 m, .int .i64 f]] w fun e w' => e = .returned (.string ⟨(sen [112, 114, 105, 99, 101] [c, m, f]).toArray⟩) ∧ Keeps w w' := by
  have HT := hide ht
  clear ht
  have HC : Hid (Cells ((w.alloc (.cells #[.int .i64 c, .int .i64 m, .int .i64 f] 86)).alloc (.cells #[.int .i64 c, .int .i64 m, .int .i64 f] 3)) (some ⟨w.heap.size + 1, 0, none⟩) (nums [c, m, f])) := nums_two w _ [c, m, f]
  have HK := hide (two_keeps w (.cells #[.int .i64 c, .int .i64 m, .int .i64 f] 86) (.cells #[.int .i64 c, .int .i64 m, .int .i64 f] 3))
  go_enter Tryd.func88, Tryd.ntmps88
  go_wp2_with fail
  refine (sentence_k [112, 114, 105, 99, 101] (some ⟨w.heap.size + 1, 0, none⟩) 3 [c, m, f] _ (by decide) (by decide) (by simp) HC.out (HT.out.kept HK.out)).mono ?_
  rintro e w1 ⟨rfl, hk⟩
  have HK1 := hide (HK.out.trans hk)
  clear hk HC HK
  go_wp2_with fail
  go_ret
  exact ⟨rfl, HK1.out⟩
set_option maxHeartbeats 2000000 in
theorem text_fulfill (y : Int) (w : World) (ht : Tab w) : Calls Tryd.prog 94 #[.agg #[.int .i64 y]] w fun e w' => e = .returned (.string ⟨(sen [102, 117, 108, 102, 105, 108, 108] [y]).toArray⟩) ∧ Keeps w w' := by
  have HT := hide ht
  clear ht
  have HC : Hid (Cells ((w.alloc (.cells #[.int .i64 y] 90)).alloc (.cells #[.int .i64 y] 3)) (some ⟨w.heap.size + 1, 0, none⟩) (nums [y])) := nums_two w _ [y]
  have HK := hide (two_keeps w (.cells #[.int .i64 y] 90) (.cells #[.int .i64 y] 3))
  go_enter Tryd.func94, Tryd.ntmps94
  go_wp2_with fail
  refine (sentence_k [102, 117, 108, 102, 105, 108, 108] (some ⟨w.heap.size + 1, 0, none⟩) 1 [y] _ (by decide) (by decide) (by simp) HC.out (HT.out.kept HK.out)).mono ?_
  rintro e w1 ⟨rfl, hk⟩
  have HK1 := hide (HK.out.trans hk)
  clear hk HC HK
  go_wp2_with fail
  go_ret
  exact ⟨rfl, HK1.out⟩
set_option maxHeartbeats 2000000 in
theorem text_fail (y : Int) (w : World) (ht : Tab w) : Calls Tryd.prog 96 #[.agg #[.int .i64 y]] w fun e w' => e = .returned (.string ⟨(sen [102, 97, 105, 108] [y]).toArray⟩) ∧ Keeps w w' := by
  have HT := hide ht
  clear ht
  have HC : Hid (Cells ((w.alloc (.cells #[.int .i64 y] 91)).alloc (.cells #[.int .i64 y] 3)) (some ⟨w.heap.size + 1, 0, none⟩) (nums [y])) := nums_two w _ [y]
  have HK := hide (two_keeps w (.cells #[.int .i64 y] 91) (.cells #[.int .i64 y] 3))
  go_enter Tryd.func96, Tryd.ntmps96
  go_wp2_with fail
  refine (sentence_k [102, 97, 105, 108] (some ⟨w.heap.size + 1, 0, none⟩) 1 [y] _ (by decide) (by decide) (by simp) HC.out (HT.out.kept HK.out)).mono ?_
  rintro e w1 ⟨rfl, hk⟩
  have HK1 := hide (HK.out.trans hk)
  clear hk HC HK
  go_wp2_with fail
  go_ret
  exact ⟨rfl, HK1.out⟩
set_option maxHeartbeats 2000000 in
theorem text_tick (w : World) (ht : Tab w) : Calls Tryd.prog 98 #[.agg #[]] w fun e w' => e = .returned (.string ⟨(sen [116, 105, 99, 107] []).toArray⟩) ∧ Keeps w w' := by
  have HT := hide ht
  clear ht
  have HC : Hid (Cells (w.alloc (.cells #[] 93)) none (nums [])) := .inl rfl
  have HK := hide (Keeps.alloc (Keeps.refl w) (.cells #[] 93))
  go_enter Tryd.func98, Tryd.ntmps98
  go_wp2_with fail
  refine (sentence_k [116, 105, 99, 107] none 0 [] _ (by decide) (by decide) (by simp) HC.out (HT.out.kept HK.out)).mono ?_
  rintro e w1 ⟨rfl, hk⟩
  have HK1 := hide (HK.out.trans hk)
  clear hk HC HK
  go_wp2_with fail
  go_ret
  exact ⟨rfl, HK1.out⟩
set_option maxHeartbeats 2000000 in
theorem text_launch (y c t m f : Int) (w : World) (ht : Tab w) : Calls Tryd.prog 100 #[.agg #[.int .i64 y, .int .i64 c, .int .i64 t, .int .i64 m, .int .i64 f]] w fun e w' => e = .returned (.string ⟨(sen [108, 97, 117, 110, 99, 104] [y, c, t, m, f]).toArray⟩) ∧ Keeps w w' := by
  have HT := hide ht
  clear ht
  have HC : Hid (Cells ((w.alloc (.cells #[.int .i64 y, .int .i64 c, .int .i64 t, .int .i64 m, .int .i64 f] 95)).alloc (.cells #[.int .i64 y, .int .i64 c, .int .i64 t, .int .i64 m, .int .i64 f] 3)) (some ⟨w.heap.size + 1, 0, none⟩) (nums [y, c, t, m, f])) := nums_two w _ [y, c, t, m, f]
  have HK := hide (two_keeps w (.cells #[.int .i64 y, .int .i64 c, .int .i64 t, .int .i64 m, .int .i64 f] 95) (.cells #[.int .i64 y, .int .i64 c, .int .i64 t, .int .i64 m, .int .i64 f] 3))
  go_enter Tryd.func100, Tryd.ntmps100
  go_wp2_with fail
  refine (sentence_k [108, 97, 117, 110, 99, 104] (some ⟨w.heap.size + 1, 0, none⟩) 5 [y, c, t, m, f] _ (by decide) (by decide) (by simp) HC.out (HT.out.kept HK.out)).mono ?_
  rintro e w1 ⟨rfl, hk⟩
  have HK1 := hide (HK.out.trans hk)
  clear hk HC HK
  go_wp2_with fail
  go_ret
  exact ⟨rfl, HK1.out⟩
set_option maxHeartbeats 2000000 in
theorem text_arrive (y : Int) (w : World) (ht : Tab w) : Calls Tryd.prog 102 #[.agg #[.int .i64 y]] w fun e w' => e = .returned (.string ⟨(sen [97, 114, 114, 105, 118, 101] [y]).toArray⟩) ∧ Keeps w w' := by
  have HT := hide ht
  clear ht
  have HC : Hid (Cells ((w.alloc (.cells #[.int .i64 y] 96)).alloc (.cells #[.int .i64 y] 3)) (some ⟨w.heap.size + 1, 0, none⟩) (nums [y])) := nums_two w _ [y]
  have HK := hide (two_keeps w (.cells #[.int .i64 y] 96) (.cells #[.int .i64 y] 3))
  go_enter Tryd.func102, Tryd.ntmps102
  go_wp2_with fail
  refine (sentence_k [97, 114, 114, 105, 118, 101] (some ⟨w.heap.size + 1, 0, none⟩) 1 [y] _ (by decide) (by decide) (by simp) HC.out (HT.out.kept HK.out)).mono ?_
  rintro e w1 ⟨rfl, hk⟩
  have HK1 := hide (HK.out.trans hk)
  clear hk HC HK
  go_wp2_with fail
  go_ret
  exact ⟨rfl, HK1.out⟩
set_option maxHeartbeats 2000000 in
theorem text_lost (y : Int) (w : World) (ht : Tab w) : Calls Tryd.prog 104 #[.agg #[.int .i64 y]] w fun e w' => e = .returned (.string ⟨(sen [108, 111, 115, 116] [y]).toArray⟩) ∧ Keeps w w' := by
  have HT := hide ht
  clear ht
  have HC : Hid (Cells ((w.alloc (.cells #[.int .i64 y] 97)).alloc (.cells #[.int .i64 y] 3)) (some ⟨w.heap.size + 1, 0, none⟩) (nums [y])) := nums_two w _ [y]
  have HK := hide (two_keeps w (.cells #[.int .i64 y] 97) (.cells #[.int .i64 y] 3))
  go_enter Tryd.func104, Tryd.ntmps104
  go_wp2_with fail
  refine (sentence_k [108, 111, 115, 116] (some ⟨w.heap.size + 1, 0, none⟩) 1 [y] _ (by decide) (by decide) (by simp) HC.out (HT.out.kept HK.out)).mono ?_
  rintro e w1 ⟨rfl, hk⟩
  have HK1 := hide (HK.out.trans hk)
  clear hk HC HK
  go_wp2_with fail
  go_ret
  exact ⟨rfl, HK1.out⟩
set_option maxHeartbeats 2000000 in
theorem text_admit (y c t m : Int) (b : Bool) (w : World) (ht : Tab w) : Calls Tryd.prog 90 #[.agg #[.int .i64 y, .int .i64 c, .int .i64 t, .int .i64 m, .bool b]] w fun e w' => e = .returned (.string ⟨(sen [97, 100, 109, 105, 116] [y, c, t, m] ++ (if b = true then [32, 121, 101, 115] else [32, 110, 111])).toArray⟩) ∧ Keeps w w' := by
  have HT := hide ht
  clear ht
  have HC : Hid (Cells ((w.alloc (.cells #[.int .i64 y, .int .i64 c, .int .i64 t, .int .i64 m, .bool b] 88)).alloc (.cells #[.int .i64 y, .int .i64 c, .int .i64 t, .int .i64 m] 3)) (some ⟨w.heap.size + 1, 0, none⟩) (nums [y, c, t, m])) := nums_two w _ [y, c, t, m]
  have HK := hide (two_keeps w (.cells #[.int .i64 y, .int .i64 c, .int .i64 t, .int .i64 m, .bool b] 88) (.cells #[.int .i64 y, .int .i64 c, .int .i64 t, .int .i64 m] 3))
  cases b
  · go_enter Tryd.func90, Tryd.ntmps90
    go_wp2_with fail
    refine (sentence_k [97, 100, 109, 105, 116] (some ⟨w.heap.size + 1, 0, none⟩) 4 [y, c, t, m] _ (by decide) (by decide) (by simp) HC.out (HT.out.kept HK.out)).mono ?_
    rintro e w1 ⟨rfl, hk⟩
    have HK1 := hide (HK.out.trans hk)
    have hlen := sen_len (W := [97, 100, 109, 105, 116]) (ns := [y, c, t, m]) (by decide) (by simp)
    have c4 := hk.cell (p := ⟨w.heap.size, 4, none⟩) (v := .bool false) (by simp)
    generalize hZ : sen [97, 100, 109, 105, 116] [y, c, t, m] = Z at hlen ⊢
    have HZ := hide hZ
    clear hk HC HK hZ
    go_wp2_with fail
    go_ret
    exact ⟨ret_more (by rw [HZ.out]; try rfl), HK1.out⟩
  · go_enter Tryd.func90, Tryd.ntmps90
    go_wp2_with fail
    refine (sentence_k [97, 100, 109, 105, 116] (some ⟨w.heap.size + 1, 0, none⟩) 4 [y, c, t, m] _ (by decide) (by decide) (by simp) HC.out (HT.out.kept HK.out)).mono ?_
    rintro e w1 ⟨rfl, hk⟩
    have HK1 := hide (HK.out.trans hk)
    have hlen := sen_len (W := [97, 100, 109, 105, 116]) (ns := [y, c, t, m]) (by decide) (by simp)
    have c4 := hk.cell (p := ⟨w.heap.size, 4, none⟩) (v := .bool true) (by simp)
    generalize hZ : sen [97, 100, 109, 105, 116] [y, c, t, m] = Z at hlen ⊢
    have HZ := hide hZ
    clear hk HC HK hZ
    go_wp2_with fail
    go_ret
    exact ⟨ret_more (by rw [HZ.out]; try rfl), HK1.out⟩
theorem text_unknown (w : World) : Calls Tryd.prog 106 #[.agg #[]] w fun e w' => e = .returned (.string ⟨[].toArray⟩) ∧ Keeps w w' := by
  go_enter Tryd.func106, Tryd.ntmps106
  go_wp2_with fail
  go_ret
  exact ⟨rfl, Keeps.alloc (Keeps.refl _) _⟩
end Go.Proofs.YtjihinkjcplgcaaDoor
