/- The program's EventText. -/
import Derived.Test.YtjihinkjcplgcaaDoorTxM
import Derived.Test.YtjihinkjcplgcaaDoorTxt
import Derived.Test.YtjihinkjcplgcaaDoorEvJ
namespace Go.Proofs.YtjihinkjcplgcaaDoor
open Go.RowKit Go.Deep
set_option linter.unusedVariables false
set_option maxRecDepth 10000
def etL (k y c t m f : Int) (b : Bool) : List UInt8 := if evB k y c t m f b = true then evT k y c t m f b else []
set_option maxHeartbeats 2000000 in
theorem etx_1 (y c t m f : Int) (b : Bool) (w : World) (ht : Tab w) (h : evB 1 y c t m f b = true) : Calls Tryd.prog 20 #[evV 1 y c t m f b] w fun e w' => e = .returned (.string ⟨(evT 1 y c t m f b).toArray⟩) ∧ Keeps w w' := by
  have hm2 : ∀ w : World, (method 233 80 (.agg #[.int .i64 m]) "loop.example/g00400/impl.text").run Tryd.prog w = .ok (80, .agg #[.int .i64 m]) w := fun _ => by kernel_rfl
  have HT := hide ht
  have HEO := hide (evok_impl 1 y c t m f b)
  rw [h] at HEO
  have HTX := hide (fun w1 ht1 => text_deposit m w1 ht1)
  simp only [← evT_1 y c t m f b] at HTX
  generalize evT 1 y c t m f b = X at HTX ⊢
  clear ht h
  have hkA := Keeps.alloc (Keeps.refl w) (.cells (evCells 1 y c t m f b) 31)
  go_enter Tryd.func20, Tryd.ntmps20
  go_wp2_with fail
  refine (HEO.out _).mono ?_
  rintro x w1 ⟨rfl, hk1⟩
  have c0 := hk1.cell (p := ⟨w.heap.size, 0, none⟩) (v := .int .i64 1) (by simp)
  have c1 := hk1.cell (p := ⟨w.heap.size, 1, none⟩) (v := .int .i64 y) (by simp)
  have c2 := hk1.cell (p := ⟨w.heap.size, 2, none⟩) (v := .int .i64 c) (by simp)
  have c3 := hk1.cell (p := ⟨w.heap.size, 3, none⟩) (v := .int .i64 t) (by simp)
  have c4 := hk1.cell (p := ⟨w.heap.size, 4, none⟩) (v := .int .i64 m) (by simp)
  have c5 := hk1.cell (p := ⟨w.heap.size, 5, none⟩) (v := .int .i64 f) (by simp)
  have c6 := hk1.cell (p := ⟨w.heap.size, 6, none⟩) (v := .bool b) (by simp)
  have HK := hide (hkA.trans hk1)
  clear hk1 hkA HEO
  go_wp2_with fail
  refine (kindOf_deposit y c t m f b w1).mono ?_
  rintro x w2 ⟨rfl, hk2⟩
  replace HK := hide (HK.out.trans hk2)
  clear hk2 c0 c1 c2 c3 c4 c5 c6
  go_wp2_with fail
  refine (HTX.out w2 (HT.out.kept HK.out)).mono ?_
  rintro x w3 ⟨rfl, hk3⟩
  replace HK := hide (HK.out.trans hk3)
  clear hk3
  go_wp2_with fail
  go_ret
  exact ⟨rfl, HK.out⟩
set_option maxHeartbeats 2000000 in
theorem etx_2 (y c t m f : Int) (b : Bool) (w : World) (ht : Tab w) (h : evB 2 y c t m f b = true) : Calls Tryd.prog 20 #[evV 2 y c t m f b] w fun e w' => e = .returned (.string ⟨(evT 2 y c t m f b).toArray⟩) ∧ Keeps w w' := by
  have hm2 : ∀ w : World, (method 233 82 (.agg #[.int .i64 c, .int .i64 m, .int .i64 f]) "loop.example/g00400/impl.text").run Tryd.prog w = .ok (83, .agg #[.int .i64 c, .int .i64 m, .int .i64 f]) w := fun _ => by kernel_rfl
  have HT := hide ht
  have HEO := hide (evok_impl 2 y c t m f b)
  rw [h] at HEO
  have HTX := hide (fun w1 ht1 => text_open c m f w1 ht1)
  simp only [← evT_2 y c t m f b] at HTX
  generalize evT 2 y c t m f b = X at HTX ⊢
  clear ht h
  have hkA := Keeps.alloc (Keeps.refl w) (.cells (evCells 2 y c t m f b) 31)
  go_enter Tryd.func20, Tryd.ntmps20
  go_wp2_with fail
  refine (HEO.out _).mono ?_
  rintro x w1 ⟨rfl, hk1⟩
  have c0 := hk1.cell (p := ⟨w.heap.size, 0, none⟩) (v := .int .i64 2) (by simp)
  have c1 := hk1.cell (p := ⟨w.heap.size, 1, none⟩) (v := .int .i64 y) (by simp)
  have c2 := hk1.cell (p := ⟨w.heap.size, 2, none⟩) (v := .int .i64 c) (by simp)
  have c3 := hk1.cell (p := ⟨w.heap.size, 3, none⟩) (v := .int .i64 t) (by simp)
  have c4 := hk1.cell (p := ⟨w.heap.size, 4, none⟩) (v := .int .i64 m) (by simp)
  have c5 := hk1.cell (p := ⟨w.heap.size, 5, none⟩) (v := .int .i64 f) (by simp)
  have c6 := hk1.cell (p := ⟨w.heap.size, 6, none⟩) (v := .bool b) (by simp)
  have HK := hide (hkA.trans hk1)
  clear hk1 hkA HEO
  go_wp2_with fail
  refine (kindOf_open y c t m f b w1).mono ?_
  rintro x w2 ⟨rfl, hk2⟩
  replace HK := hide (HK.out.trans hk2)
  clear hk2 c0 c1 c2 c3 c4 c5 c6
  go_wp2_with fail
  refine (HTX.out w2 (HT.out.kept HK.out)).mono ?_
  rintro x w3 ⟨rfl, hk3⟩
  replace HK := hide (HK.out.trans hk3)
  clear hk3
  go_wp2_with fail
  go_ret
  exact ⟨rfl, HK.out⟩
set_option maxHeartbeats 2000000 in
theorem etx_3 (y c t m f : Int) (b : Bool) (w : World) (ht : Tab w) (h : evB 3 y c t m f b = true) : Calls Tryd.prog 20 #[evV 3 y c t m f b] w fun e w' => e = .returned (.string ⟨(evT 3 y c t m f b).toArray⟩) ∧ Keeps w w' := by
  have hm2 : ∀ w : World, (method 233 84 (.agg #[.int .i64 c, .int .i64 f]) "loop.example/g00400/impl.text").run Tryd.prog w = .ok (86, .agg #[.int .i64 c, .int .i64 f]) w := fun _ => by kernel_rfl
  have HT := hide ht
  have HEO := hide (evok_impl 3 y c t m f b)
  rw [h] at HEO
  have HTX := hide (fun w1 ht1 => text_close c f w1 ht1)
  simp only [← evT_3 y c t m f b] at HTX
  generalize evT 3 y c t m f b = X at HTX ⊢
  clear ht h
  have hkA := Keeps.alloc (Keeps.refl w) (.cells (evCells 3 y c t m f b) 31)
  go_enter Tryd.func20, Tryd.ntmps20
  go_wp2_with fail
  refine (HEO.out _).mono ?_
  rintro x w1 ⟨rfl, hk1⟩
  have c0 := hk1.cell (p := ⟨w.heap.size, 0, none⟩) (v := .int .i64 3) (by simp)
  have c1 := hk1.cell (p := ⟨w.heap.size, 1, none⟩) (v := .int .i64 y) (by simp)
  have c2 := hk1.cell (p := ⟨w.heap.size, 2, none⟩) (v := .int .i64 c) (by simp)
  have c3 := hk1.cell (p := ⟨w.heap.size, 3, none⟩) (v := .int .i64 t) (by simp)
  have c4 := hk1.cell (p := ⟨w.heap.size, 4, none⟩) (v := .int .i64 m) (by simp)
  have c5 := hk1.cell (p := ⟨w.heap.size, 5, none⟩) (v := .int .i64 f) (by simp)
  have c6 := hk1.cell (p := ⟨w.heap.size, 6, none⟩) (v := .bool b) (by simp)
  have HK := hide (hkA.trans hk1)
  clear hk1 hkA HEO
  go_wp2_with fail
  refine (kindOf_close y c t m f b w1).mono ?_
  rintro x w2 ⟨rfl, hk2⟩
  replace HK := hide (HK.out.trans hk2)
  clear hk2 c0 c1 c2 c3 c4 c5 c6
  go_wp2_with fail
  refine (HTX.out w2 (HT.out.kept HK.out)).mono ?_
  rintro x w3 ⟨rfl, hk3⟩
  replace HK := hide (HK.out.trans hk3)
  clear hk3
  go_wp2_with fail
  go_ret
  exact ⟨rfl, HK.out⟩
set_option maxHeartbeats 2000000 in
theorem etx_4 (y c t m f : Int) (b : Bool) (w : World) (ht : Tab w) (h : evB 4 y c t m f b = true) : Calls Tryd.prog 20 #[evV 4 y c t m f b] w fun e w' => e = .returned (.string ⟨(evT 4 y c t m f b).toArray⟩) ∧ Keeps w w' := by
  have hm2 : ∀ w : World, (method 233 86 (.agg #[.int .i64 c, .int .i64 m, .int .i64 f]) "loop.example/g00400/impl.text").run Tryd.prog w = .ok (88, .agg #[.int .i64 c, .int .i64 m, .int .i64 f]) w := fun _ => by kernel_rfl
  have HT := hide ht
  have HEO := hide (evok_impl 4 y c t m f b)
  rw [h] at HEO
  have HTX := hide (fun w1 ht1 => text_price c m f w1 ht1)
  simp only [← evT_4 y c t m f b] at HTX
  generalize evT 4 y c t m f b = X at HTX ⊢
  clear ht h
  have hkA := Keeps.alloc (Keeps.refl w) (.cells (evCells 4 y c t m f b) 31)
  go_enter Tryd.func20, Tryd.ntmps20
  go_wp2_with fail
  refine (HEO.out _).mono ?_
  rintro x w1 ⟨rfl, hk1⟩
  have c0 := hk1.cell (p := ⟨w.heap.size, 0, none⟩) (v := .int .i64 4) (by simp)
  have c1 := hk1.cell (p := ⟨w.heap.size, 1, none⟩) (v := .int .i64 y) (by simp)
  have c2 := hk1.cell (p := ⟨w.heap.size, 2, none⟩) (v := .int .i64 c) (by simp)
  have c3 := hk1.cell (p := ⟨w.heap.size, 3, none⟩) (v := .int .i64 t) (by simp)
  have c4 := hk1.cell (p := ⟨w.heap.size, 4, none⟩) (v := .int .i64 m) (by simp)
  have c5 := hk1.cell (p := ⟨w.heap.size, 5, none⟩) (v := .int .i64 f) (by simp)
  have c6 := hk1.cell (p := ⟨w.heap.size, 6, none⟩) (v := .bool b) (by simp)
  have HK := hide (hkA.trans hk1)
  clear hk1 hkA HEO
  go_wp2_with fail
  refine (kindOf_price y c t m f b w1).mono ?_
  rintro x w2 ⟨rfl, hk2⟩
  replace HK := hide (HK.out.trans hk2)
  clear hk2 c0 c1 c2 c3 c4 c5 c6
  go_wp2_with fail
  refine (HTX.out w2 (HT.out.kept HK.out)).mono ?_
  rintro x w3 ⟨rfl, hk3⟩
  replace HK := hide (HK.out.trans hk3)
  clear hk3
  go_wp2_with fail
  go_ret
  exact ⟨rfl, HK.out⟩
set_option maxHeartbeats 2000000 in
theorem etx_5 (y c t m f : Int) (b : Bool) (w : World) (ht : Tab w) (h : evB 5 y c t m f b = true) : Calls Tryd.prog 20 #[evV 5 y c t m f b] w fun e w' => e = .returned (.string ⟨(evT 5 y c t m f b).toArray⟩) ∧ Keeps w w' := by
  have hm2 : ∀ w : World, (method 233 88 (.agg #[.int .i64 y, .int .i64 c, .int .i64 t, .int .i64 m, .bool b]) "loop.example/g00400/impl.text").run Tryd.prog w = .ok (90, .agg #[.int .i64 y, .int .i64 c, .int .i64 t, .int .i64 m, .bool b]) w := fun _ => by kernel_rfl
  have HT := hide ht
  have HEO := hide (evok_impl 5 y c t m f b)
  rw [h] at HEO
  have HTX := hide (fun w1 ht1 => text_admit y c t m b w1 ht1)
  simp only [← evT_5 y c t m f b] at HTX
  generalize evT 5 y c t m f b = X at HTX ⊢
  clear ht h
  have hkA := Keeps.alloc (Keeps.refl w) (.cells (evCells 5 y c t m f b) 31)
  go_enter Tryd.func20, Tryd.ntmps20
  go_wp2_with fail
  refine (HEO.out _).mono ?_
  rintro x w1 ⟨rfl, hk1⟩
  have c0 := hk1.cell (p := ⟨w.heap.size, 0, none⟩) (v := .int .i64 5) (by simp)
  have c1 := hk1.cell (p := ⟨w.heap.size, 1, none⟩) (v := .int .i64 y) (by simp)
  have c2 := hk1.cell (p := ⟨w.heap.size, 2, none⟩) (v := .int .i64 c) (by simp)
  have c3 := hk1.cell (p := ⟨w.heap.size, 3, none⟩) (v := .int .i64 t) (by simp)
  have c4 := hk1.cell (p := ⟨w.heap.size, 4, none⟩) (v := .int .i64 m) (by simp)
  have c5 := hk1.cell (p := ⟨w.heap.size, 5, none⟩) (v := .int .i64 f) (by simp)
  have c6 := hk1.cell (p := ⟨w.heap.size, 6, none⟩) (v := .bool b) (by simp)
  have HK := hide (hkA.trans hk1)
  clear hk1 hkA HEO
  go_wp2_with fail
  refine (kindOf_admit y c t m f b w1).mono ?_
  rintro x w2 ⟨rfl, hk2⟩
  replace HK := hide (HK.out.trans hk2)
  clear hk2 c0 c1 c2 c3 c4 c5 c6
  go_wp2_with fail
  refine (HTX.out w2 (HT.out.kept HK.out)).mono ?_
  rintro x w3 ⟨rfl, hk3⟩
  replace HK := hide (HK.out.trans hk3)
  clear hk3
  go_wp2_with fail
  go_ret
  exact ⟨rfl, HK.out⟩
set_option maxHeartbeats 2000000 in
theorem etx_6 (y c t m f : Int) (b : Bool) (w : World) (ht : Tab w) (h : evB 6 y c t m f b = true) : Calls Tryd.prog 20 #[evV 6 y c t m f b] w fun e w' => e = .returned (.string ⟨(evT 6 y c t m f b).toArray⟩) ∧ Keeps w w' := by
  have hm2 : ∀ w : World, (method 233 90 (.agg #[.int .i64 y]) "loop.example/g00400/impl.text").run Tryd.prog w = .ok (94, .agg #[.int .i64 y]) w := fun _ => by kernel_rfl
  have HT := hide ht
  have HEO := hide (evok_impl 6 y c t m f b)
  rw [h] at HEO
  have HTX := hide (fun w1 ht1 => text_fulfill y w1 ht1)
  simp only [← evT_6 y c t m f b] at HTX
  generalize evT 6 y c t m f b = X at HTX ⊢
  clear ht h
  have hkA := Keeps.alloc (Keeps.refl w) (.cells (evCells 6 y c t m f b) 31)
  go_enter Tryd.func20, Tryd.ntmps20
  go_wp2_with fail
  refine (HEO.out _).mono ?_
  rintro x w1 ⟨rfl, hk1⟩
  have c0 := hk1.cell (p := ⟨w.heap.size, 0, none⟩) (v := .int .i64 6) (by simp)
  have c1 := hk1.cell (p := ⟨w.heap.size, 1, none⟩) (v := .int .i64 y) (by simp)
  have c2 := hk1.cell (p := ⟨w.heap.size, 2, none⟩) (v := .int .i64 c) (by simp)
  have c3 := hk1.cell (p := ⟨w.heap.size, 3, none⟩) (v := .int .i64 t) (by simp)
  have c4 := hk1.cell (p := ⟨w.heap.size, 4, none⟩) (v := .int .i64 m) (by simp)
  have c5 := hk1.cell (p := ⟨w.heap.size, 5, none⟩) (v := .int .i64 f) (by simp)
  have c6 := hk1.cell (p := ⟨w.heap.size, 6, none⟩) (v := .bool b) (by simp)
  have HK := hide (hkA.trans hk1)
  clear hk1 hkA HEO
  go_wp2_with fail
  refine (kindOf_fulfill y c t m f b w1).mono ?_
  rintro x w2 ⟨rfl, hk2⟩
  replace HK := hide (HK.out.trans hk2)
  clear hk2 c0 c1 c2 c3 c4 c5 c6
  go_wp2_with fail
  refine (HTX.out w2 (HT.out.kept HK.out)).mono ?_
  rintro x w3 ⟨rfl, hk3⟩
  replace HK := hide (HK.out.trans hk3)
  clear hk3
  go_wp2_with fail
  go_ret
  exact ⟨rfl, HK.out⟩
set_option maxHeartbeats 2000000 in
theorem etx_7 (y c t m f : Int) (b : Bool) (w : World) (ht : Tab w) (h : evB 7 y c t m f b = true) : Calls Tryd.prog 20 #[evV 7 y c t m f b] w fun e w' => e = .returned (.string ⟨(evT 7 y c t m f b).toArray⟩) ∧ Keeps w w' := by
  have hm2 : ∀ w : World, (method 233 91 (.agg #[.int .i64 y]) "loop.example/g00400/impl.text").run Tryd.prog w = .ok (96, .agg #[.int .i64 y]) w := fun _ => by kernel_rfl
  have HT := hide ht
  have HEO := hide (evok_impl 7 y c t m f b)
  rw [h] at HEO
  have HTX := hide (fun w1 ht1 => text_fail y w1 ht1)
  simp only [← evT_7 y c t m f b] at HTX
  generalize evT 7 y c t m f b = X at HTX ⊢
  clear ht h
  have hkA := Keeps.alloc (Keeps.refl w) (.cells (evCells 7 y c t m f b) 31)
  go_enter Tryd.func20, Tryd.ntmps20
  go_wp2_with fail
  refine (HEO.out _).mono ?_
  rintro x w1 ⟨rfl, hk1⟩
  have c0 := hk1.cell (p := ⟨w.heap.size, 0, none⟩) (v := .int .i64 7) (by simp)
  have c1 := hk1.cell (p := ⟨w.heap.size, 1, none⟩) (v := .int .i64 y) (by simp)
  have c2 := hk1.cell (p := ⟨w.heap.size, 2, none⟩) (v := .int .i64 c) (by simp)
  have c3 := hk1.cell (p := ⟨w.heap.size, 3, none⟩) (v := .int .i64 t) (by simp)
  have c4 := hk1.cell (p := ⟨w.heap.size, 4, none⟩) (v := .int .i64 m) (by simp)
  have c5 := hk1.cell (p := ⟨w.heap.size, 5, none⟩) (v := .int .i64 f) (by simp)
  have c6 := hk1.cell (p := ⟨w.heap.size, 6, none⟩) (v := .bool b) (by simp)
  have HK := hide (hkA.trans hk1)
  clear hk1 hkA HEO
  go_wp2_with fail
  refine (kindOf_fail y c t m f b w1).mono ?_
  rintro x w2 ⟨rfl, hk2⟩
  replace HK := hide (HK.out.trans hk2)
  clear hk2 c0 c1 c2 c3 c4 c5 c6
  go_wp2_with fail
  refine (HTX.out w2 (HT.out.kept HK.out)).mono ?_
  rintro x w3 ⟨rfl, hk3⟩
  replace HK := hide (HK.out.trans hk3)
  clear hk3
  go_wp2_with fail
  go_ret
  exact ⟨rfl, HK.out⟩
set_option maxHeartbeats 2000000 in
theorem etx_8 (y c t m f : Int) (b : Bool) (w : World) (ht : Tab w) (h : evB 8 y c t m f b = true) : Calls Tryd.prog 20 #[evV 8 y c t m f b] w fun e w' => e = .returned (.string ⟨(evT 8 y c t m f b).toArray⟩) ∧ Keeps w w' := by
  have hm2 : ∀ w : World, (method 233 93 (.agg #[]) "loop.example/g00400/impl.text").run Tryd.prog w = .ok (98, .agg #[]) w := fun _ => by kernel_rfl
  have HT := hide ht
  have HEO := hide (evok_impl 8 y c t m f b)
  rw [h] at HEO
  have HTX := hide (fun w1 ht1 => text_tick  w1 ht1)
  simp only [← evT_8 y c t m f b] at HTX
  generalize evT 8 y c t m f b = X at HTX ⊢
  clear ht h
  have hkA := Keeps.alloc (Keeps.refl w) (.cells (evCells 8 y c t m f b) 31)
  go_enter Tryd.func20, Tryd.ntmps20
  go_wp2_with fail
  refine (HEO.out _).mono ?_
  rintro x w1 ⟨rfl, hk1⟩
  have c0 := hk1.cell (p := ⟨w.heap.size, 0, none⟩) (v := .int .i64 8) (by simp)
  have c1 := hk1.cell (p := ⟨w.heap.size, 1, none⟩) (v := .int .i64 y) (by simp)
  have c2 := hk1.cell (p := ⟨w.heap.size, 2, none⟩) (v := .int .i64 c) (by simp)
  have c3 := hk1.cell (p := ⟨w.heap.size, 3, none⟩) (v := .int .i64 t) (by simp)
  have c4 := hk1.cell (p := ⟨w.heap.size, 4, none⟩) (v := .int .i64 m) (by simp)
  have c5 := hk1.cell (p := ⟨w.heap.size, 5, none⟩) (v := .int .i64 f) (by simp)
  have c6 := hk1.cell (p := ⟨w.heap.size, 6, none⟩) (v := .bool b) (by simp)
  have HK := hide (hkA.trans hk1)
  clear hk1 hkA HEO
  go_wp2_with fail
  refine (kindOf_tick y c t m f b w1).mono ?_
  rintro x w2 ⟨rfl, hk2⟩
  replace HK := hide (HK.out.trans hk2)
  clear hk2 c0 c1 c2 c3 c4 c5 c6
  go_wp2_with fail
  refine (HTX.out w2 (HT.out.kept HK.out)).mono ?_
  rintro x w3 ⟨rfl, hk3⟩
  replace HK := hide (HK.out.trans hk3)
  clear hk3
  go_wp2_with fail
  go_ret
  exact ⟨rfl, HK.out⟩
set_option maxHeartbeats 2000000 in
theorem etx_9 (y c t m f : Int) (b : Bool) (w : World) (ht : Tab w) (h : evB 9 y c t m f b = true) : Calls Tryd.prog 20 #[evV 9 y c t m f b] w fun e w' => e = .returned (.string ⟨(evT 9 y c t m f b).toArray⟩) ∧ Keeps w w' := by
  have hm2 : ∀ w : World, (method 233 95 (.agg #[.int .i64 y, .int .i64 c, .int .i64 t, .int .i64 m, .int .i64 f]) "loop.example/g00400/impl.text").run Tryd.prog w = .ok (100, .agg #[.int .i64 y, .int .i64 c, .int .i64 t, .int .i64 m, .int .i64 f]) w := fun _ => by kernel_rfl
  have HT := hide ht
  have HEO := hide (evok_impl 9 y c t m f b)
  rw [h] at HEO
  have HTX := hide (fun w1 ht1 => text_launch y c t m f w1 ht1)
  simp only [← evT_9 y c t m f b] at HTX
  generalize evT 9 y c t m f b = X at HTX ⊢
  clear ht h
  have hkA := Keeps.alloc (Keeps.refl w) (.cells (evCells 9 y c t m f b) 31)
  go_enter Tryd.func20, Tryd.ntmps20
  go_wp2_with fail
  refine (HEO.out _).mono ?_
  rintro x w1 ⟨rfl, hk1⟩
  have c0 := hk1.cell (p := ⟨w.heap.size, 0, none⟩) (v := .int .i64 9) (by simp)
  have c1 := hk1.cell (p := ⟨w.heap.size, 1, none⟩) (v := .int .i64 y) (by simp)
  have c2 := hk1.cell (p := ⟨w.heap.size, 2, none⟩) (v := .int .i64 c) (by simp)
  have c3 := hk1.cell (p := ⟨w.heap.size, 3, none⟩) (v := .int .i64 t) (by simp)
  have c4 := hk1.cell (p := ⟨w.heap.size, 4, none⟩) (v := .int .i64 m) (by simp)
  have c5 := hk1.cell (p := ⟨w.heap.size, 5, none⟩) (v := .int .i64 f) (by simp)
  have c6 := hk1.cell (p := ⟨w.heap.size, 6, none⟩) (v := .bool b) (by simp)
  have HK := hide (hkA.trans hk1)
  clear hk1 hkA HEO
  go_wp2_with fail
  refine (kindOf_launch y c t m f b w1).mono ?_
  rintro x w2 ⟨rfl, hk2⟩
  replace HK := hide (HK.out.trans hk2)
  clear hk2 c0 c1 c2 c3 c4 c5 c6
  go_wp2_with fail
  refine (HTX.out w2 (HT.out.kept HK.out)).mono ?_
  rintro x w3 ⟨rfl, hk3⟩
  replace HK := hide (HK.out.trans hk3)
  clear hk3
  go_wp2_with fail
  go_ret
  exact ⟨rfl, HK.out⟩
set_option maxHeartbeats 2000000 in
theorem etx_10 (y c t m f : Int) (b : Bool) (w : World) (ht : Tab w) (h : evB 10 y c t m f b = true) : Calls Tryd.prog 20 #[evV 10 y c t m f b] w fun e w' => e = .returned (.string ⟨(evT 10 y c t m f b).toArray⟩) ∧ Keeps w w' := by
  have hm2 : ∀ w : World, (method 233 96 (.agg #[.int .i64 y]) "loop.example/g00400/impl.text").run Tryd.prog w = .ok (102, .agg #[.int .i64 y]) w := fun _ => by kernel_rfl
  have HT := hide ht
  have HEO := hide (evok_impl 10 y c t m f b)
  rw [h] at HEO
  have HTX := hide (fun w1 ht1 => text_arrive y w1 ht1)
  simp only [← evT_10 y c t m f b] at HTX
  generalize evT 10 y c t m f b = X at HTX ⊢
  clear ht h
  have hkA := Keeps.alloc (Keeps.refl w) (.cells (evCells 10 y c t m f b) 31)
  go_enter Tryd.func20, Tryd.ntmps20
  go_wp2_with fail
  refine (HEO.out _).mono ?_
  rintro x w1 ⟨rfl, hk1⟩
  have c0 := hk1.cell (p := ⟨w.heap.size, 0, none⟩) (v := .int .i64 10) (by simp)
  have c1 := hk1.cell (p := ⟨w.heap.size, 1, none⟩) (v := .int .i64 y) (by simp)
  have c2 := hk1.cell (p := ⟨w.heap.size, 2, none⟩) (v := .int .i64 c) (by simp)
  have c3 := hk1.cell (p := ⟨w.heap.size, 3, none⟩) (v := .int .i64 t) (by simp)
  have c4 := hk1.cell (p := ⟨w.heap.size, 4, none⟩) (v := .int .i64 m) (by simp)
  have c5 := hk1.cell (p := ⟨w.heap.size, 5, none⟩) (v := .int .i64 f) (by simp)
  have c6 := hk1.cell (p := ⟨w.heap.size, 6, none⟩) (v := .bool b) (by simp)
  have HK := hide (hkA.trans hk1)
  clear hk1 hkA HEO
  go_wp2_with fail
  refine (kindOf_arrive y c t m f b w1).mono ?_
  rintro x w2 ⟨rfl, hk2⟩
  replace HK := hide (HK.out.trans hk2)
  clear hk2 c0 c1 c2 c3 c4 c5 c6
  go_wp2_with fail
  refine (HTX.out w2 (HT.out.kept HK.out)).mono ?_
  rintro x w3 ⟨rfl, hk3⟩
  replace HK := hide (HK.out.trans hk3)
  clear hk3
  go_wp2_with fail
  go_ret
  exact ⟨rfl, HK.out⟩
set_option maxHeartbeats 2000000 in
theorem etx_11 (y c t m f : Int) (b : Bool) (w : World) (ht : Tab w) (h : evB 11 y c t m f b = true) : Calls Tryd.prog 20 #[evV 11 y c t m f b] w fun e w' => e = .returned (.string ⟨(evT 11 y c t m f b).toArray⟩) ∧ Keeps w w' := by
  have hm2 : ∀ w : World, (method 233 97 (.agg #[.int .i64 y]) "loop.example/g00400/impl.text").run Tryd.prog w = .ok (104, .agg #[.int .i64 y]) w := fun _ => by kernel_rfl
  have HT := hide ht
  have HEO := hide (evok_impl 11 y c t m f b)
  rw [h] at HEO
  have HTX := hide (fun w1 ht1 => text_lost y w1 ht1)
  simp only [← evT_11 y c t m f b] at HTX
  generalize evT 11 y c t m f b = X at HTX ⊢
  clear ht h
  have hkA := Keeps.alloc (Keeps.refl w) (.cells (evCells 11 y c t m f b) 31)
  go_enter Tryd.func20, Tryd.ntmps20
  go_wp2_with fail
  refine (HEO.out _).mono ?_
  rintro x w1 ⟨rfl, hk1⟩
  have c0 := hk1.cell (p := ⟨w.heap.size, 0, none⟩) (v := .int .i64 11) (by simp)
  have c1 := hk1.cell (p := ⟨w.heap.size, 1, none⟩) (v := .int .i64 y) (by simp)
  have c2 := hk1.cell (p := ⟨w.heap.size, 2, none⟩) (v := .int .i64 c) (by simp)
  have c3 := hk1.cell (p := ⟨w.heap.size, 3, none⟩) (v := .int .i64 t) (by simp)
  have c4 := hk1.cell (p := ⟨w.heap.size, 4, none⟩) (v := .int .i64 m) (by simp)
  have c5 := hk1.cell (p := ⟨w.heap.size, 5, none⟩) (v := .int .i64 f) (by simp)
  have c6 := hk1.cell (p := ⟨w.heap.size, 6, none⟩) (v := .bool b) (by simp)
  have HK := hide (hkA.trans hk1)
  clear hk1 hkA HEO
  go_wp2_with fail
  refine (kindOf_lost y c t m f b w1).mono ?_
  rintro x w2 ⟨rfl, hk2⟩
  replace HK := hide (HK.out.trans hk2)
  clear hk2 c0 c1 c2 c3 c4 c5 c6
  go_wp2_with fail
  refine (HTX.out w2 (HT.out.kept HK.out)).mono ?_
  rintro x w3 ⟨rfl, hk3⟩
  replace HK := hide (HK.out.trans hk3)
  clear hk3
  go_wp2_with fail
  go_ret
  exact ⟨rfl, HK.out⟩
theorem etx_no (k y c t m f : Int) (b : Bool) (w : World) (h : evB k y c t m f b = false) : Calls Tryd.prog 20 #[evV k y c t m f b] w fun e w' => e = .returned (.string ⟨[].toArray⟩) ∧ Keeps w w' := by
  have HEO := hide (evok_impl k y c t m f b)
  rw [h] at HEO
  have hkA := Keeps.alloc (Keeps.refl w) (.cells (evCells k y c t m f b) 31)
  go_enter Tryd.func20, Tryd.ntmps20
  go_wp2_with fail
  refine (HEO.out _).mono ?_
  rintro x w1 ⟨rfl, hk1⟩
  have HK := hide (hkA.trans hk1)
  clear hk1 hkA HEO
  go_wp2_with fail
  go_ret
  exact ⟨rfl, HK.out⟩
theorem etx_impl (k y c t m f : Int) (b : Bool) (w : World) (ht : Tab w) : Calls Tryd.prog 20 #[evV k y c t m f b] w fun e w' => e = .returned (.string ⟨(etL k y c t m f b).toArray⟩) ∧ Keeps w w' := by
  unfold etL
  cases h : evB k y c t m f b
  · rw [if_neg (by simp)]
    exact etx_no k y c t m f b w h
  · rw [if_pos rfl]
    obtain ⟨⟨k1, k2⟩, _⟩ := ev_bounds h
    have hk : k = 1 ∨ k = 2 ∨ k = 3 ∨ k = 4 ∨ k = 5 ∨ k = 6 ∨ k = 7 ∨ k = 8 ∨ k = 9 ∨ k = 10 ∨ k = 11 := by omega
    rcases hk with rfl | rfl | rfl | rfl | rfl | rfl | rfl | rfl | rfl | rfl | rfl
    · exact etx_1 y c t m f b w ht h
    · exact etx_2 y c t m f b w ht h
    · exact etx_3 y c t m f b w ht h
    · exact etx_4 y c t m f b w ht h
    · exact etx_5 y c t m f b w ht h
    · exact etx_6 y c t m f b w ht h
    · exact etx_7 y c t m f b w ht h
    · exact etx_8 y c t m f b w ht h
    · exact etx_9 y c t m f b w ht h
    · exact etx_10 y c t m f b w ht h
    · exact etx_11 y c t m f b w ht h
end Go.Proofs.YtjihinkjcplgcaaDoor
