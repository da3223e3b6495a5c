/- Texts of the verifier, joined: EtI, Aa, StD. -/
import Derived.Test.YtkgpoghoilffhaaGreatDoorSC3
import Derived.Test.YtkgpoghoilffhaaGreatDoorSC5
import Derived.Test.YtkgpoghoilffhaaGreatDoorSC2
namespace Go.Proofs.YtkgpoghoilffhaaGreatDoor
open Go.RowKit Go.Deep
set_option linter.unusedVariables false
set_option maxRecDepth 10000
def etL (k y c t m f : Int) (b : Bool) : List UInt8 := if evB k y c t m f b = true then evT k y c t m f b else []
set_option maxHeartbeats 2000000 in
theorem etx_1 (y c t m f : Int) (b : Bool) (w : World) (ht : Tab w) (h : evB 1 y c t m f b = true) : Calls Tryz.prog 23 #[evV 1 y c t m f b] w fun e w' => e = .returned (.string ⟨(evT 1 y c t m f b).toArray⟩) ∧ Keeps w w' := by
  have hm2 : ∀ w : World, (method 299 110 (.agg #[.int .i64 m]) "loop.example/g00400/impl.text").run Tryz.prog w = .ok (146, .agg #[.int .i64 m]) w := fun _ => by kernel_rfl
  have HT := hide ht
  have HEO := hide (evok_impl 1 y c t m f b)
  rw [h] at HEO
  have HTX := hide (fun w1 ht1 => text_deposit m w1 ht1)
  simp only [← evT_1 y c t m f b] at HTX
  generalize evT 1 y c t m f b = X at HTX ⊢
  clear ht h
  have hkA := Keeps.alloc (Keeps.refl w) (.cells (evCells 1 y c t m f b) 28)
  go_enter Tryz.func23, Tryz.ntmps23
  go_wp2_with fail
  refine (HEO.out _).mono ?_
  rintro x w1 ⟨rfl, hk1⟩
  have c0 := hk1.cell (p := ⟨w.heap.size, 0, none⟩) (v := .int .i64 1) (by simp)
  have c1 := hk1.cell (p := ⟨w.heap.size, 1, none⟩) (v := .int .i64 y) (by simp)
  have c2 := hk1.cell (p := ⟨w.heap.size, 2, none⟩) (v := .int .i64 c) (by simp)
  have c3 := hk1.cell (p := ⟨w.heap.size, 3, none⟩) (v := .int .i64 t) (by simp)
  have c4 := hk1.cell (p := ⟨w.heap.size, 4, none⟩) (v := .int .i64 m) (by simp)
  have c5 := hk1.cell (p := ⟨w.heap.size, 5, none⟩) (v := .int .i64 f) (by simp)
  have c6 := hk1.cell (p := ⟨w.heap.size, 6, none⟩) (v := .bool b) (by simp)
  have HK := hide (hkA.trans hk1)
  clear hk1 hkA HEO
  go_wp2_with fail
  refine (kindOf_deposit y c t m f b w1).mono ?_
  rintro x w2 ⟨rfl, hk2⟩
  replace HK := hide (HK.out.trans hk2)
  clear hk2 c0 c1 c2 c3 c4 c5 c6
  go_wp2_with fail
  refine (HTX.out w2 (HT.out.kept HK.out)).mono ?_
  rintro x w3 ⟨rfl, hk3⟩
  replace HK := hide (HK.out.trans hk3)
  clear hk3
  go_wp2_with fail
  go_ret
  exact ⟨rfl, HK.out⟩
set_option maxHeartbeats 2000000 in
theorem etx_2 (y c t m f : Int) (b : Bool) (w : World) (ht : Tab w) (h : evB 2 y c t m f b = true) : Calls Tryz.prog 23 #[evV 2 y c t m f b] w fun e w' => e = .returned (.string ⟨(evT 2 y c t m f b).toArray⟩) ∧ Keeps w w' := by
  have hm2 : ∀ w : World, (method 299 112 (.agg #[.int .i64 c, .int .i64 m, .int .i64 f]) "loop.example/g00400/impl.text").run Tryz.prog w = .ok (149, .agg #[.int .i64 c, .int .i64 m, .int .i64 f]) w := fun _ => by kernel_rfl
  have HT := hide ht
  have HEO := hide (evok_impl 2 y c t m f b)
  rw [h] at HEO
  have HTX := hide (fun w1 ht1 => text_open c m f w1 ht1)
  simp only [← evT_2 y c t m f b] at HTX
  generalize evT 2 y c t m f b = X at HTX ⊢
  clear ht h
  have hkA := Keeps.alloc (Keeps.refl w) (.cells (evCells 2 y c t m f b) 28)
  go_enter Tryz.func23, Tryz.ntmps23
  go_wp2_with fail
  refine (HEO.out _).mono ?_
  rintro x w1 ⟨rfl, hk1⟩
  have c0 := hk1.cell (p := ⟨w.heap.size, 0, none⟩) (v := .int .i64 2) (by simp)
  have c1 := hk1.cell (p := ⟨w.heap.size, 1, none⟩) (v := .int .i64 y) (by simp)
  have c2 := hk1.cell (p := ⟨w.heap.size, 2, none⟩) (v := .int .i64 c) (by simp)
  have c3 := hk1.cell (p := ⟨w.heap.size, 3, none⟩) (v := .int .i64 t) (by simp)
  have c4 := hk1.cell (p := ⟨w.heap.size, 4, none⟩) (v := .int .i64 m) (by simp)
  have c5 := hk1.cell (p := ⟨w.heap.size, 5, none⟩) (v := .int .i64 f) (by simp)
  have c6 := hk1.cell (p := ⟨w.heap.size, 6, none⟩) (v := .bool b) (by simp)
  have HK := hide (hkA.trans hk1)
  clear hk1 hkA HEO
  go_wp2_with fail
  refine (kindOf_open y c t m f b w1).mono ?_
  rintro x w2 ⟨rfl, hk2⟩
  replace HK := hide (HK.out.trans hk2)
  clear hk2 c0 c1 c2 c3 c4 c5 c6
  go_wp2_with fail
  refine (HTX.out w2 (HT.out.kept HK.out)).mono ?_
  rintro x w3 ⟨rfl, hk3⟩
  replace HK := hide (HK.out.trans hk3)
  clear hk3
  go_wp2_with fail
  go_ret
  exact ⟨rfl, HK.out⟩
set_option maxHeartbeats 2000000 in
theorem etx_3 (y c t m f : Int) (b : Bool) (w : World) (ht : Tab w) (h : evB 3 y c t m f b = true) : Calls Tryz.prog 23 #[evV 3 y c t m f b] w fun e w' => e = .returned (.string ⟨(evT 3 y c t m f b).toArray⟩) ∧ Keeps w w' := by
  have hm2 : ∀ w : World, (method 299 114 (.agg #[.int .i64 c, .int .i64 f]) "loop.example/g00400/impl.text").run Tryz.prog w = .ok (152, .agg #[.int .i64 c, .int .i64 f]) w := fun _ => by kernel_rfl
  have HT := hide ht
  have HEO := hide (evok_impl 3 y c t m f b)
  rw [h] at HEO
  have HTX := hide (fun w1 ht1 => text_close c f w1 ht1)
  simp only [← evT_3 y c t m f b] at HTX
  generalize evT 3 y c t m f b = X at HTX ⊢
  clear ht h
  have hkA := Keeps.alloc (Keeps.refl w) (.cells (evCells 3 y c t m f b) 28)
  go_enter Tryz.func23, Tryz.ntmps23
  go_wp2_with fail
  refine (HEO.out _).mono ?_
  rintro x w1 ⟨rfl, hk1⟩
  have c0 := hk1.cell (p := ⟨w.heap.size, 0, none⟩) (v := .int .i64 3) (by simp)
  have c1 := hk1.cell (p := ⟨w.heap.size, 1, none⟩) (v := .int .i64 y) (by simp)
  have c2 := hk1.cell (p := ⟨w.heap.size, 2, none⟩) (v := .int .i64 c) (by simp)
  have c3 := hk1.cell (p := ⟨w.heap.size, 3, none⟩) (v := .int .i64 t) (by simp)
  have c4 := hk1.cell (p := ⟨w.heap.size, 4, none⟩) (v := .int .i64 m) (by simp)
  have c5 := hk1.cell (p := ⟨w.heap.size, 5, none⟩) (v := .int .i64 f) (by simp)
  have c6 := hk1.cell (p := ⟨w.heap.size, 6, none⟩) (v := .bool b) (by simp)
  have HK := hide (hkA.trans hk1)
  clear hk1 hkA HEO
  go_wp2_with fail
  refine (kindOf_close y c t m f b w1).mono ?_
  rintro x w2 ⟨rfl, hk2⟩
  replace HK := hide (HK.out.trans hk2)
  clear hk2 c0 c1 c2 c3 c4 c5 c6
  go_wp2_with fail
  refine (HTX.out w2 (HT.out.kept HK.out)).mono ?_
  rintro x w3 ⟨rfl, hk3⟩
  replace HK := hide (HK.out.trans hk3)
  clear hk3
  go_wp2_with fail
  go_ret
  exact ⟨rfl, HK.out⟩
set_option maxHeartbeats 2000000 in
theorem etx_4 (y c t m f : Int) (b : Bool) (w : World) (ht : Tab w) (h : evB 4 y c t m f b = true) : Calls Tryz.prog 23 #[evV 4 y c t m f b] w fun e w' => e = .returned (.string ⟨(evT 4 y c t m f b).toArray⟩) ∧ Keeps w w' := by
  have hm2 : ∀ w : World, (method 299 116 (.agg #[.int .i64 c, .int .i64 m, .int .i64 f]) "loop.example/g00400/impl.text").run Tryz.prog w = .ok (154, .agg #[.int .i64 c, .int .i64 m, .int .i64 f]) w := fun _ => by kernel_rfl
  have HT := hide ht
  have HEO := hide (evok_impl 4 y c t m f b)
  rw [h] at HEO
  have HTX := hide (fun w1 ht1 => text_price c m f w1 ht1)
  simp only [← evT_4 y c t m f b] at HTX
  generalize evT 4 y c t m f b = X at HTX ⊢
  clear ht h
  have hkA := Keeps.alloc (Keeps.refl w) (.cells (evCells 4 y c t m f b) 28)
  go_enter Tryz.func23, Tryz.ntmps23
  go_wp2_with fail
  refine (HEO.out _).mono ?_
  rintro x w1 ⟨rfl, hk1⟩
  have c0 := hk1.cell (p := ⟨w.heap.size, 0, none⟩) (v := .int .i64 4) (by simp)
  have c1 := hk1.cell (p := ⟨w.heap.size, 1, none⟩) (v := .int .i64 y) (by simp)
  have c2 := hk1.cell (p := ⟨w.heap.size, 2, none⟩) (v := .int .i64 c) (by simp)
  have c3 := hk1.cell (p := ⟨w.heap.size, 3, none⟩) (v := .int .i64 t) (by simp)
  have c4 := hk1.cell (p := ⟨w.heap.size, 4, none⟩) (v := .int .i64 m) (by simp)
  have c5 := hk1.cell (p := ⟨w.heap.size, 5, none⟩) (v := .int .i64 f) (by simp)
  have c6 := hk1.cell (p := ⟨w.heap.size, 6, none⟩) (v := .bool b) (by simp)
  have HK := hide (hkA.trans hk1)
  clear hk1 hkA HEO
  go_wp2_with fail
  refine (kindOf_price y c t m f b w1).mono ?_
  rintro x w2 ⟨rfl, hk2⟩
  replace HK := hide (HK.out.trans hk2)
  clear hk2 c0 c1 c2 c3 c4 c5 c6
  go_wp2_with fail
  refine (HTX.out w2 (HT.out.kept HK.out)).mono ?_
  rintro x w3 ⟨rfl, hk3⟩
  replace HK := hide (HK.out.trans hk3)
  clear hk3
  go_wp2_with fail
  go_ret
  exact ⟨rfl, HK.out⟩
set_option maxHeartbeats 2000000 in
theorem etx_5 (y c t m f : Int) (b : Bool) (w : World) (ht : Tab w) (h : evB 5 y c t m f b = true) : Calls Tryz.prog 23 #[evV 5 y c t m f b] w fun e w' => e = .returned (.string ⟨(evT 5 y c t m f b).toArray⟩) ∧ Keeps w w' := by
  have hm2 : ∀ w : World, (method 299 118 (.agg #[.int .i64 y, .int .i64 c, .int .i64 t, .int .i64 m, .bool b]) "loop.example/g00400/impl.text").run Tryz.prog w = .ok (156, .agg #[.int .i64 y, .int .i64 c, .int .i64 t, .int .i64 m, .bool b]) w := fun _ => by kernel_rfl
  have HT := hide ht
  have HEO := hide (evok_impl 5 y c t m f b)
  rw [h] at HEO
  have HTX := hide (fun w1 ht1 => text_admit y c t m b w1 ht1)
  simp only [← evT_5 y c t m f b] at HTX
  generalize evT 5 y c t m f b = X at HTX ⊢
  clear ht h
  have hkA := Keeps.alloc (Keeps.refl w) (.cells (evCells 5 y c t m f b) 28)
  go_enter Tryz.func23, Tryz.ntmps23
  go_wp2_with fail
  refine (HEO.out _).mono ?_
  rintro x w1 ⟨rfl, hk1⟩
  have c0 := hk1.cell (p := ⟨w.heap.size, 0, none⟩) (v := .int .i64 5) (by simp)
  have c1 := hk1.cell (p := ⟨w.heap.size, 1, none⟩) (v := .int .i64 y) (by simp)
  have c2 := hk1.cell (p := ⟨w.heap.size, 2, none⟩) (v := .int .i64 c) (by simp)
  have c3 := hk1.cell (p := ⟨w.heap.size, 3, none⟩) (v := .int .i64 t) (by simp)
  have c4 := hk1.cell (p := ⟨w.heap.size, 4, none⟩) (v := .int .i64 m) (by simp)
  have c5 := hk1.cell (p := ⟨w.heap.size, 5, none⟩) (v := .int .i64 f) (by simp)
  have c6 := hk1.cell (p := ⟨w.heap.size, 6, none⟩) (v := .bool b) (by simp)
  have HK := hide (hkA.trans hk1)
  clear hk1 hkA HEO
  go_wp2_with fail
  refine (kindOf_admit y c t m f b w1).mono ?_
  rintro x w2 ⟨rfl, hk2⟩
  replace HK := hide (HK.out.trans hk2)
  clear hk2 c0 c1 c2 c3 c4 c5 c6
  go_wp2_with fail
  refine (HTX.out w2 (HT.out.kept HK.out)).mono ?_
  rintro x w3 ⟨rfl, hk3⟩
  replace HK := hide (HK.out.trans hk3)
  clear hk3
  go_wp2_with fail
  go_ret
  exact ⟨rfl, HK.out⟩
set_option maxHeartbeats 2000000 in
theorem etx_6 (y c t m f : Int) (b : Bool) (w : World) (ht : Tab w) (h : evB 6 y c t m f b = true) : Calls Tryz.prog 23 #[evV 6 y c t m f b] w fun e w' => e = .returned (.string ⟨(evT 6 y c t m f b).toArray⟩) ∧ Keeps w w' := by
  have hm2 : ∀ w : World, (method 299 120 (.agg #[.int .i64 y]) "loop.example/g00400/impl.text").run Tryz.prog w = .ok (160, .agg #[.int .i64 y]) w := fun _ => by kernel_rfl
  have HT := hide ht
  have HEO := hide (evok_impl 6 y c t m f b)
  rw [h] at HEO
  have HTX := hide (fun w1 ht1 => text_fulfill y w1 ht1)
  simp only [← evT_6 y c t m f b] at HTX
  generalize evT 6 y c t m f b = X at HTX ⊢
  clear ht h
  have hkA := Keeps.alloc (Keeps.refl w) (.cells (evCells 6 y c t m f b) 28)
  go_enter Tryz.func23, Tryz.ntmps23
  go_wp2_with fail
  refine (HEO.out _).mono ?_
  rintro x w1 ⟨rfl, hk1⟩
  have c0 := hk1.cell (p := ⟨w.heap.size, 0, none⟩) (v := .int .i64 6) (by simp)
  have c1 := hk1.cell (p := ⟨w.heap.size, 1, none⟩) (v := .int .i64 y) (by simp)
  have c2 := hk1.cell (p := ⟨w.heap.size, 2, none⟩) (v := .int .i64 c) (by simp)
  have c3 := hk1.cell (p := ⟨w.heap.size, 3, none⟩) (v := .int .i64 t) (by simp)
  have c4 := hk1.cell (p := ⟨w.heap.size, 4, none⟩) (v := .int .i64 m) (by simp)
  have c5 := hk1.cell (p := ⟨w.heap.size, 5, none⟩) (v := .int .i64 f) (by simp)
  have c6 := hk1.cell (p := ⟨w.heap.size, 6, none⟩) (v := .bool b) (by simp)
  have HK := hide (hkA.trans hk1)
  clear hk1 hkA HEO
  go_wp2_with fail
  refine (kindOf_fulfill y c t m f b w1).mono ?_
  rintro x w2 ⟨rfl, hk2⟩
  replace HK := hide (HK.out.trans hk2)
  clear hk2 c0 c1 c2 c3 c4 c5 c6
  go_wp2_with fail
  refine (HTX.out w2 (HT.out.kept HK.out)).mono ?_
  rintro x w3 ⟨rfl, hk3⟩
  replace HK := hide (HK.out.trans hk3)
  clear hk3
  go_wp2_with fail
  go_ret
  exact ⟨rfl, HK.out⟩
set_option maxHeartbeats 2000000 in
theorem etx_7 (y c t m f : Int) (b : Bool) (w : World) (ht : Tab w) (h : evB 7 y c t m f b = true) : Calls Tryz.prog 23 #[evV 7 y c t m f b] w fun e w' => e = .returned (.string ⟨(evT 7 y c t m f b).toArray⟩) ∧ Keeps w w' := by
  have hm2 : ∀ w : World, (method 299 121 (.agg #[.int .i64 y]) "loop.example/g00400/impl.text").run Tryz.prog w = .ok (162, .agg #[.int .i64 y]) w := fun _ => by kernel_rfl
  have HT := hide ht
  have HEO := hide (evok_impl 7 y c t m f b)
  rw [h] at HEO
  have HTX := hide (fun w1 ht1 => text_fail y w1 ht1)
  simp only [← evT_7 y c t m f b] at HTX
  generalize evT 7 y c t m f b = X at HTX ⊢
  clear ht h
  have hkA := Keeps.alloc (Keeps.refl w) (.cells (evCells 7 y c t m f b) 28)
  go_enter Tryz.func23, Tryz.ntmps23
  go_wp2_with fail
  refine (HEO.out _).mono ?_
  rintro x w1 ⟨rfl, hk1⟩
  have c0 := hk1.cell (p := ⟨w.heap.size, 0, none⟩) (v := .int .i64 7) (by simp)
  have c1 := hk1.cell (p := ⟨w.heap.size, 1, none⟩) (v := .int .i64 y) (by simp)
  have c2 := hk1.cell (p := ⟨w.heap.size, 2, none⟩) (v := .int .i64 c) (by simp)
  have c3 := hk1.cell (p := ⟨w.heap.size, 3, none⟩) (v := .int .i64 t) (by simp)
  have c4 := hk1.cell (p := ⟨w.heap.size, 4, none⟩) (v := .int .i64 m) (by simp)
  have c5 := hk1.cell (p := ⟨w.heap.size, 5, none⟩) (v := .int .i64 f) (by simp)
  have c6 := hk1.cell (p := ⟨w.heap.size, 6, none⟩) (v := .bool b) (by simp)
  have HK := hide (hkA.trans hk1)
  clear hk1 hkA HEO
  go_wp2_with fail
  refine (kindOf_fail y c t m f b w1).mono ?_
  rintro x w2 ⟨rfl, hk2⟩
  replace HK := hide (HK.out.trans hk2)
  clear hk2 c0 c1 c2 c3 c4 c5 c6
  go_wp2_with fail
  refine (HTX.out w2 (HT.out.kept HK.out)).mono ?_
  rintro x w3 ⟨rfl, hk3⟩
  replace HK := hide (HK.out.trans hk3)
  clear hk3
  go_wp2_with fail
  go_ret
  exact ⟨rfl, HK.out⟩
set_option maxHeartbeats 2000000 in
theorem etx_8 (y c t m f : Int) (b : Bool) (w : World) (ht : Tab w) (h : evB 8 y c t m f b = true) : Calls Tryz.prog 23 #[evV 8 y c t m f b] w fun e w' => e = .returned (.string ⟨(evT 8 y c t m f b).toArray⟩) ∧ Keeps w w' := by
  have hm2 : ∀ w : World, (method 299 123 (.agg #[]) "loop.example/g00400/impl.text").run Tryz.prog w = .ok (164, .agg #[]) w := fun _ => by kernel_rfl
  have HT := hide ht
  have HEO := hide (evok_impl 8 y c t m f b)
  rw [h] at HEO
  have HTX := hide (fun w1 ht1 => text_tick  w1 ht1)
  simp only [← evT_8 y c t m f b] at HTX
  generalize evT 8 y c t m f b = X at HTX ⊢
  clear ht h
  have hkA := Keeps.alloc (Keeps.refl w) (.cells (evCells 8 y c t m f b) 28)
  go_enter Tryz.func23, Tryz.ntmps23
  go_wp2_with fail
  refine (HEO.out _).mono ?_
  rintro x w1 ⟨rfl, hk1⟩
  have c0 := hk1.cell (p := ⟨w.heap.size, 0, none⟩) (v := .int .i64 8) (by simp)
  have c1 := hk1.cell (p := ⟨w.heap.size, 1, none⟩) (v := .int .i64 y) (by simp)
  have c2 := hk1.cell (p := ⟨w.heap.size, 2, none⟩) (v := .int .i64 c) (by simp)
  have c3 := hk1.cell (p := ⟨w.heap.size, 3, none⟩) (v := .int .i64 t) (by simp)
  have c4 := hk1.cell (p := ⟨w.heap.size, 4, none⟩) (v := .int .i64 m) (by simp)
  have c5 := hk1.cell (p := ⟨w.heap.size, 5, none⟩) (v := .int .i64 f) (by simp)
  have c6 := hk1.cell (p := ⟨w.heap.size, 6, none⟩) (v := .bool b) (by simp)
  have HK := hide (hkA.trans hk1)
  clear hk1 hkA HEO
  go_wp2_with fail
  refine (kindOf_tick y c t m f b w1).mono ?_
  rintro x w2 ⟨rfl, hk2⟩
  replace HK := hide (HK.out.trans hk2)
  clear hk2 c0 c1 c2 c3 c4 c5 c6
  go_wp2_with fail
  refine (HTX.out w2 (HT.out.kept HK.out)).mono ?_
  rintro x w3 ⟨rfl, hk3⟩
  replace HK := hide (HK.out.trans hk3)
  clear hk3
  go_wp2_with fail
  go_ret
  exact ⟨rfl, HK.out⟩
set_option maxHeartbeats 2000000 in
theorem etx_9 (y c t m f : Int) (b : Bool) (w : World) (ht : Tab w) (h : evB 9 y c t m f b = true) : Calls Tryz.prog 23 #[evV 9 y c t m f b] w fun e w' => e = .returned (.string ⟨(evT 9 y c t m f b).toArray⟩) ∧ Keeps w w' := by
  have hm2 : ∀ w : World, (method 299 125 (.agg #[.int .i64 y, .int .i64 c, .int .i64 t, .int .i64 m, .int .i64 f]) "loop.example/g00400/impl.text").run Tryz.prog w = .ok (166, .agg #[.int .i64 y, .int .i64 c, .int .i64 t, .int .i64 m, .int .i64 f]) w := fun _ => by kernel_rfl
  have HT := hide ht
  have HEO := hide (evok_impl 9 y c t m f b)
  rw [h] at HEO
  have HTX := hide (fun w1 ht1 => text_launch y c t m f w1 ht1)
  simp only [← evT_9 y c t m f b] at HTX
  generalize evT 9 y c t m f b = X at HTX ⊢
  clear ht h
  have hkA := Keeps.alloc (Keeps.refl w) (.cells (evCells 9 y c t m f b) 28)
  go_enter Tryz.func23, Tryz.ntmps23
  go_wp2_with fail
  refine (HEO.out _).mono ?_
  rintro x w1 ⟨rfl, hk1⟩
  have c0 := hk1.cell (p := ⟨w.heap.size, 0, none⟩) (v := .int .i64 9) (by simp)
  have c1 := hk1.cell (p := ⟨w.heap.size, 1, none⟩) (v := .int .i64 y) (by simp)
  have c2 := hk1.cell (p := ⟨w.heap.size, 2, none⟩) (v := .int .i64 c) (by simp)
  have c3 := hk1.cell (p := ⟨w.heap.size, 3, none⟩) (v := .int .i64 t) (by simp)
  have c4 := hk1.cell (p := ⟨w.heap.size, 4, none⟩) (v := .int .i64 m) (by simp)
  have c5 := hk1.cell (p := ⟨w.heap.size, 5, none⟩) (v := .int .i64 f) (by simp)
  have c6 := hk1.cell (p := ⟨w.heap.size, 6, none⟩) (v := .bool b) (by simp)
  have HK := hide (hkA.trans hk1)
  clear hk1 hkA HEO
  go_wp2_with fail
  refine (kindOf_launch y c t m f b w1).mono ?_
  rintro x w2 ⟨rfl, hk2⟩
  replace HK := hide (HK.out.trans hk2)
  clear hk2 c0 c1 c2 c3 c4 c5 c6
  go_wp2_with fail
  refine (HTX.out w2 (HT.out.kept HK.out)).mono ?_
  rintro x w3 ⟨rfl, hk3⟩
  replace HK := hide (HK.out.trans hk3)
  clear hk3
  go_wp2_with fail
  go_ret
  exact ⟨rfl, HK.out⟩
set_option maxHeartbeats 2000000 in
theorem etx_10 (y c t m f : Int) (b : Bool) (w : World) (ht : Tab w) (h : evB 10 y c t m f b = true) : Calls Tryz.prog 23 #[evV 10 y c t m f b] w fun e w' => e = .returned (.string ⟨(evT 10 y c t m f b).toArray⟩) ∧ Keeps w w' := by
  have hm2 : ∀ w : World, (method 299 126 (.agg #[.int .i64 y]) "loop.example/g00400/impl.text").run Tryz.prog w = .ok (168, .agg #[.int .i64 y]) w := fun _ => by kernel_rfl
  have HT := hide ht
  have HEO := hide (evok_impl 10 y c t m f b)
  rw [h] at HEO
  have HTX := hide (fun w1 ht1 => text_arrive y w1 ht1)
  simp only [← evT_10 y c t m f b] at HTX
  generalize evT 10 y c t m f b = X at HTX ⊢
  clear ht h
  have hkA := Keeps.alloc (Keeps.refl w) (.cells (evCells 10 y c t m f b) 28)
  go_enter Tryz.func23, Tryz.ntmps23
  go_wp2_with fail
  refine (HEO.out _).mono ?_
  rintro x w1 ⟨rfl, hk1⟩
  have c0 := hk1.cell (p := ⟨w.heap.size, 0, none⟩) (v := .int .i64 10) (by simp)
  have c1 := hk1.cell (p := ⟨w.heap.size, 1, none⟩) (v := .int .i64 y) (by simp)
  have c2 := hk1.cell (p := ⟨w.heap.size, 2, none⟩) (v := .int .i64 c) (by simp)
  have c3 := hk1.cell (p := ⟨w.heap.size, 3, none⟩) (v := .int .i64 t) (by simp)
  have c4 := hk1.cell (p := ⟨w.heap.size, 4, none⟩) (v := .int .i64 m) (by simp)
  have c5 := hk1.cell (p := ⟨w.heap.size, 5, none⟩) (v := .int .i64 f) (by simp)
  have c6 := hk1.cell (p := ⟨w.heap.size, 6, none⟩) (v := .bool b) (by simp)
  have HK := hide (hkA.trans hk1)
  clear hk1 hkA HEO
  go_wp2_with fail
  refine (kindOf_arrive y c t m f b w1).mono ?_
  rintro x w2 ⟨rfl, hk2⟩
  replace HK := hide (HK.out.trans hk2)
  clear hk2 c0 c1 c2 c3 c4 c5 c6
  go_wp2_with fail
  refine (HTX.out w2 (HT.out.kept HK.out)).mono ?_
  rintro x w3 ⟨rfl, hk3⟩
  replace HK := hide (HK.out.trans hk3)
  clear hk3
  go_wp2_with fail
  go_ret
  exact ⟨rfl, HK.out⟩
set_option maxHeartbeats 2000000 in
theorem etx_11 (y c t m f : Int) (b : Bool) (w : World) (ht : Tab w) (h : evB 11 y c t m f b = true) : Calls Tryz.prog 23 #[evV 11 y c t m f b] w fun e w' => e = .returned (.string ⟨(evT 11 y c t m f b).toArray⟩) ∧ Keeps w w' := by
  have hm2 : ∀ w : World, (method 299 127 (.agg #[.int .i64 y]) "loop.example/g00400/impl.text").run Tryz.prog w = .ok (170, .agg #[.int .i64 y]) w := fun _ => by kernel_rfl
  have HT := hide ht
  have HEO := hide (evok_impl 11 y c t m f b)
  rw [h] at HEO
  have HTX := hide (fun w1 ht1 => text_lost y w1 ht1)
  simp only [← evT_11 y c t m f b] at HTX
  generalize evT 11 y c t m f b = X at HTX ⊢
  clear ht h
  have hkA := Keeps.alloc (Keeps.refl w) (.cells (evCells 11 y c t m f b) 28)
  go_enter Tryz.func23, Tryz.ntmps23
  go_wp2_with fail
  refine (HEO.out _).mono ?_
  rintro x w1 ⟨rfl, hk1⟩
  have c0 := hk1.cell (p := ⟨w.heap.size, 0, none⟩) (v := .int .i64 11) (by simp)
  have c1 := hk1.cell (p := ⟨w.heap.size, 1, none⟩) (v := .int .i64 y) (by simp)
  have c2 := hk1.cell (p := ⟨w.heap.size, 2, none⟩) (v := .int .i64 c) (by simp)
  have c3 := hk1.cell (p := ⟨w.heap.size, 3, none⟩) (v := .int .i64 t) (by simp)
  have c4 := hk1.cell (p := ⟨w.heap.size, 4, none⟩) (v := .int .i64 m) (by simp)
  have c5 := hk1.cell (p := ⟨w.heap.size, 5, none⟩) (v := .int .i64 f) (by simp)
  have c6 := hk1.cell (p := ⟨w.heap.size, 6, none⟩) (v := .bool b) (by simp)
  have HK := hide (hkA.trans hk1)
  clear hk1 hkA HEO
  go_wp2_with fail
  refine (kindOf_lost y c t m f b w1).mono ?_
  rintro x w2 ⟨rfl, hk2⟩
  replace HK := hide (HK.out.trans hk2)
  clear hk2 c0 c1 c2 c3 c4 c5 c6
  go_wp2_with fail
  refine (HTX.out w2 (HT.out.kept HK.out)).mono ?_
  rintro x w3 ⟨rfl, hk3⟩
  replace HK := hide (HK.out.trans hk3)
  clear hk3
  go_wp2_with fail
  go_ret
  exact ⟨rfl, HK.out⟩
theorem etx_no (k y c t m f : Int) (b : Bool) (w : World) (h : evB k y c t m f b = false) : Calls Tryz.prog 23 #[evV k y c t m f b] w fun e w' => e = .returned (.string ⟨[].toArray⟩) ∧ Keeps w w' := by
  have HEO := hide (evok_impl k y c t m f b)
  rw [h] at HEO
  have hkA := Keeps.alloc (Keeps.refl w) (.cells (evCells k y c t m f b) 28)
  go_enter Tryz.func23, Tryz.ntmps23
  go_wp2_with fail
  refine (HEO.out _).mono ?_
  rintro x w1 ⟨rfl, hk1⟩
  have HK := hide (hkA.trans hk1)
  clear hk1 hkA HEO
  go_wp2_with fail
  go_ret
  exact ⟨rfl, HK.out⟩
theorem etx_impl (k y c t m f : Int) (b : Bool) (w : World) (ht : Tab w) : Calls Tryz.prog 23 #[evV k y c t m f b] w fun e w' => e = .returned (.string ⟨(etL k y c t m f b).toArray⟩) ∧ Keeps w w' := by
  unfold etL
  cases h : evB k y c t m f b
  · rw [if_neg (by simp)]
    exact etx_no k y c t m f b w h
  · rw [if_pos rfl]
    obtain ⟨⟨k1, k2⟩, _⟩ := ev_bounds h
    have hk : k = 1 ∨ k = 2 ∨ k = 3 ∨ k = 4 ∨ k = 5 ∨ k = 6 ∨ k = 7 ∨ k = 8 ∨ k = 9 ∨ k = 10 ∨ k = 11 := by omega
    rcases hk with rfl | rfl | rfl | rfl | rfl | rfl | rfl | rfl | rfl | rfl | rfl
    · exact etx_1 y c t m f b w ht h
    · exact etx_2 y c t m f b w ht h
    · exact etx_3 y c t m f b w ht h
    · exact etx_4 y c t m f b w ht h
    · exact etx_5 y c t m f b w ht h
    · exact etx_6 y c t m f b w ht h
    · exact etx_7 y c t m f b w ht h
    · exact etx_8 y c t m f b w ht h
    · exact etx_9 y c t m f b w ht h
    · exact etx_10 y c t m f b w ht h
    · exact etx_11 y c t m f b w ht h
end Go.Proofs.YtkgpoghoilffhaaGreatDoor
namespace Go.Proofs.YtkgpoghoilffhaaGreatDoor
open Go.RowKit Go.Deep
set_option linter.unusedVariables false
set_option linter.unusedSimpArgs false
set_option maxRecDepth 10000
theorem amt_implK (n : Int) (w : World) : Calls Tryz.prog 67 #[.int .i64 n] w fun e w' => e = .returned (.bool (amtB n)) ∧ w' = w := by
  by_cases h1 : 0 ≤ n
  · by_cases h2 : n ≤ 1125899906842624
    · go_enter Tryz.func67, Tryz.ntmps67
      go_wp2
      go_ret
      exact ⟨ret_b (amtB_yes h1 h2).symm, rfl⟩
    · go_enter Tryz.func67, Tryz.ntmps67
      go_wp2
      go_ret
      exact ⟨ret_b (amtB_no (by omega)).symm, rfl⟩
  · go_enter Tryz.func67, Tryz.ntmps67
    go_wp2
    go_ret
    exact ⟨ret_b (amtB_no (by omega)).symm, rfl⟩
theorem notamt_k (x : Int) (w : World) : Calls Tryz.prog 66 #[.int .i64 x] w fun e w' => e = .returned (.bool (!amtB x)) ∧ w' = w := by
  have HQ := hide (amt_implK x)
  go_enter Tryz.func66, Tryz.ntmps66
  go_wp2_with fail
  refine (unhide HQ _).mono ?_
  rintro e w1 ⟨rfl, hw⟩
  obtain rfl := Eq.symm hw
  clear hw
  go_wp2_with fail
  go_ret
  exact ⟨rfl, rfl⟩
def allA (L : List Int) : Bool := L.all amtB
set_option maxHeartbeats 2000000 in
theorem indexA_k (a : Option Addr) (cap : Nat) (L : List Int) (w : World) (h : Cells w a (its L)) (hn : L.length ≤ 1048576) :
    Calls Tryz.prog 82 #[.slice a L.length cap, .func (Fn.func 66) #[] #[]] w fun e w' => w' = w ∧ ((∃ v : Nat, allA L = false ∧ e = .returned (.int .i64 (v : Int))) ∨ (allA L = true ∧ e = .returned (.int .i64 (-1)))) := by
  have HC := hide h
  clear h
  go_enter Tryz.func82, Tryz.ntmps82
  go_wp2_with fail
  go_loop [8] (fun y => ∃ k : Nat, k ≤ L.length ∧ y = .int .i64 (k : Int) ∧ Hid ((L.take k).all amtB = true)) (fun y => L.length - (intOf y).toNat)
  case atStart => exact ⟨0, by omega, rfl, by show _ = _; simp⟩
  case round =>
    obtain ⟨k, hk, rfl, HZ⟩ := hrel
    by_cases hlt : k < L.length
    · obtain ⟨b, off, ea, c0⟩ := its_at HC.out k hlt
      subst ea
      have HE := hide (List.take_append_getElem hlt)
      generalize L[k] = x at *
      have HQ := hide (fun w' => notamt_k x w')
      cases hx : amtB x
      · rw [hx] at HQ
        have HF : Hid (allA L = false) := by
          show _ = _
          refine List.all_eq_false.2 ⟨x, ?_, by simp [hx]⟩
          have := HE.out
          exact List.mem_of_mem_take (i := k + 1) (by rw [← this]; simp)
        clear hx
        go_wp2_with fail
        refine (unhide HQ _).mono ?_
        rintro e w1 ⟨rfl, hw⟩
        obtain rfl := Eq.symm hw
        clear hw
        go_wp2_with fail
        go_ret
        exact ⟨rfl, Or.inl ⟨k, HF.out, rfl⟩⟩
      · rw [hx] at HQ
        have HF : Hid ((L.take (k + 1)).all amtB = true) := by
          show _ = _
          rw [← HE.out, List.all_append, HZ.out]
          simp [hx]
        clear hx HE
        go_wp2_with fail
        refine (unhide HQ _).mono ?_
        rintro e w1 ⟨rfl, hw⟩
        obtain rfl := Eq.symm hw
        clear hw
        go_wp2_with fail
        go_round
        case rel => exact ⟨k + 1, by omega, by go_num, HF⟩
        case measure => simp [intOf]; omega
    · have e : k = L.length := by omega
      subst e
      go_wp2_with fail
      go_ret
      exact ⟨rfl, Or.inr ⟨by have h3 := HZ.out; rw [List.take_length] at h3; exact h3, rfl⟩⟩
theorem containsA_k (a : Option Addr) (cap : Nat) (L : List Int) (w : World) (h : Cells w a (its L)) (hn : L.length ≤ 1048576) :
    Calls Tryz.prog 65 #[.slice a L.length cap, .func (Fn.func 66) #[] #[]] w fun e w' => e = .returned (.bool (!allA L)) ∧ w' = w := by
  have HQ := hide (indexA_k a cap L w h hn)
  clear h
  go_enter Tryz.func65, Tryz.ntmps65
  go_wp2_with fail
  refine (unhide HQ).mono ?_
  rintro e w1 ⟨hw, ⟨v, hv, rfl⟩ | ⟨hv, rfl⟩⟩
  · obtain rfl := Eq.symm hw
    have HV := hide hv
    clear hw hv HQ
    have hd : decide ((0 : Int) ≤ (v : Int)) = true := by simp
    go_wp2_with fail
    go_ret
    exact ⟨ret_b (by rw [HV.out]; simp), rfl⟩
  · obtain rfl := Eq.symm hw
    have HV := hide hv
    clear hw hv HQ
    go_wp2_with fail
    go_ret
    exact ⟨ret_b (by rw [HV.out]; rfl), rfl⟩
theorem allamts_k (a : Option Addr) (cap : Nat) (L : List Int) (w : World) (h : Cells w a (its L)) (hn : L.length ≤ 1048576) :
    Calls Tryz.prog 37 #[.slice a L.length cap] w fun e w' => e = .returned (.bool (allA L)) ∧ w' = w := by
  have HQ := hide (containsA_k a cap L w h hn)
  clear h
  go_enter Tryz.func37, Tryz.ntmps37
  go_wp2_with fail
  refine (unhide HQ).mono ?_
  rintro e w1 ⟨rfl, hw⟩
  obtain rfl := Eq.symm hw
  clear hw HQ
  go_wp2_with fail
  go_ret
  exact ⟨ret_b (by simp), rfl⟩
end Go.Proofs.YtkgpoghoilffhaaGreatDoor
namespace Go.Proofs.YtkgpoghoilffhaaGreatDoor
open Go.RowKit Go.Deep
set_option linter.unusedVariables false
set_option linter.unusedSimpArgs false
set_option maxRecDepth 10000
structure Stp where
  k : Int
  e : Ev
  ks : List Int
  r : Rul
abbrev Stp.cells (D : Stp) (a : Option Addr) (c : Nat) : Array Value := #[.int .i64 D.k, .int .i64 D.e.k, .int .i64 D.e.y, .int .i64 D.e.c, .int .i64 D.e.t, .int .i64 D.e.m, .int .i64 D.e.f, .bool D.e.b, .slice a D.ks.length c, .int .i64 D.r.lo, .int .i64 D.r.hi, .int .i64 D.r.st, .int .i64 D.r.mi, .int .i64 D.r.ma]
abbrev Stp.v (D : Stp) (a : Option Addr) (c : Nat) : Value := .agg (D.cells a c)
def noE : Ev := ⟨0, 0, 0, 0, 0, 0, false⟩
def noR : Rul := ⟨0, 0, 0, 0, 0⟩
def zeroE (e : Ev) : Bool := evEq e.k e.y e.c e.t e.m e.f e.b 0 0 0 0 0 0 false
def rulEq (r s : Rul) : Bool := decide (r.lo = s.lo) && decide (r.hi = s.hi) && decide (r.st = s.st) && decide (r.mi = s.mi) && decide (r.ma = s.ma)
def zeroR (r : Rul) : Bool := rulEq r noR
theorem zeroE_eq {e : Ev} (h : zeroE e = true) : e = noE := by
  obtain ⟨k, y, c, t, m, f, b⟩ := e
  simp only [zeroE, evEq, Bool.and_eq_true, decide_eq_true_eq] at h
  obtain ⟨⟨⟨⟨⟨⟨rfl, rfl⟩, rfl⟩, rfl⟩, rfl⟩, rfl⟩, rfl⟩ := h
  rfl
theorem zeroR_eq {r : Rul} (h : zeroR r = true) : r = noR := by
  obtain ⟨a, b, c, d, e⟩ := r
  have h2 : rulEq ⟨a, b, c, d, e⟩ ⟨0, 0, 0, 0, 0⟩ = true := h
  simp only [rulEq, Bool.and_eq_true, decide_eq_true_eq] at h2
  obtain ⟨⟨⟨⟨rfl, rfl⟩, rfl⟩, rfl⟩, rfl⟩ := h2
  rfl
theorem infoRule : Tryz.prog.underlying 31 = some (.struct (Tryz.prog.fieldsOf 31)) := by kernel_rfl
set_option maxHeartbeats 2000000 in
theorem rul_eql (r s : Rul) (w : World) : (binOp .eql 31 r.v s.v).run Tryz.prog w = .ok (.bool (rulEq r s)) w := by
  obtain ⟨k, y, c, t, m⟩ := r
  obtain ⟨k', y', c', t', m'⟩ := s
  have hs : Tryz.prog.stoodInHeld 31 = false := by kernel_rfl
  have hf : (Tryz.prog.fieldsOf 31).toList.map (fun f => (f.name, f.type, f.offset)) = [("Lo", 3, 0), ("Hi", 3, 1), ("Step", 3, 2), ("Min", 3, 3), ("Max", 3, 4)] := by kernel_rfl
  unfold Rul.v
  dsimp only
  rw [run_eql_struct, run_equalIn_agg _ _ _ _ _ infoRule hs]
  generalize (Tryz.prog.fieldsOf 31).toList = fs at hf
  simp only [List.map_eq_cons_iff, List.map_eq_nil_iff, Prod.mk.injEq] at hf
  obtain ⟨f0, r0, rfl, ⟨n0, t0, o0⟩, f1, r1, rfl, ⟨n1, t1, o1⟩, f2, r2, rfl, ⟨n2, t2, o2⟩, f3, r3, rfl, ⟨n3, t3, o3⟩, f4, r4, rfl, ⟨n4, t4, o4⟩, rfl⟩ := hf
  have hi : Tryz.prog.underlying 3 = some (.int .i64) := Tryz.underlying3
  by_cases e0 : k = k'
  case neg => simp [Op.eqFields, go_sem, n0, t0, o0, n1, t1, o1, n2, t2, o2, n3, t3, o3, n4, t4, o4, rulEq, hi, e0]
  by_cases e1 : y = y'
  case neg => simp [Op.eqFields, go_sem, n0, t0, o0, n1, t1, o1, n2, t2, o2, n3, t3, o3, n4, t4, o4, rulEq, hi, e0, e1]
  by_cases e2 : c = c'
  case neg => simp [Op.eqFields, go_sem, n0, t0, o0, n1, t1, o1, n2, t2, o2, n3, t3, o3, n4, t4, o4, rulEq, hi, e0, e1, e2]
  by_cases e3 : t = t'
  case neg => simp [Op.eqFields, go_sem, n0, t0, o0, n1, t1, o1, n2, t2, o2, n3, t3, o3, n4, t4, o4, rulEq, hi, e0, e1, e2, e3]
  by_cases e4 : m = m'
  case neg => simp [Op.eqFields, go_sem, n0, t0, o0, n1, t1, o1, n2, t2, o2, n3, t3, o3, n4, t4, o4, rulEq, hi, e0, e1, e2, e3, e4]
  simp [Op.eqFields, go_sem, n0, t0, o0, n1, t1, o1, n2, t2, o2, n3, t3, o3, n4, t4, o4, rulEq, hi, e0, e1, e2, e3, e4]
def noK (ks : List Int) : Bool := ks.length == 0
theorem noK_eq {ks : List Int} (h : noK ks = true) : ks = [] := by simpa [noK] using h
/-- Whether what a step's kind has is right, and the rest zero. -/
def stpB (D : Stp) : Bool :=
  if D.k = 1 then evB D.e.k D.e.y D.e.c D.e.t D.e.m D.e.f D.e.b && noK D.ks && zeroR D.r
  else if D.k = 2 ∨ D.k = 4 then zeroE D.e && noK D.ks && zeroR D.r
  else if D.k = 3 then zeroE D.e && allA D.ks && zeroR D.r
  else if D.k = 5 then zeroE D.e && noK D.ks && ruleB D.r
  else false
def stT (D : Stp) : List UInt8 :=
  if D.k = 1 then [116, 97, 107, 101, 32] ++ evT D.e.k D.e.y D.e.c D.e.t D.e.m D.e.f D.e.b
  else if D.k = 2 then [115, 121, 110, 99]
  else if D.k = 3 then sen [99, 114, 97, 115, 104] D.ks
  else if D.k = 4 then [115, 116, 97, 114, 116]
  else sen [116, 117, 114, 110] [D.r.lo, D.r.hi, D.r.st, D.r.mi, D.r.ma]
def stL (D : Stp) : List UInt8 := if stpB D = true then stT D else []
theorem stp_box (D : Stp) (a : Option Addr) (c : Nat) (w : World) (ty : TypeId) : ∀ w', Keeps (w.alloc (.cells (D.cells a c) ty)) w' → w'.cell? ⟨w.heap.size, 0, none⟩ = some (.int .i64 D.k) ∧ (w'.cell? ⟨w.heap.size, 1, none⟩ = some (.int .i64 D.e.k) ∧ w'.cell? ⟨w.heap.size, 2, none⟩ = some (.int .i64 D.e.y) ∧ w'.cell? ⟨w.heap.size, 3, none⟩ = some (.int .i64 D.e.c) ∧ w'.cell? ⟨w.heap.size, 4, none⟩ = some (.int .i64 D.e.t) ∧ w'.cell? ⟨w.heap.size, 5, none⟩ = some (.int .i64 D.e.m) ∧ w'.cell? ⟨w.heap.size, 6, none⟩ = some (.int .i64 D.e.f) ∧ w'.cell? ⟨w.heap.size, 7, none⟩ = some (.bool D.e.b)) ∧ w'.cell? ⟨w.heap.size, 8, none⟩ = some (.slice a D.ks.length c) ∧ w'.cell? ⟨w.heap.size, 9, none⟩ = some (.int .i64 D.r.lo) ∧ w'.cell? ⟨w.heap.size, 10, none⟩ = some (.int .i64 D.r.hi) ∧ w'.cell? ⟨w.heap.size, 11, none⟩ = some (.int .i64 D.r.st) ∧ w'.cell? ⟨w.heap.size, 12, none⟩ = some (.int .i64 D.r.mi) ∧ w'.cell? ⟨w.heap.size, 13, none⟩ = some (.int .i64 D.r.ma) :=
  fun w' hk => ⟨hk.cell (by simp), ⟨hk.cell (by simp), hk.cell (by simp), hk.cell (by simp), hk.cell (by simp), hk.cell (by simp), hk.cell (by simp), hk.cell (by simp)⟩, hk.cell (by simp), hk.cell (by simp), hk.cell (by simp), hk.cell (by simp), hk.cell (by simp), hk.cell (by simp)⟩
end Go.Proofs.YtkgpoghoilffhaaGreatDoor
