/- The program's TextEvent. -/
import Derived.Test.YtkgpoghoilffhaaGreatDoorSC10
namespace Go.Proofs.YtkgpoghoilffhaaGreatDoor
open Go.RowKit Go.Deep
set_option linter.unusedVariables false
set_option linter.unusedSimpArgs false
set_option maxRecDepth 10000
def evRowT (k y c t m f : Int) (b : Bool) (i : Nat) : Value := if i = 0 then .int .i64 k else if i = 1 then .int .i64 y else if i = 2 then .int .i64 c else if i = 3 then .int .i64 t else if i = 4 then .int .i64 m else if i = 5 then .int .i64 f else .bool b
theorem evT_row (k y c t m f : Int) (b : Bool) : ∀ i, i < (evCells k y c t m f b).size → (evCells k y c t m f b)[i]? = some (evRowT k y c t m f b i)
  | 0, _ => rfl
  | 1, _ => rfl
  | 2, _ => rfl
  | 3, _ => rfl
  | 4, _ => rfl
  | 5, _ => rfl
  | 6, _ => rfl
/-- What TextEvent answers: the right event of this text, or nothing. -/
def TePost (s : ByteArray) (x : Ending) : Prop :=
  (∃ k y c t m f b, evB k y c t m f b = true ∧ evT k y c t m f b = s.data.toList ∧ x = .returned (.tuple #[evV k y c t m f b, .bool true])) ∨
  ((∀ k y c t m f b, evB k y c t m f b = true → evT k y c t m f b ≠ s.data.toList) ∧ x = .returned (.tuple #[evV 0 0 0 0 0 0 false, .bool false]))
theorem piece_size (sep : ByteArray) : ∀ (k : Nat) (s : ByteArray), ∀ x ∈ Lib.splitB sep 0 k s, x.size ≤ s.size
  | 0, s => by simp [Lib.splitB]
  | k + 1, s => by
    intro x hx
    unfold Lib.splitB at hx
    split at hx
    · have : x = s := by simpa using hx
      rw [this]; exact Nat.le_refl _
    · rcases List.mem_cons.1 hx with rfl | hx
      · rw [ByteArray.size_extract]; omega
      · have h := piece_size sep k _ x hx
        rw [ByteArray.size_extract] at h
        omega
theorem split_ne (sep : ByteArray) (k : Nat) (s : ByteArray) : ∃ hd tl, Lib.splitB sep 0 k s = hd :: tl := by
  cases k with
  | zero => exact ⟨s, [], rfl⟩
  | succ k =>
    unfold Lib.splitB
    split
    · exact ⟨_, _, rfl⟩
    · exact ⟨_, _, rfl⟩
theorem join_len : ∀ W : List (List UInt8), W.length ≤ (join W).length + 1
  | [] => by simp
  | [w] => by simp
  | w :: v :: r => by
    have := join_len (v :: r)
    rw [join_cons]
    simp only [List.length_append, List.length_cons] at this ⊢
    omega
/-- The words of a text that is a right event's say that event. -/
theorem te_said {s : ByteArray} {k y c t m f : Int} {b : Bool} (h : evB k y c t m f b = true) (e : evT k y c t m f b = s.data.toList) : said ((Lib.splitB ⟨#[32]⟩ 0 (min 7 (s.size + 1) - 1) s).map (·.data.toList)) = ⟨k, y, c, t, m, f, b⟩ := by
  rw [Lib.splitB_data]
  obtain ⟨h1, h2⟩ := words_len k y c t m f b
  have h3 := join_len (evW k y c t m f b)
  have e1 : (join (evW k y c t m f b)).length = s.size := by
    have : join (evW k y c t m f b) = s.data.toList := e
    rw [this]; exact Array.length_toList
  have e2 := split_join (evW k y c t m f b) (min 7 (s.size + 1) - 1) h2 (words_blank k y c t m f b) (by omega)
  have e3 : Lib.splitK (⟨#[32]⟩ : ByteArray).data.toList 0 (min 7 (s.size + 1) - 1) s.data.toList = evW k y c t m f b := by
    rw [← e]; exact e2
  rw [e3]
  exact said_again h
theorem te_no {s : ByteArray} {E : Ev} (hE : said ((Lib.splitB ⟨#[32]⟩ 0 (min 7 (s.size + 1) - 1) s).map (·.data.toList)) = E) (h : evB E.k E.y E.c E.t E.m E.f E.b = true → evT E.k E.y E.c E.t E.m E.f E.b ≠ s.data.toList) :
    ∀ k y c t m f b, evB k y c t m f b = true → evT k y c t m f b ≠ s.data.toList := by
  intro k y c t m f b h1 h2
  have h3 := te_said h1 h2
  rw [hE] at h3
  subst h3
  exact h h1 h2
theorem said_cases (ws : List (List UInt8)) (E : Ev) (h : said ws = E) : (∃ m, E = ⟨1, 0, 0, 0, m, 0, false⟩) ∨ (∃ c m f, E = ⟨2, 0, c, 0, m, f, false⟩) ∨ (∃ c f, E = ⟨3, 0, c, 0, 0, f, false⟩) ∨ (∃ c m f, E = ⟨4, 0, c, 0, m, f, false⟩) ∨ (∃ y c t m b, E = ⟨5, y, c, t, m, 0, b⟩) ∨ (∃ y, E = ⟨6, y, 0, 0, 0, 0, false⟩) ∨ (∃ y, E = ⟨7, y, 0, 0, 0, 0, false⟩) ∨ (E = ⟨8, 0, 0, 0, 0, 0, false⟩) ∨ (∃ y c t m f, E = ⟨9, y, c, t, m, f, false⟩) ∨ (∃ y, E = ⟨10, y, 0, 0, 0, 0, false⟩) ∨ (∃ y, E = ⟨11, y, 0, 0, 0, 0, false⟩) ∨ E = ⟨0, 0, 0, 0, 0, 0, false⟩ := by
  unfold said at h
  by_cases h1 : ws.headD [] = [100, 101, 112, 111, 115, 105, 116]
  · rw [if_pos h1] at h; subst h; exact .inl ⟨_, rfl⟩
  rw [if_neg h1] at h
  by_cases h2 : ws.headD [] = [111, 112, 101, 110]
  · rw [if_pos h2] at h; subst h; exact .inr (.inl ⟨_, _, _, rfl⟩)
  rw [if_neg h2] at h
  by_cases h3 : ws.headD [] = [99, 108, 111, 115, 101]
  · rw [if_pos h3] at h; subst h; exact .inr (.inr (.inl ⟨_, _, rfl⟩))
  rw [if_neg h3] at h
  by_cases h4 : ws.headD [] = [112, 114, 105, 99, 101]
  · rw [if_pos h4] at h; subst h; exact .inr (.inr (.inr (.inl ⟨_, _, _, rfl⟩)))
  rw [if_neg h4] at h
  by_cases h5 : ws.headD [] = [97, 100, 109, 105, 116]
  · rw [if_pos h5] at h; subst h; exact .inr (.inr (.inr (.inr (.inl ⟨_, _, _, _, _, rfl⟩))))
  rw [if_neg h5] at h
  by_cases h6 : ws.headD [] = [102, 117, 108, 102, 105, 108, 108]
  · rw [if_pos h6] at h; subst h; exact .inr (.inr (.inr (.inr (.inr (.inl ⟨_, rfl⟩)))))
  rw [if_neg h6] at h
  by_cases h7 : ws.headD [] = [102, 97, 105, 108]
  · rw [if_pos h7] at h; subst h; exact .inr (.inr (.inr (.inr (.inr (.inr (.inl ⟨_, rfl⟩))))))
  rw [if_neg h7] at h
  by_cases h8 : ws.headD [] = [116, 105, 99, 107]
  · rw [if_pos h8] at h; subst h; exact .inr (.inr (.inr (.inr (.inr (.inr (.inr (.inl rfl)))))))
  rw [if_neg h8] at h
  by_cases h9 : ws.headD [] = [108, 97, 117, 110, 99, 104]
  · rw [if_pos h9] at h; subst h; exact .inr (.inr (.inr (.inr (.inr (.inr (.inr (.inr (.inl ⟨_, _, _, _, _, rfl⟩))))))))
  rw [if_neg h9] at h
  by_cases h10 : ws.headD [] = [97, 114, 114, 105, 118, 101]
  · rw [if_pos h10] at h; subst h; exact .inr (.inr (.inr (.inr (.inr (.inr (.inr (.inr (.inr (.inl ⟨_, rfl⟩)))))))))
  rw [if_neg h10] at h
  by_cases h11 : ws.headD [] = [108, 111, 115, 116]
  · rw [if_pos h11] at h; subst h; exact .inr (.inr (.inr (.inr (.inr (.inr (.inr (.inr (.inr (.inr (.inl ⟨_, rfl⟩))))))))))
  rw [if_neg h11] at h
  subst h
  exact .inr (.inr (.inr (.inr (.inr (.inr (.inr (.inr (.inr (.inr (.inr (rfl)))))))))))
theorem split_rows {w : World} {ws : List ByteArray} {N : Nat} (h : ws.length ≤ N) : Wds (w.alloc (.cells (Lib.cellsOf ws N) 9)) w.heap.size 0 ws := by
  intro i hi
  rw [World.cell?_alloc_mark w (Lib.cellsOf ws N) 9 (0, 0) (0 + i)]
  simp only [Lib.cellsOf, Nat.zero_add, List.getElem?_toArray]
  rw [List.getElem?_append_left (by simpa using hi), List.getElem?_map, List.getElem?_eq_getElem hi]
  rfl
set_option maxHeartbeats 4000000 in
/-- The kind that the words of a text say. -/
theorem said_k (s : ByteArray) (w : World) (hs : s.size ≤ 1048576) (he : Env w) (b : Nat) (hw : Wds w b 0 (Lib.splitB ⟨#[32]⟩ 0 (min 7 (s.size + 1) - 1) s)) :
    Calls Tryz.prog 73 #[.slice (some ⟨b, 0, none⟩) (Lib.splitB ⟨#[32]⟩ 0 (min 7 (s.size + 1) - 1) s).length (min 7 (s.size + 1))] w fun e w' => e = .returned (kV (said ((Lib.splitB ⟨#[32]⟩ 0 (min 7 (s.size + 1) - 1) s).map (·.data.toList)))) ∧ Keeps w w' := by
  have h1 := Lib.splitB_length_le ⟨#[32]⟩ 0 (min 7 (s.size + 1) - 1) s
  have h2 := piece_size ⟨#[32]⟩ (min 7 (s.size + 1) - 1) s
  obtain ⟨hd, tl, e⟩ := split_ne ⟨#[32]⟩ (min 7 (s.size + 1) - 1) s
  rw [e] at hw h1 h2 ⊢
  simp only [List.length_cons] at h1 ⊢
  by_cases h0 : s.size = 0
  · have hm : min 7 (s.size + 1) = 1 := by omega
    rw [hm] at h1 ⊢
    obtain rfl : tl = [] := List.length_eq_zero_iff.1 (by omega)
    exact kind_b b hd w hw (fun x hx => absurd hx (by simp)) he
  · exact kind_a b (min 7 (s.size + 1)) hd tl w (by omega) (by omega) (by omega) hw (fun x hx => Nat.le_trans (h2 x (List.mem_cons_of_mem _ hx)) hs) he
theorem ev7 {f g : Nat → Value} (h0 : f 0 = g 0) (h1 : f 1 = g 1) (h2 : f 2 = g 2) (h3 : f 3 = g 3) (h4 : f 4 = g 4) (h5 : f 5 = g 5) (h6 : f 6 = g 6) : ∀ i, i < 7 → f i = g i
  | 0, _ => h0
  | 1, _ => h1
  | 2, _ => h2
  | 3, _ => h3
  | 4, _ => h4
  | 5, _ => h5
  | 6, _ => h6
theorem str_ne {s : ByteArray} {l : List UInt8} (h : ¬ l = s.data.toList) : (l == s.toList) = false := by
  rw [toList_data]
  exact beq_eq_false_iff_ne.2 h
theorem res_fin {w W : World} (k y c t m f : Int) (b : Bool) {g : Nat → Value} (hR : W.rowIs w.heap.size 28 7 g) (hK : Keeps w W) {V : World} (hV : V = (((((((W.setCell ⟨w.heap.size, 0, none⟩ (.int .i64 k)).setCell ⟨w.heap.size, 1, none⟩ (.int .i64 y)).setCell ⟨w.heap.size, 2, none⟩ (.int .i64 c)).setCell ⟨w.heap.size, 3, none⟩ (.int .i64 t)).setCell ⟨w.heap.size, 4, none⟩ (.int .i64 m)).setCell ⟨w.heap.size, 5, none⟩ (.int .i64 f)).setCell ⟨w.heap.size, 6, none⟩ (.bool b))) : (V.cell? ⟨w.heap.size, 0, none⟩ = some (.int .i64 k) ∧ V.cell? ⟨w.heap.size, 1, none⟩ = some (.int .i64 y) ∧ V.cell? ⟨w.heap.size, 2, none⟩ = some (.int .i64 c) ∧ V.cell? ⟨w.heap.size, 3, none⟩ = some (.int .i64 t) ∧ V.cell? ⟨w.heap.size, 4, none⟩ = some (.int .i64 m) ∧ V.cell? ⟨w.heap.size, 5, none⟩ = some (.int .i64 f) ∧ V.cell? ⟨w.heap.size, 6, none⟩ = some (.bool b)) ∧ Keeps w V := by
  have r := (((((((hR.set 0 (.int .i64 k)).set 1 (.int .i64 y)).set 2 (.int .i64 c)).set 3 (.int .i64 t)).set 4 (.int .i64 m)).set 5 (.int .i64 f)).set 6 (.bool b)).congr (g := evRowT k y c t m f b) (ev7 rfl rfl rfl rfl rfl rfl rfl)
  have hk : Keeps w (((((((W.setCell ⟨w.heap.size, 0, none⟩ (.int .i64 k)).setCell ⟨w.heap.size, 1, none⟩ (.int .i64 y)).setCell ⟨w.heap.size, 2, none⟩ (.int .i64 c)).setCell ⟨w.heap.size, 3, none⟩ (.int .i64 t)).setCell ⟨w.heap.size, 4, none⟩ (.int .i64 m)).setCell ⟨w.heap.size, 5, none⟩ (.int .i64 f)).setCell ⟨w.heap.size, 6, none⟩ (.bool b)) := (Keeps.setCell (Keeps.setCell (Keeps.setCell (Keeps.setCell (Keeps.setCell (Keeps.setCell (Keeps.setCell hK (p := ⟨w.heap.size, 0, none⟩) (Nat.le_refl _) _) (p := ⟨w.heap.size, 1, none⟩) (Nat.le_refl _) _) (p := ⟨w.heap.size, 2, none⟩) (Nat.le_refl _) _) (p := ⟨w.heap.size, 3, none⟩) (Nat.le_refl _) _) (p := ⟨w.heap.size, 4, none⟩) (Nat.le_refl _) _) (p := ⟨w.heap.size, 5, none⟩) (Nat.le_refl _) _) (p := ⟨w.heap.size, 6, none⟩) (Nat.le_refl _) _)
  rw [← hV] at r hk
  exact ⟨⟨r.cell (i := 0) (by decide), r.cell (i := 1) (by decide), r.cell (i := 2) (by decide), r.cell (i := 3) (by decide), r.cell (i := 4) (by decide), r.cell (i := 5) (by decide), r.cell (i := 6) (by decide)⟩, hk⟩
theorem res_zero {w W : World} (h : W.rowIs w.heap.size 28 7 (evRowT 0 0 0 0 0 0 false)) : W.cell? ⟨w.heap.size, 0, none⟩ = some (.int .i64 0) ∧ W.cell? ⟨w.heap.size, 1, none⟩ = some (.int .i64 0) ∧ W.cell? ⟨w.heap.size, 2, none⟩ = some (.int .i64 0) ∧ W.cell? ⟨w.heap.size, 3, none⟩ = some (.int .i64 0) ∧ W.cell? ⟨w.heap.size, 4, none⟩ = some (.int .i64 0) ∧ W.cell? ⟨w.heap.size, 5, none⟩ = some (.int .i64 0) ∧ W.cell? ⟨w.heap.size, 6, none⟩ = some (.bool false) := ⟨h.cell (i := 0) (by decide), h.cell (i := 1) (by decide), h.cell (i := 2) (by decide), h.cell (i := 3) (by decide), h.cell (i := 4) (by decide), h.cell (i := 5) (by decide), h.cell (i := 6) (by decide)⟩
theorem ev_str {s : ByteArray} {l : List UInt8} (h : l = s.data.toList) : (⟨l.toArray⟩ : ByteArray) = s := by
  rw [h]
theorem evB_1 (m : Int) : evB 1 0 0 0 m 0 false = (fieldB true m 1 1125899906842624) := by simp [evB, fieldB, chansB, Bool.and_assoc]
theorem evB_2 (c m f : Int) : evB 2 0 c 0 m f false = (fieldB true c 1 99 && fieldB true m 1 1125899906842624 && fieldB true f 0 1125899906842624) := by simp [evB, fieldB, chansB, Bool.and_assoc]
theorem evB_3 (c f : Int) : evB 3 0 c 0 0 f false = (fieldB true c 1 99 && fieldB true f 0 1125899906842624) := by simp [evB, fieldB, chansB, Bool.and_assoc]
theorem evB_4 (c m f : Int) : evB 4 0 c 0 m f false = (fieldB true c 1 99 && fieldB true m 0 1125899906842624 && fieldB true f 0 1000000) := by simp [evB, fieldB, chansB, Bool.and_assoc]
theorem evB_5 (y c t m : Int) (b : Bool) : evB 5 y c t m 0 b = (fieldB true y 1 1000000 && chansB c t && fieldB true m 1 1125899906842624) := by simp [evB, fieldB, chansB, Bool.and_assoc]
theorem evB_6 (y : Int) : evB 6 y 0 0 0 0 false = (fieldB true y 1 1000000) := by simp [evB, fieldB, chansB, Bool.and_assoc]
theorem evB_7 (y : Int) : evB 7 y 0 0 0 0 false = (fieldB true y 1 1000000) := by simp [evB, fieldB, chansB, Bool.and_assoc]
theorem evB_8 : evB 8 0 0 0 0 0 false = (true) := by simp [evB, fieldB, chansB, Bool.and_assoc]
theorem evB_9 (y c t m f : Int) : evB 9 y c t m f false = (fieldB true y 1 1000000 && chansB c t && fieldB true m 1 1125899906842624 && fieldB true f 0 1125899906842624) := by simp [evB, fieldB, chansB, Bool.and_assoc]
theorem evB_10 (y : Int) : evB 10 y 0 0 0 0 false = (fieldB true y 1 1000000) := by simp [evB, fieldB, chansB, Bool.and_assoc]
theorem evB_11 (y : Int) : evB 11 y 0 0 0 0 false = (fieldB true y 1 1000000) := by simp [evB, fieldB, chansB, Bool.and_assoc]
set_option maxHeartbeats 8000000 in
theorem te_impl (s : ByteArray) (w : World) (hs : s.size ≤ 1048576) (he : Env w) (mx : Int) (hm : w.cell? ⟨1, 0, none⟩ = some (.int .i64 mx)) :
    Calls Tryz.prog 44 #[.string s] w fun e w' => TePost s e ∧ Keeps w w' := by
  have hkA := Keeps.alloc (Keeps.refl w) (.cells (evCells 0 0 0 0 0 0 false) 28)
  have HR := hide (World.rowIs_alloc w (evCells 0 0 0 0 0 0 false) 28 (evRowT 0 0 0 0 0 0 false) (evT_row 0 0 0 0 0 0 false))
  have HSp := hide (Tryz.strings_SplitN s ⟨#[32]⟩ 7 mx (w.alloc (.cells (evCells 0 0 0 0 0 0 false) 28)) (by omega) (hkA.cell hm) (by decide) (by decide) (by decide))
  have HK := hide hkA
  have HE := hide he
  clear hm he hkA
  go_enter Tryz.func44, Tryz.ntmps44
  go_wp2_with fail
  refine HSp.out.mono ?_
  rintro x w1 ⟨rfl, hw1⟩
  rw [size_allocW]
  have hk1 : Keeps (w.alloc (.cells (evCells 0 0 0 0 0 0 false) 28)) w1 := by rw [hw1]; exact Keeps.alloc (Keeps.refl _) _
  have hws : Wds w1 (w.heap.size + 1) 0 (Lib.splitB ⟨#[32]⟩ 0 (min 7 (s.size + 1) - 1) s) := by
    rw [hw1, ← size_allocW w (.cells (evCells 0 0 0 0 0 0 false) 28)]
    have h1 := Lib.splitB_length_le ⟨#[32]⟩ 0 (min 7 (s.size + 1) - 1) s
    exact split_rows (by omega)
  replace HK := hide (HK.out.trans hk1)
  replace HR := hide (HR.out.of_block (Below.block hk1 _ HR.out.lt))
  have HKS := hide (said_k s w1 hs (HE.out.kept HK.out) (w.heap.size + 1) hws)
  obtain ⟨E, hE⟩ : ∃ E, said ((Lib.splitB ⟨#[32]⟩ 0 (min 7 (s.size + 1) - 1) s).map (·.data.toList)) = E := ⟨_, rfl⟩
  rw [hE] at HKS
  have HNo := hide (te_no hE)
  have hcs := said_cases _ E hE
  clear hw1 hk1 hws HSp hE
  go_wp2_with fail
  refine HKS.out.mono ?_
  rintro x w2 ⟨rfl, hk2⟩
  replace HK := hide (HK.out.trans hk2)
  replace HR := hide (HR.out.of_block (Below.block hk2 _ HR.out.lt))
  clear hk2 HKS
  generalize Lib.splitB ⟨#[32]⟩ 0 (min 7 (s.size + 1) - 1) s = ws at *
  rcases hcs with ⟨m, rfl⟩ | hcs
  · simp only [kV, Int.reduceEq, if_false, if_true]
    have hm1 : ∀ w : World, (method 299 110 (.agg #[.int .i64 m]) "loop.example/g00400/impl.right").run Tryz.prog w = .ok (145, .agg #[.int .i64 m]) w := fun _ => by kernel_rfl
    have hm2 : ∀ w : World, (method 299 110 (.agg #[.int .i64 m]) "loop.example/g00400/impl.text").run Tryz.prog w = .ok (146, .agg #[.int .i64 m]) w := fun _ => by kernel_rfl
    go_wp2_with fail
    refine (right_deposit m w2).mono ?_
    rintro x w3 ⟨rfl, hk3⟩
    have HK3 := hide (HK.out.trans hk3)
    have HR3 := hide (HR.out.of_block (Below.block hk3 _ HR.out.lt))
    clear hk3 HK HR
    cases hR : (fieldB true m 1 1125899906842624)
    · have HB : Hid (¬ evB 1 0 0 0 m 0 false = true) := by show ¬ _; rw [evB_1, hR]; simp
      obtain ⟨r0, r1, r2, r3, r4, r5, r6⟩ := res_zero HR3.out
      have rf0 := HR3.out.frozen 0
      have rf1 := HR3.out.frozen 1
      have rf2 := HR3.out.frozen 2
      have rf3 := HR3.out.frozen 3
      have rf4 := HR3.out.frozen 4
      have rf5 := HR3.out.frozen 5
      have rf6 := HR3.out.frozen 6
      have rl := HR3.out.lt
      go_wp2_with fail
      obtain ⟨⟨o0, o1, o2, o3, o4, o5, o6⟩, hkF⟩ := res_fin 0 0 0 0 0 0 false HR3.out HK3.out rfl
      refine bodyPost_ret (v := .tuple #[evV 0 0 0 0 0 0 false, .bool false]) ?_ rfl ⟨.inr ⟨HNo.out (fun h => absurd h HB.out), rfl⟩, hkF⟩
      clear hkF r0 rf0 r1 rf1 r2 rf2 r3 rf3 r4 rf4 r5 rf5 r6 rf6
      revert o0 o1 o2 o3 o4 o5 o6
      generalize World.setCell (World.setCell _ _ _) _ _ = WW
      intro o0 o1 o2 o3 o4 o5 o6
      simp [results, Tryz.results44, go_sem, o0, o1, o2, o3, o4, o5, o6]
    · have HB : Hid (evB 1 0 0 0 m 0 false = true) := by show _ = _; rw [evB_1, hR]
      go_wp2_with fail
      refine (text_deposit m w3 (HE.out.tab.kept HK3.out)).mono ?_
      rintro x w4 ⟨rfl, hk4⟩
      have HK4 := hide (HK3.out.trans hk4)
      have HR4 := hide (HR3.out.of_block (Below.block hk4 _ HR3.out.lt))
      clear hk4 HK3 HR3
      rw [← evT_1 0 0 0 m 0 false]
      obtain ⟨TX, hTX⟩ : ∃ TX, evT 1 0 0 0 m 0 false = TX := ⟨_, rfl⟩
      rw [hTX]
      have HTX := hide hTX
      clear hTX
      by_cases ht : TX = s.data.toList
      · rw [ev_str ht]
        go_wp2_with fail
        refine (eventOf_deposit m w4).mono ?_
        rintro x w5 ⟨rfl, hk5⟩
        have HK5 := hide (HK4.out.trans hk5)
        have HR5 := hide (HR4.out.of_block (Below.block hk5 _ HR4.out.lt))
        clear hk5 HK4 HR4
        obtain ⟨r0, r1, r2, r3, r4, r5, r6⟩ := res_zero HR5.out
        have rf0 := HR5.out.frozen 0
        have rf1 := HR5.out.frozen 1
        have rf2 := HR5.out.frozen 2
        have rf3 := HR5.out.frozen 3
        have rf4 := HR5.out.frozen 4
        have rf5 := HR5.out.frozen 5
        have rf6 := HR5.out.frozen 6
        have rl := HR5.out.lt
        go_wp2_with fail
        obtain ⟨⟨o0, o1, o2, o3, o4, o5, o6⟩, hkF⟩ := res_fin 1 0 0 0 m 0 false HR5.out HK5.out rfl
        refine bodyPost_ret (v := .tuple #[evV 1 0 0 0 m 0 false, .bool true]) ?_ rfl ⟨.inl ⟨1, 0, 0, 0, m, 0, false, HB.out, HTX.out.trans ht, rfl⟩, hkF⟩
        clear hkF r0 rf0 r1 rf1 r2 rf2 r3 rf3 r4 rf4 r5 rf5 r6 rf6
        revert o0 o1 o2 o3 o4 o5 o6
        generalize World.setCell (World.setCell _ _ _) _ _ = WW
        intro o0 o1 o2 o3 o4 o5 o6
        simp [results, Tryz.results44, go_sem, o0, o1, o2, o3, o4, o5, o6]
      · have hne := str_ne ht
        obtain ⟨r0, r1, r2, r3, r4, r5, r6⟩ := res_zero HR4.out
        have rf0 := HR4.out.frozen 0
        have rf1 := HR4.out.frozen 1
        have rf2 := HR4.out.frozen 2
        have rf3 := HR4.out.frozen 3
        have rf4 := HR4.out.frozen 4
        have rf5 := HR4.out.frozen 5
        have rf6 := HR4.out.frozen 6
        have rl := HR4.out.lt
        go_wp2_with fail
        obtain ⟨⟨o0, o1, o2, o3, o4, o5, o6⟩, hkF⟩ := res_fin 0 0 0 0 0 0 false HR4.out HK4.out rfl
        refine bodyPost_ret (v := .tuple #[evV 0 0 0 0 0 0 false, .bool false]) ?_ rfl ⟨.inr ⟨HNo.out (fun _ h => ht (HTX.out.symm.trans h)), rfl⟩, hkF⟩
        clear hkF r0 rf0 r1 rf1 r2 rf2 r3 rf3 r4 rf4 r5 rf5 r6 rf6
        revert o0 o1 o2 o3 o4 o5 o6
        generalize World.setCell (World.setCell _ _ _) _ _ = WW
        intro o0 o1 o2 o3 o4 o5 o6
        simp [results, Tryz.results44, go_sem, o0, o1, o2, o3, o4, o5, o6]
  rcases hcs with ⟨c, m, f, rfl⟩ | hcs
  · simp only [kV, Int.reduceEq, if_false, if_true]
    have hm1 : ∀ w : World, (method 299 112 (.agg #[.int .i64 c, .int .i64 m, .int .i64 f]) "loop.example/g00400/impl.right").run Tryz.prog w = .ok (148, .agg #[.int .i64 c, .int .i64 m, .int .i64 f]) w := fun _ => by kernel_rfl
    have hm2 : ∀ w : World, (method 299 112 (.agg #[.int .i64 c, .int .i64 m, .int .i64 f]) "loop.example/g00400/impl.text").run Tryz.prog w = .ok (149, .agg #[.int .i64 c, .int .i64 m, .int .i64 f]) w := fun _ => by kernel_rfl
    go_wp2_with fail
    refine (right_open c m f w2).mono ?_
    rintro x w3 ⟨rfl, hk3⟩
    have HK3 := hide (HK.out.trans hk3)
    have HR3 := hide (HR.out.of_block (Below.block hk3 _ HR.out.lt))
    clear hk3 HK HR
    cases hR : (fieldB true c 1 99 && fieldB true m 1 1125899906842624 && fieldB true f 0 1125899906842624)
    · have HB : Hid (¬ evB 2 0 c 0 m f false = true) := by show ¬ _; rw [evB_2, hR]; simp
      obtain ⟨r0, r1, r2, r3, r4, r5, r6⟩ := res_zero HR3.out
      have rf0 := HR3.out.frozen 0
      have rf1 := HR3.out.frozen 1
      have rf2 := HR3.out.frozen 2
      have rf3 := HR3.out.frozen 3
      have rf4 := HR3.out.frozen 4
      have rf5 := HR3.out.frozen 5
      have rf6 := HR3.out.frozen 6
      have rl := HR3.out.lt
      go_wp2_with fail
      obtain ⟨⟨o0, o1, o2, o3, o4, o5, o6⟩, hkF⟩ := res_fin 0 0 0 0 0 0 false HR3.out HK3.out rfl
      refine bodyPost_ret (v := .tuple #[evV 0 0 0 0 0 0 false, .bool false]) ?_ rfl ⟨.inr ⟨HNo.out (fun h => absurd h HB.out), rfl⟩, hkF⟩
      clear hkF r0 rf0 r1 rf1 r2 rf2 r3 rf3 r4 rf4 r5 rf5 r6 rf6
      revert o0 o1 o2 o3 o4 o5 o6
      generalize World.setCell (World.setCell _ _ _) _ _ = WW
      intro o0 o1 o2 o3 o4 o5 o6
      simp [results, Tryz.results44, go_sem, o0, o1, o2, o3, o4, o5, o6]
    · have HB : Hid (evB 2 0 c 0 m f false = true) := by show _ = _; rw [evB_2, hR]
      go_wp2_with fail
      refine (text_open c m f w3 (HE.out.tab.kept HK3.out)).mono ?_
      rintro x w4 ⟨rfl, hk4⟩
      have HK4 := hide (HK3.out.trans hk4)
      have HR4 := hide (HR3.out.of_block (Below.block hk4 _ HR3.out.lt))
      clear hk4 HK3 HR3
      rw [← evT_2 0 c 0 m f false]
      obtain ⟨TX, hTX⟩ : ∃ TX, evT 2 0 c 0 m f false = TX := ⟨_, rfl⟩
      rw [hTX]
      have HTX := hide hTX
      clear hTX
      by_cases ht : TX = s.data.toList
      · rw [ev_str ht]
        go_wp2_with fail
        refine (eventOf_open c m f w4).mono ?_
        rintro x w5 ⟨rfl, hk5⟩
        have HK5 := hide (HK4.out.trans hk5)
        have HR5 := hide (HR4.out.of_block (Below.block hk5 _ HR4.out.lt))
        clear hk5 HK4 HR4
        obtain ⟨r0, r1, r2, r3, r4, r5, r6⟩ := res_zero HR5.out
        have rf0 := HR5.out.frozen 0
        have rf1 := HR5.out.frozen 1
        have rf2 := HR5.out.frozen 2
        have rf3 := HR5.out.frozen 3
        have rf4 := HR5.out.frozen 4
        have rf5 := HR5.out.frozen 5
        have rf6 := HR5.out.frozen 6
        have rl := HR5.out.lt
        go_wp2_with fail
        obtain ⟨⟨o0, o1, o2, o3, o4, o5, o6⟩, hkF⟩ := res_fin 2 0 c 0 m f false HR5.out HK5.out rfl
        refine bodyPost_ret (v := .tuple #[evV 2 0 c 0 m f false, .bool true]) ?_ rfl ⟨.inl ⟨2, 0, c, 0, m, f, false, HB.out, HTX.out.trans ht, rfl⟩, hkF⟩
        clear hkF r0 rf0 r1 rf1 r2 rf2 r3 rf3 r4 rf4 r5 rf5 r6 rf6
        revert o0 o1 o2 o3 o4 o5 o6
        generalize World.setCell (World.setCell _ _ _) _ _ = WW
        intro o0 o1 o2 o3 o4 o5 o6
        simp [results, Tryz.results44, go_sem, o0, o1, o2, o3, o4, o5, o6]
      · have hne := str_ne ht
        obtain ⟨r0, r1, r2, r3, r4, r5, r6⟩ := res_zero HR4.out
        have rf0 := HR4.out.frozen 0
        have rf1 := HR4.out.frozen 1
        have rf2 := HR4.out.frozen 2
        have rf3 := HR4.out.frozen 3
        have rf4 := HR4.out.frozen 4
        have rf5 := HR4.out.frozen 5
        have rf6 := HR4.out.frozen 6
        have rl := HR4.out.lt
        go_wp2_with fail
        obtain ⟨⟨o0, o1, o2, o3, o4, o5, o6⟩, hkF⟩ := res_fin 0 0 0 0 0 0 false HR4.out HK4.out rfl
        refine bodyPost_ret (v := .tuple #[evV 0 0 0 0 0 0 false, .bool false]) ?_ rfl ⟨.inr ⟨HNo.out (fun _ h => ht (HTX.out.symm.trans h)), rfl⟩, hkF⟩
        clear hkF r0 rf0 r1 rf1 r2 rf2 r3 rf3 r4 rf4 r5 rf5 r6 rf6
        revert o0 o1 o2 o3 o4 o5 o6
        generalize World.setCell (World.setCell _ _ _) _ _ = WW
        intro o0 o1 o2 o3 o4 o5 o6
        simp [results, Tryz.results44, go_sem, o0, o1, o2, o3, o4, o5, o6]
  rcases hcs with ⟨c, f, rfl⟩ | hcs
  · simp only [kV, Int.reduceEq, if_false, if_true]
    have hm1 : ∀ w : World, (method 299 114 (.agg #[.int .i64 c, .int .i64 f]) "loop.example/g00400/impl.right").run Tryz.prog w = .ok (151, .agg #[.int .i64 c, .int .i64 f]) w := fun _ => by kernel_rfl
    have hm2 : ∀ w : World, (method 299 114 (.agg #[.int .i64 c, .int .i64 f]) "loop.example/g00400/impl.text").run Tryz.prog w = .ok (152, .agg #[.int .i64 c, .int .i64 f]) w := fun _ => by kernel_rfl
    go_wp2_with fail
    refine (right_close c f w2).mono ?_
    rintro x w3 ⟨rfl, hk3⟩
    have HK3 := hide (HK.out.trans hk3)
    have HR3 := hide (HR.out.of_block (Below.block hk3 _ HR.out.lt))
    clear hk3 HK HR
    cases hR : (fieldB true c 1 99 && fieldB true f 0 1125899906842624)
    · have HB : Hid (¬ evB 3 0 c 0 0 f false = true) := by show ¬ _; rw [evB_3, hR]; simp
      obtain ⟨r0, r1, r2, r3, r4, r5, r6⟩ := res_zero HR3.out
      have rf0 := HR3.out.frozen 0
      have rf1 := HR3.out.frozen 1
      have rf2 := HR3.out.frozen 2
      have rf3 := HR3.out.frozen 3
      have rf4 := HR3.out.frozen 4
      have rf5 := HR3.out.frozen 5
      have rf6 := HR3.out.frozen 6
      have rl := HR3.out.lt
      go_wp2_with fail
      obtain ⟨⟨o0, o1, o2, o3, o4, o5, o6⟩, hkF⟩ := res_fin 0 0 0 0 0 0 false HR3.out HK3.out rfl
      refine bodyPost_ret (v := .tuple #[evV 0 0 0 0 0 0 false, .bool false]) ?_ rfl ⟨.inr ⟨HNo.out (fun h => absurd h HB.out), rfl⟩, hkF⟩
      clear hkF r0 rf0 r1 rf1 r2 rf2 r3 rf3 r4 rf4 r5 rf5 r6 rf6
      revert o0 o1 o2 o3 o4 o5 o6
      generalize World.setCell (World.setCell _ _ _) _ _ = WW
      intro o0 o1 o2 o3 o4 o5 o6
      simp [results, Tryz.results44, go_sem, o0, o1, o2, o3, o4, o5, o6]
    · have HB : Hid (evB 3 0 c 0 0 f false = true) := by show _ = _; rw [evB_3, hR]
      go_wp2_with fail
      refine (text_close c f w3 (HE.out.tab.kept HK3.out)).mono ?_
      rintro x w4 ⟨rfl, hk4⟩
      have HK4 := hide (HK3.out.trans hk4)
      have HR4 := hide (HR3.out.of_block (Below.block hk4 _ HR3.out.lt))
      clear hk4 HK3 HR3
      rw [← evT_3 0 c 0 0 f false]
      obtain ⟨TX, hTX⟩ : ∃ TX, evT 3 0 c 0 0 f false = TX := ⟨_, rfl⟩
      rw [hTX]
      have HTX := hide hTX
      clear hTX
      by_cases ht : TX = s.data.toList
      · rw [ev_str ht]
        go_wp2_with fail
        refine (eventOf_close c f w4).mono ?_
        rintro x w5 ⟨rfl, hk5⟩
        have HK5 := hide (HK4.out.trans hk5)
        have HR5 := hide (HR4.out.of_block (Below.block hk5 _ HR4.out.lt))
        clear hk5 HK4 HR4
        obtain ⟨r0, r1, r2, r3, r4, r5, r6⟩ := res_zero HR5.out
        have rf0 := HR5.out.frozen 0
        have rf1 := HR5.out.frozen 1
        have rf2 := HR5.out.frozen 2
        have rf3 := HR5.out.frozen 3
        have rf4 := HR5.out.frozen 4
        have rf5 := HR5.out.frozen 5
        have rf6 := HR5.out.frozen 6
        have rl := HR5.out.lt
        go_wp2_with fail
        obtain ⟨⟨o0, o1, o2, o3, o4, o5, o6⟩, hkF⟩ := res_fin 3 0 c 0 0 f false HR5.out HK5.out rfl
        refine bodyPost_ret (v := .tuple #[evV 3 0 c 0 0 f false, .bool true]) ?_ rfl ⟨.inl ⟨3, 0, c, 0, 0, f, false, HB.out, HTX.out.trans ht, rfl⟩, hkF⟩
        clear hkF r0 rf0 r1 rf1 r2 rf2 r3 rf3 r4 rf4 r5 rf5 r6 rf6
        revert o0 o1 o2 o3 o4 o5 o6
        generalize World.setCell (World.setCell _ _ _) _ _ = WW
        intro o0 o1 o2 o3 o4 o5 o6
        simp [results, Tryz.results44, go_sem, o0, o1, o2, o3, o4, o5, o6]
      · have hne := str_ne ht
        obtain ⟨r0, r1, r2, r3, r4, r5, r6⟩ := res_zero HR4.out
        have rf0 := HR4.out.frozen 0
        have rf1 := HR4.out.frozen 1
        have rf2 := HR4.out.frozen 2
        have rf3 := HR4.out.frozen 3
        have rf4 := HR4.out.frozen 4
        have rf5 := HR4.out.frozen 5
        have rf6 := HR4.out.frozen 6
        have rl := HR4.out.lt
        go_wp2_with fail
        obtain ⟨⟨o0, o1, o2, o3, o4, o5, o6⟩, hkF⟩ := res_fin 0 0 0 0 0 0 false HR4.out HK4.out rfl
        refine bodyPost_ret (v := .tuple #[evV 0 0 0 0 0 0 false, .bool false]) ?_ rfl ⟨.inr ⟨HNo.out (fun _ h => ht (HTX.out.symm.trans h)), rfl⟩, hkF⟩
        clear hkF r0 rf0 r1 rf1 r2 rf2 r3 rf3 r4 rf4 r5 rf5 r6 rf6
        revert o0 o1 o2 o3 o4 o5 o6
        generalize World.setCell (World.setCell _ _ _) _ _ = WW
        intro o0 o1 o2 o3 o4 o5 o6
        simp [results, Tryz.results44, go_sem, o0, o1, o2, o3, o4, o5, o6]
  rcases hcs with ⟨c, m, f, rfl⟩ | hcs
  · simp only [kV, Int.reduceEq, if_false, if_true]
    have hm1 : ∀ w : World, (method 299 116 (.agg #[.int .i64 c, .int .i64 m, .int .i64 f]) "loop.example/g00400/impl.right").run Tryz.prog w = .ok (153, .agg #[.int .i64 c, .int .i64 m, .int .i64 f]) w := fun _ => by kernel_rfl
    have hm2 : ∀ w : World, (method 299 116 (.agg #[.int .i64 c, .int .i64 m, .int .i64 f]) "loop.example/g00400/impl.text").run Tryz.prog w = .ok (154, .agg #[.int .i64 c, .int .i64 m, .int .i64 f]) w := fun _ => by kernel_rfl
    go_wp2_with fail
    refine (right_price c m f w2).mono ?_
    rintro x w3 ⟨rfl, hk3⟩
    have HK3 := hide (HK.out.trans hk3)
    have HR3 := hide (HR.out.of_block (Below.block hk3 _ HR.out.lt))
    clear hk3 HK HR
    cases hR : (fieldB true c 1 99 && fieldB true m 0 1125899906842624 && fieldB true f 0 1000000)
    · have HB : Hid (¬ evB 4 0 c 0 m f false = true) := by show ¬ _; rw [evB_4, hR]; simp
      obtain ⟨r0, r1, r2, r3, r4, r5, r6⟩ := res_zero HR3.out
      have rf0 := HR3.out.frozen 0
      have rf1 := HR3.out.frozen 1
      have rf2 := HR3.out.frozen 2
      have rf3 := HR3.out.frozen 3
      have rf4 := HR3.out.frozen 4
      have rf5 := HR3.out.frozen 5
      have rf6 := HR3.out.frozen 6
      have rl := HR3.out.lt
      go_wp2_with fail
      obtain ⟨⟨o0, o1, o2, o3, o4, o5, o6⟩, hkF⟩ := res_fin 0 0 0 0 0 0 false HR3.out HK3.out rfl
      refine bodyPost_ret (v := .tuple #[evV 0 0 0 0 0 0 false, .bool false]) ?_ rfl ⟨.inr ⟨HNo.out (fun h => absurd h HB.out), rfl⟩, hkF⟩
      clear hkF r0 rf0 r1 rf1 r2 rf2 r3 rf3 r4 rf4 r5 rf5 r6 rf6
      revert o0 o1 o2 o3 o4 o5 o6
      generalize World.setCell (World.setCell _ _ _) _ _ = WW
      intro o0 o1 o2 o3 o4 o5 o6
      simp [results, Tryz.results44, go_sem, o0, o1, o2, o3, o4, o5, o6]
    · have HB : Hid (evB 4 0 c 0 m f false = true) := by show _ = _; rw [evB_4, hR]
      go_wp2_with fail
      refine (text_price c m f w3 (HE.out.tab.kept HK3.out)).mono ?_
      rintro x w4 ⟨rfl, hk4⟩
      have HK4 := hide (HK3.out.trans hk4)
      have HR4 := hide (HR3.out.of_block (Below.block hk4 _ HR3.out.lt))
      clear hk4 HK3 HR3
      rw [← evT_4 0 c 0 m f false]
      obtain ⟨TX, hTX⟩ : ∃ TX, evT 4 0 c 0 m f false = TX := ⟨_, rfl⟩
      rw [hTX]
      have HTX := hide hTX
      clear hTX
      by_cases ht : TX = s.data.toList
      · rw [ev_str ht]
        go_wp2_with fail
        refine (eventOf_price c m f w4).mono ?_
        rintro x w5 ⟨rfl, hk5⟩
        have HK5 := hide (HK4.out.trans hk5)
        have HR5 := hide (HR4.out.of_block (Below.block hk5 _ HR4.out.lt))
        clear hk5 HK4 HR4
        obtain ⟨r0, r1, r2, r3, r4, r5, r6⟩ := res_zero HR5.out
        have rf0 := HR5.out.frozen 0
        have rf1 := HR5.out.frozen 1
        have rf2 := HR5.out.frozen 2
        have rf3 := HR5.out.frozen 3
        have rf4 := HR5.out.frozen 4
        have rf5 := HR5.out.frozen 5
        have rf6 := HR5.out.frozen 6
        have rl := HR5.out.lt
        go_wp2_with fail
        obtain ⟨⟨o0, o1, o2, o3, o4, o5, o6⟩, hkF⟩ := res_fin 4 0 c 0 m f false HR5.out HK5.out rfl
        refine bodyPost_ret (v := .tuple #[evV 4 0 c 0 m f false, .bool true]) ?_ rfl ⟨.inl ⟨4, 0, c, 0, m, f, false, HB.out, HTX.out.trans ht, rfl⟩, hkF⟩
        clear hkF r0 rf0 r1 rf1 r2 rf2 r3 rf3 r4 rf4 r5 rf5 r6 rf6
        revert o0 o1 o2 o3 o4 o5 o6
        generalize World.setCell (World.setCell _ _ _) _ _ = WW
        intro o0 o1 o2 o3 o4 o5 o6
        simp [results, Tryz.results44, go_sem, o0, o1, o2, o3, o4, o5, o6]
      · have hne := str_ne ht
        obtain ⟨r0, r1, r2, r3, r4, r5, r6⟩ := res_zero HR4.out
        have rf0 := HR4.out.frozen 0
        have rf1 := HR4.out.frozen 1
        have rf2 := HR4.out.frozen 2
        have rf3 := HR4.out.frozen 3
        have rf4 := HR4.out.frozen 4
        have rf5 := HR4.out.frozen 5
        have rf6 := HR4.out.frozen 6
        have rl := HR4.out.lt
        go_wp2_with fail
        obtain ⟨⟨o0, o1, o2, o3, o4, o5, o6⟩, hkF⟩ := res_fin 0 0 0 0 0 0 false HR4.out HK4.out rfl
        refine bodyPost_ret (v := .tuple #[evV 0 0 0 0 0 0 false, .bool false]) ?_ rfl ⟨.inr ⟨HNo.out (fun _ h => ht (HTX.out.symm.trans h)), rfl⟩, hkF⟩
        clear hkF r0 rf0 r1 rf1 r2 rf2 r3 rf3 r4 rf4 r5 rf5 r6 rf6
        revert o0 o1 o2 o3 o4 o5 o6
        generalize World.setCell (World.setCell _ _ _) _ _ = WW
        intro o0 o1 o2 o3 o4 o5 o6
        simp [results, Tryz.results44, go_sem, o0, o1, o2, o3, o4, o5, o6]
  rcases hcs with ⟨y, c, t, m, b, rfl⟩ | hcs
  · simp only [kV, Int.reduceEq, if_false, if_true]
    have hm1 : ∀ w : World, (method 299 118 (.agg #[.int .i64 y, .int .i64 c, .int .i64 t, .int .i64 m, .bool b]) "loop.example/g00400/impl.right").run Tryz.prog w = .ok (155, .agg #[.int .i64 y, .int .i64 c, .int .i64 t, .int .i64 m, .bool b]) w := fun _ => by kernel_rfl
    have hm2 : ∀ w : World, (method 299 118 (.agg #[.int .i64 y, .int .i64 c, .int .i64 t, .int .i64 m, .bool b]) "loop.example/g00400/impl.text").run Tryz.prog w = .ok (156, .agg #[.int .i64 y, .int .i64 c, .int .i64 t, .int .i64 m, .bool b]) w := fun _ => by kernel_rfl
    go_wp2_with fail
    refine (right_admit y c t m b w2).mono ?_
    rintro x w3 ⟨rfl, hk3⟩
    have HK3 := hide (HK.out.trans hk3)
    have HR3 := hide (HR.out.of_block (Below.block hk3 _ HR.out.lt))
    clear hk3 HK HR
    cases hR : (fieldB true y 1 1000000 && chansB c t && fieldB true m 1 1125899906842624)
    · have HB : Hid (¬ evB 5 y c t m 0 b = true) := by show ¬ _; rw [evB_5, hR]; simp
      obtain ⟨r0, r1, r2, r3, r4, r5, r6⟩ := res_zero HR3.out
      have rf0 := HR3.out.frozen 0
      have rf1 := HR3.out.frozen 1
      have rf2 := HR3.out.frozen 2
      have rf3 := HR3.out.frozen 3
      have rf4 := HR3.out.frozen 4
      have rf5 := HR3.out.frozen 5
      have rf6 := HR3.out.frozen 6
      have rl := HR3.out.lt
      go_wp2_with fail
      obtain ⟨⟨o0, o1, o2, o3, o4, o5, o6⟩, hkF⟩ := res_fin 0 0 0 0 0 0 false HR3.out HK3.out rfl
      refine bodyPost_ret (v := .tuple #[evV 0 0 0 0 0 0 false, .bool false]) ?_ rfl ⟨.inr ⟨HNo.out (fun h => absurd h HB.out), rfl⟩, hkF⟩
      clear hkF r0 rf0 r1 rf1 r2 rf2 r3 rf3 r4 rf4 r5 rf5 r6 rf6
      revert o0 o1 o2 o3 o4 o5 o6
      generalize World.setCell (World.setCell _ _ _) _ _ = WW
      intro o0 o1 o2 o3 o4 o5 o6
      simp [results, Tryz.results44, go_sem, o0, o1, o2, o3, o4, o5, o6]
    · have HB : Hid (evB 5 y c t m 0 b = true) := by show _ = _; rw [evB_5, hR]
      go_wp2_with fail
      refine (text_admit y c t m b w3 (HE.out.tab.kept HK3.out)).mono ?_
      rintro x w4 ⟨rfl, hk4⟩
      have HK4 := hide (HK3.out.trans hk4)
      have HR4 := hide (HR3.out.of_block (Below.block hk4 _ HR3.out.lt))
      clear hk4 HK3 HR3
      rw [← evT_5 y c t m 0 b]
      obtain ⟨TX, hTX⟩ : ∃ TX, evT 5 y c t m 0 b = TX := ⟨_, rfl⟩
      rw [hTX]
      have HTX := hide hTX
      clear hTX
      by_cases ht : TX = s.data.toList
      · rw [ev_str ht]
        go_wp2_with fail
        refine (eventOf_admit y c t m b w4).mono ?_
        rintro x w5 ⟨rfl, hk5⟩
        have HK5 := hide (HK4.out.trans hk5)
        have HR5 := hide (HR4.out.of_block (Below.block hk5 _ HR4.out.lt))
        clear hk5 HK4 HR4
        obtain ⟨r0, r1, r2, r3, r4, r5, r6⟩ := res_zero HR5.out
        have rf0 := HR5.out.frozen 0
        have rf1 := HR5.out.frozen 1
        have rf2 := HR5.out.frozen 2
        have rf3 := HR5.out.frozen 3
        have rf4 := HR5.out.frozen 4
        have rf5 := HR5.out.frozen 5
        have rf6 := HR5.out.frozen 6
        have rl := HR5.out.lt
        go_wp2_with fail
        obtain ⟨⟨o0, o1, o2, o3, o4, o5, o6⟩, hkF⟩ := res_fin 5 y c t m 0 b HR5.out HK5.out rfl
        refine bodyPost_ret (v := .tuple #[evV 5 y c t m 0 b, .bool true]) ?_ rfl ⟨.inl ⟨5, y, c, t, m, 0, b, HB.out, HTX.out.trans ht, rfl⟩, hkF⟩
        clear hkF r0 rf0 r1 rf1 r2 rf2 r3 rf3 r4 rf4 r5 rf5 r6 rf6
        revert o0 o1 o2 o3 o4 o5 o6
        generalize World.setCell (World.setCell _ _ _) _ _ = WW
        intro o0 o1 o2 o3 o4 o5 o6
        simp [results, Tryz.results44, go_sem, o0, o1, o2, o3, o4, o5, o6]
      · have hne := str_ne ht
        obtain ⟨r0, r1, r2, r3, r4, r5, r6⟩ := res_zero HR4.out
        have rf0 := HR4.out.frozen 0
        have rf1 := HR4.out.frozen 1
        have rf2 := HR4.out.frozen 2
        have rf3 := HR4.out.frozen 3
        have rf4 := HR4.out.frozen 4
        have rf5 := HR4.out.frozen 5
        have rf6 := HR4.out.frozen 6
        have rl := HR4.out.lt
        go_wp2_with fail
        obtain ⟨⟨o0, o1, o2, o3, o4, o5, o6⟩, hkF⟩ := res_fin 0 0 0 0 0 0 false HR4.out HK4.out rfl
        refine bodyPost_ret (v := .tuple #[evV 0 0 0 0 0 0 false, .bool false]) ?_ rfl ⟨.inr ⟨HNo.out (fun _ h => ht (HTX.out.symm.trans h)), rfl⟩, hkF⟩
        clear hkF r0 rf0 r1 rf1 r2 rf2 r3 rf3 r4 rf4 r5 rf5 r6 rf6
        revert o0 o1 o2 o3 o4 o5 o6
        generalize World.setCell (World.setCell _ _ _) _ _ = WW
        intro o0 o1 o2 o3 o4 o5 o6
        simp [results, Tryz.results44, go_sem, o0, o1, o2, o3, o4, o5, o6]
  rcases hcs with ⟨y, rfl⟩ | hcs
  · simp only [kV, Int.reduceEq, if_false, if_true]
    have hm1 : ∀ w : World, (method 299 120 (.agg #[.int .i64 y]) "loop.example/g00400/impl.right").run Tryz.prog w = .ok (159, .agg #[.int .i64 y]) w := fun _ => by kernel_rfl
    have hm2 : ∀ w : World, (method 299 120 (.agg #[.int .i64 y]) "loop.example/g00400/impl.text").run Tryz.prog w = .ok (160, .agg #[.int .i64 y]) w := fun _ => by kernel_rfl
    go_wp2_with fail
    refine (right_fulfill y w2).mono ?_
    rintro x w3 ⟨rfl, hk3⟩
    have HK3 := hide (HK.out.trans hk3)
    have HR3 := hide (HR.out.of_block (Below.block hk3 _ HR.out.lt))
    clear hk3 HK HR
    cases hR : (fieldB true y 1 1000000)
    · have HB : Hid (¬ evB 6 y 0 0 0 0 false = true) := by show ¬ _; rw [evB_6, hR]; simp
      obtain ⟨r0, r1, r2, r3, r4, r5, r6⟩ := res_zero HR3.out
      have rf0 := HR3.out.frozen 0
      have rf1 := HR3.out.frozen 1
      have rf2 := HR3.out.frozen 2
      have rf3 := HR3.out.frozen 3
      have rf4 := HR3.out.frozen 4
      have rf5 := HR3.out.frozen 5
      have rf6 := HR3.out.frozen 6
      have rl := HR3.out.lt
      go_wp2_with fail
      obtain ⟨⟨o0, o1, o2, o3, o4, o5, o6⟩, hkF⟩ := res_fin 0 0 0 0 0 0 false HR3.out HK3.out rfl
      refine bodyPost_ret (v := .tuple #[evV 0 0 0 0 0 0 false, .bool false]) ?_ rfl ⟨.inr ⟨HNo.out (fun h => absurd h HB.out), rfl⟩, hkF⟩
      clear hkF r0 rf0 r1 rf1 r2 rf2 r3 rf3 r4 rf4 r5 rf5 r6 rf6
      revert o0 o1 o2 o3 o4 o5 o6
      generalize World.setCell (World.setCell _ _ _) _ _ = WW
      intro o0 o1 o2 o3 o4 o5 o6
      simp [results, Tryz.results44, go_sem, o0, o1, o2, o3, o4, o5, o6]
    · have HB : Hid (evB 6 y 0 0 0 0 false = true) := by show _ = _; rw [evB_6, hR]
      go_wp2_with fail
      refine (text_fulfill y w3 (HE.out.tab.kept HK3.out)).mono ?_
      rintro x w4 ⟨rfl, hk4⟩
      have HK4 := hide (HK3.out.trans hk4)
      have HR4 := hide (HR3.out.of_block (Below.block hk4 _ HR3.out.lt))
      clear hk4 HK3 HR3
      rw [← evT_6 y 0 0 0 0 false]
      obtain ⟨TX, hTX⟩ : ∃ TX, evT 6 y 0 0 0 0 false = TX := ⟨_, rfl⟩
      rw [hTX]
      have HTX := hide hTX
      clear hTX
      by_cases ht : TX = s.data.toList
      · rw [ev_str ht]
        go_wp2_with fail
        refine (eventOf_fulfill y w4).mono ?_
        rintro x w5 ⟨rfl, hk5⟩
        have HK5 := hide (HK4.out.trans hk5)
        have HR5 := hide (HR4.out.of_block (Below.block hk5 _ HR4.out.lt))
        clear hk5 HK4 HR4
        obtain ⟨r0, r1, r2, r3, r4, r5, r6⟩ := res_zero HR5.out
        have rf0 := HR5.out.frozen 0
        have rf1 := HR5.out.frozen 1
        have rf2 := HR5.out.frozen 2
        have rf3 := HR5.out.frozen 3
        have rf4 := HR5.out.frozen 4
        have rf5 := HR5.out.frozen 5
        have rf6 := HR5.out.frozen 6
        have rl := HR5.out.lt
        go_wp2_with fail
        obtain ⟨⟨o0, o1, o2, o3, o4, o5, o6⟩, hkF⟩ := res_fin 6 y 0 0 0 0 false HR5.out HK5.out rfl
        refine bodyPost_ret (v := .tuple #[evV 6 y 0 0 0 0 false, .bool true]) ?_ rfl ⟨.inl ⟨6, y, 0, 0, 0, 0, false, HB.out, HTX.out.trans ht, rfl⟩, hkF⟩
        clear hkF r0 rf0 r1 rf1 r2 rf2 r3 rf3 r4 rf4 r5 rf5 r6 rf6
        revert o0 o1 o2 o3 o4 o5 o6
        generalize World.setCell (World.setCell _ _ _) _ _ = WW
        intro o0 o1 o2 o3 o4 o5 o6
        simp [results, Tryz.results44, go_sem, o0, o1, o2, o3, o4, o5, o6]
      · have hne := str_ne ht
        obtain ⟨r0, r1, r2, r3, r4, r5, r6⟩ := res_zero HR4.out
        have rf0 := HR4.out.frozen 0
        have rf1 := HR4.out.frozen 1
        have rf2 := HR4.out.frozen 2
        have rf3 := HR4.out.frozen 3
        have rf4 := HR4.out.frozen 4
        have rf5 := HR4.out.frozen 5
        have rf6 := HR4.out.frozen 6
        have rl := HR4.out.lt
        go_wp2_with fail
        obtain ⟨⟨o0, o1, o2, o3, o4, o5, o6⟩, hkF⟩ := res_fin 0 0 0 0 0 0 false HR4.out HK4.out rfl
        refine bodyPost_ret (v := .tuple #[evV 0 0 0 0 0 0 false, .bool false]) ?_ rfl ⟨.inr ⟨HNo.out (fun _ h => ht (HTX.out.symm.trans h)), rfl⟩, hkF⟩
        clear hkF r0 rf0 r1 rf1 r2 rf2 r3 rf3 r4 rf4 r5 rf5 r6 rf6
        revert o0 o1 o2 o3 o4 o5 o6
        generalize World.setCell (World.setCell _ _ _) _ _ = WW
        intro o0 o1 o2 o3 o4 o5 o6
        simp [results, Tryz.results44, go_sem, o0, o1, o2, o3, o4, o5, o6]
  rcases hcs with ⟨y, rfl⟩ | hcs
  · simp only [kV, Int.reduceEq, if_false, if_true]
    have hm1 : ∀ w : World, (method 299 121 (.agg #[.int .i64 y]) "loop.example/g00400/impl.right").run Tryz.prog w = .ok (161, .agg #[.int .i64 y]) w := fun _ => by kernel_rfl
    have hm2 : ∀ w : World, (method 299 121 (.agg #[.int .i64 y]) "loop.example/g00400/impl.text").run Tryz.prog w = .ok (162, .agg #[.int .i64 y]) w := fun _ => by kernel_rfl
    go_wp2_with fail
    refine (right_fail y w2).mono ?_
    rintro x w3 ⟨rfl, hk3⟩
    have HK3 := hide (HK.out.trans hk3)
    have HR3 := hide (HR.out.of_block (Below.block hk3 _ HR.out.lt))
    clear hk3 HK HR
    cases hR : (fieldB true y 1 1000000)
    · have HB : Hid (¬ evB 7 y 0 0 0 0 false = true) := by show ¬ _; rw [evB_7, hR]; simp
      obtain ⟨r0, r1, r2, r3, r4, r5, r6⟩ := res_zero HR3.out
      have rf0 := HR3.out.frozen 0
      have rf1 := HR3.out.frozen 1
      have rf2 := HR3.out.frozen 2
      have rf3 := HR3.out.frozen 3
      have rf4 := HR3.out.frozen 4
      have rf5 := HR3.out.frozen 5
      have rf6 := HR3.out.frozen 6
      have rl := HR3.out.lt
      go_wp2_with fail
      obtain ⟨⟨o0, o1, o2, o3, o4, o5, o6⟩, hkF⟩ := res_fin 0 0 0 0 0 0 false HR3.out HK3.out rfl
      refine bodyPost_ret (v := .tuple #[evV 0 0 0 0 0 0 false, .bool false]) ?_ rfl ⟨.inr ⟨HNo.out (fun h => absurd h HB.out), rfl⟩, hkF⟩
      clear hkF r0 rf0 r1 rf1 r2 rf2 r3 rf3 r4 rf4 r5 rf5 r6 rf6
      revert o0 o1 o2 o3 o4 o5 o6
      generalize World.setCell (World.setCell _ _ _) _ _ = WW
      intro o0 o1 o2 o3 o4 o5 o6
      simp [results, Tryz.results44, go_sem, o0, o1, o2, o3, o4, o5, o6]
    · have HB : Hid (evB 7 y 0 0 0 0 false = true) := by show _ = _; rw [evB_7, hR]
      go_wp2_with fail
      refine (text_fail y w3 (HE.out.tab.kept HK3.out)).mono ?_
      rintro x w4 ⟨rfl, hk4⟩
      have HK4 := hide (HK3.out.trans hk4)
      have HR4 := hide (HR3.out.of_block (Below.block hk4 _ HR3.out.lt))
      clear hk4 HK3 HR3
      rw [← evT_7 y 0 0 0 0 false]
      obtain ⟨TX, hTX⟩ : ∃ TX, evT 7 y 0 0 0 0 false = TX := ⟨_, rfl⟩
      rw [hTX]
      have HTX := hide hTX
      clear hTX
      by_cases ht : TX = s.data.toList
      · rw [ev_str ht]
        go_wp2_with fail
        refine (eventOf_fail y w4).mono ?_
        rintro x w5 ⟨rfl, hk5⟩
        have HK5 := hide (HK4.out.trans hk5)
        have HR5 := hide (HR4.out.of_block (Below.block hk5 _ HR4.out.lt))
        clear hk5 HK4 HR4
        obtain ⟨r0, r1, r2, r3, r4, r5, r6⟩ := res_zero HR5.out
        have rf0 := HR5.out.frozen 0
        have rf1 := HR5.out.frozen 1
        have rf2 := HR5.out.frozen 2
        have rf3 := HR5.out.frozen 3
        have rf4 := HR5.out.frozen 4
        have rf5 := HR5.out.frozen 5
        have rf6 := HR5.out.frozen 6
        have rl := HR5.out.lt
        go_wp2_with fail
        obtain ⟨⟨o0, o1, o2, o3, o4, o5, o6⟩, hkF⟩ := res_fin 7 y 0 0 0 0 false HR5.out HK5.out rfl
        refine bodyPost_ret (v := .tuple #[evV 7 y 0 0 0 0 false, .bool true]) ?_ rfl ⟨.inl ⟨7, y, 0, 0, 0, 0, false, HB.out, HTX.out.trans ht, rfl⟩, hkF⟩
        clear hkF r0 rf0 r1 rf1 r2 rf2 r3 rf3 r4 rf4 r5 rf5 r6 rf6
        revert o0 o1 o2 o3 o4 o5 o6
        generalize World.setCell (World.setCell _ _ _) _ _ = WW
        intro o0 o1 o2 o3 o4 o5 o6
        simp [results, Tryz.results44, go_sem, o0, o1, o2, o3, o4, o5, o6]
      · have hne := str_ne ht
        obtain ⟨r0, r1, r2, r3, r4, r5, r6⟩ := res_zero HR4.out
        have rf0 := HR4.out.frozen 0
        have rf1 := HR4.out.frozen 1
        have rf2 := HR4.out.frozen 2
        have rf3 := HR4.out.frozen 3
        have rf4 := HR4.out.frozen 4
        have rf5 := HR4.out.frozen 5
        have rf6 := HR4.out.frozen 6
        have rl := HR4.out.lt
        go_wp2_with fail
        obtain ⟨⟨o0, o1, o2, o3, o4, o5, o6⟩, hkF⟩ := res_fin 0 0 0 0 0 0 false HR4.out HK4.out rfl
        refine bodyPost_ret (v := .tuple #[evV 0 0 0 0 0 0 false, .bool false]) ?_ rfl ⟨.inr ⟨HNo.out (fun _ h => ht (HTX.out.symm.trans h)), rfl⟩, hkF⟩
        clear hkF r0 rf0 r1 rf1 r2 rf2 r3 rf3 r4 rf4 r5 rf5 r6 rf6
        revert o0 o1 o2 o3 o4 o5 o6
        generalize World.setCell (World.setCell _ _ _) _ _ = WW
        intro o0 o1 o2 o3 o4 o5 o6
        simp [results, Tryz.results44, go_sem, o0, o1, o2, o3, o4, o5, o6]
  rcases hcs with rfl | hcs
  · simp only [kV, Int.reduceEq, if_false, if_true]
    have hm1 : ∀ w : World, (method 299 123 (.agg #[]) "loop.example/g00400/impl.right").run Tryz.prog w = .ok (163, .agg #[]) w := fun _ => by kernel_rfl
    have hm2 : ∀ w : World, (method 299 123 (.agg #[]) "loop.example/g00400/impl.text").run Tryz.prog w = .ok (164, .agg #[]) w := fun _ => by kernel_rfl
    go_wp2_with fail
    refine (right_tick  w2).mono ?_
    rintro x w3 ⟨rfl, hk3⟩
    have HK3 := hide (HK.out.trans hk3)
    have HR3 := hide (HR.out.of_block (Below.block hk3 _ HR.out.lt))
    clear hk3 HK HR
    have HB : Hid (evB 8 0 0 0 0 0 false = true) := by show _ = _; rw [evB_8]
    go_wp2_with fail
    refine (text_tick  w3 (HE.out.tab.kept HK3.out)).mono ?_
    rintro x w4 ⟨rfl, hk4⟩
    have HK4 := hide (HK3.out.trans hk4)
    have HR4 := hide (HR3.out.of_block (Below.block hk4 _ HR3.out.lt))
    clear hk4 HK3 HR3
    rw [← evT_8 0 0 0 0 0 false]
    obtain ⟨TX, hTX⟩ : ∃ TX, evT 8 0 0 0 0 0 false = TX := ⟨_, rfl⟩
    rw [hTX]
    have HTX := hide hTX
    clear hTX
    by_cases ht : TX = s.data.toList
    · rw [ev_str ht]
      go_wp2_with fail
      refine (eventOf_tick  w4).mono ?_
      rintro x w5 ⟨rfl, hk5⟩
      have HK5 := hide (HK4.out.trans hk5)
      have HR5 := hide (HR4.out.of_block (Below.block hk5 _ HR4.out.lt))
      clear hk5 HK4 HR4
      obtain ⟨r0, r1, r2, r3, r4, r5, r6⟩ := res_zero HR5.out
      have rf0 := HR5.out.frozen 0
      have rf1 := HR5.out.frozen 1
      have rf2 := HR5.out.frozen 2
      have rf3 := HR5.out.frozen 3
      have rf4 := HR5.out.frozen 4
      have rf5 := HR5.out.frozen 5
      have rf6 := HR5.out.frozen 6
      have rl := HR5.out.lt
      go_wp2_with fail
      obtain ⟨⟨o0, o1, o2, o3, o4, o5, o6⟩, hkF⟩ := res_fin 8 0 0 0 0 0 false HR5.out HK5.out rfl
      refine bodyPost_ret (v := .tuple #[evV 8 0 0 0 0 0 false, .bool true]) ?_ rfl ⟨.inl ⟨8, 0, 0, 0, 0, 0, false, HB.out, HTX.out.trans ht, rfl⟩, hkF⟩
      clear hkF r0 rf0 r1 rf1 r2 rf2 r3 rf3 r4 rf4 r5 rf5 r6 rf6
      revert o0 o1 o2 o3 o4 o5 o6
      generalize World.setCell (World.setCell _ _ _) _ _ = WW
      intro o0 o1 o2 o3 o4 o5 o6
      simp [results, Tryz.results44, go_sem, o0, o1, o2, o3, o4, o5, o6]
    · have hne := str_ne ht
      obtain ⟨r0, r1, r2, r3, r4, r5, r6⟩ := res_zero HR4.out
      have rf0 := HR4.out.frozen 0
      have rf1 := HR4.out.frozen 1
      have rf2 := HR4.out.frozen 2
      have rf3 := HR4.out.frozen 3
      have rf4 := HR4.out.frozen 4
      have rf5 := HR4.out.frozen 5
      have rf6 := HR4.out.frozen 6
      have rl := HR4.out.lt
      go_wp2_with fail
      obtain ⟨⟨o0, o1, o2, o3, o4, o5, o6⟩, hkF⟩ := res_fin 0 0 0 0 0 0 false HR4.out HK4.out rfl
      refine bodyPost_ret (v := .tuple #[evV 0 0 0 0 0 0 false, .bool false]) ?_ rfl ⟨.inr ⟨HNo.out (fun _ h => ht (HTX.out.symm.trans h)), rfl⟩, hkF⟩
      clear hkF r0 rf0 r1 rf1 r2 rf2 r3 rf3 r4 rf4 r5 rf5 r6 rf6
      revert o0 o1 o2 o3 o4 o5 o6
      generalize World.setCell (World.setCell _ _ _) _ _ = WW
      intro o0 o1 o2 o3 o4 o5 o6
      simp [results, Tryz.results44, go_sem, o0, o1, o2, o3, o4, o5, o6]
  rcases hcs with ⟨y, c, t, m, f, rfl⟩ | hcs
  · simp only [kV, Int.reduceEq, if_false, if_true]
    have hm1 : ∀ w : World, (method 299 125 (.agg #[.int .i64 y, .int .i64 c, .int .i64 t, .int .i64 m, .int .i64 f]) "loop.example/g00400/impl.right").run Tryz.prog w = .ok (165, .agg #[.int .i64 y, .int .i64 c, .int .i64 t, .int .i64 m, .int .i64 f]) w := fun _ => by kernel_rfl
    have hm2 : ∀ w : World, (method 299 125 (.agg #[.int .i64 y, .int .i64 c, .int .i64 t, .int .i64 m, .int .i64 f]) "loop.example/g00400/impl.text").run Tryz.prog w = .ok (166, .agg #[.int .i64 y, .int .i64 c, .int .i64 t, .int .i64 m, .int .i64 f]) w := fun _ => by kernel_rfl
    go_wp2_with fail
    refine (right_launch y c t m f w2).mono ?_
    rintro x w3 ⟨rfl, hk3⟩
    have HK3 := hide (HK.out.trans hk3)
    have HR3 := hide (HR.out.of_block (Below.block hk3 _ HR.out.lt))
    clear hk3 HK HR
    cases hR : (fieldB true y 1 1000000 && chansB c t && fieldB true m 1 1125899906842624 && fieldB true f 0 1125899906842624)
    · have HB : Hid (¬ evB 9 y c t m f false = true) := by show ¬ _; rw [evB_9, hR]; simp
      obtain ⟨r0, r1, r2, r3, r4, r5, r6⟩ := res_zero HR3.out
      have rf0 := HR3.out.frozen 0
      have rf1 := HR3.out.frozen 1
      have rf2 := HR3.out.frozen 2
      have rf3 := HR3.out.frozen 3
      have rf4 := HR3.out.frozen 4
      have rf5 := HR3.out.frozen 5
      have rf6 := HR3.out.frozen 6
      have rl := HR3.out.lt
      go_wp2_with fail
      obtain ⟨⟨o0, o1, o2, o3, o4, o5, o6⟩, hkF⟩ := res_fin 0 0 0 0 0 0 false HR3.out HK3.out rfl
      refine bodyPost_ret (v := .tuple #[evV 0 0 0 0 0 0 false, .bool false]) ?_ rfl ⟨.inr ⟨HNo.out (fun h => absurd h HB.out), rfl⟩, hkF⟩
      clear hkF r0 rf0 r1 rf1 r2 rf2 r3 rf3 r4 rf4 r5 rf5 r6 rf6
      revert o0 o1 o2 o3 o4 o5 o6
      generalize World.setCell (World.setCell _ _ _) _ _ = WW
      intro o0 o1 o2 o3 o4 o5 o6
      simp [results, Tryz.results44, go_sem, o0, o1, o2, o3, o4, o5, o6]
    · have HB : Hid (evB 9 y c t m f false = true) := by show _ = _; rw [evB_9, hR]
      go_wp2_with fail
      refine (text_launch y c t m f w3 (HE.out.tab.kept HK3.out)).mono ?_
      rintro x w4 ⟨rfl, hk4⟩
      have HK4 := hide (HK3.out.trans hk4)
      have HR4 := hide (HR3.out.of_block (Below.block hk4 _ HR3.out.lt))
      clear hk4 HK3 HR3
      rw [← evT_9 y c t m f false]
      obtain ⟨TX, hTX⟩ : ∃ TX, evT 9 y c t m f false = TX := ⟨_, rfl⟩
      rw [hTX]
      have HTX := hide hTX
      clear hTX
      by_cases ht : TX = s.data.toList
      · rw [ev_str ht]
        go_wp2_with fail
        refine (eventOf_launch y c t m f w4).mono ?_
        rintro x w5 ⟨rfl, hk5⟩
        have HK5 := hide (HK4.out.trans hk5)
        have HR5 := hide (HR4.out.of_block (Below.block hk5 _ HR4.out.lt))
        clear hk5 HK4 HR4
        obtain ⟨r0, r1, r2, r3, r4, r5, r6⟩ := res_zero HR5.out
        have rf0 := HR5.out.frozen 0
        have rf1 := HR5.out.frozen 1
        have rf2 := HR5.out.frozen 2
        have rf3 := HR5.out.frozen 3
        have rf4 := HR5.out.frozen 4
        have rf5 := HR5.out.frozen 5
        have rf6 := HR5.out.frozen 6
        have rl := HR5.out.lt
        go_wp2_with fail
        obtain ⟨⟨o0, o1, o2, o3, o4, o5, o6⟩, hkF⟩ := res_fin 9 y c t m f false HR5.out HK5.out rfl
        refine bodyPost_ret (v := .tuple #[evV 9 y c t m f false, .bool true]) ?_ rfl ⟨.inl ⟨9, y, c, t, m, f, false, HB.out, HTX.out.trans ht, rfl⟩, hkF⟩
        clear hkF r0 rf0 r1 rf1 r2 rf2 r3 rf3 r4 rf4 r5 rf5 r6 rf6
        revert o0 o1 o2 o3 o4 o5 o6
        generalize World.setCell (World.setCell _ _ _) _ _ = WW
        intro o0 o1 o2 o3 o4 o5 o6
        simp [results, Tryz.results44, go_sem, o0, o1, o2, o3, o4, o5, o6]
      · have hne := str_ne ht
        obtain ⟨r0, r1, r2, r3, r4, r5, r6⟩ := res_zero HR4.out
        have rf0 := HR4.out.frozen 0
        have rf1 := HR4.out.frozen 1
        have rf2 := HR4.out.frozen 2
        have rf3 := HR4.out.frozen 3
        have rf4 := HR4.out.frozen 4
        have rf5 := HR4.out.frozen 5
        have rf6 := HR4.out.frozen 6
        have rl := HR4.out.lt
        go_wp2_with fail
        obtain ⟨⟨o0, o1, o2, o3, o4, o5, o6⟩, hkF⟩ := res_fin 0 0 0 0 0 0 false HR4.out HK4.out rfl
        refine bodyPost_ret (v := .tuple #[evV 0 0 0 0 0 0 false, .bool false]) ?_ rfl ⟨.inr ⟨HNo.out (fun _ h => ht (HTX.out.symm.trans h)), rfl⟩, hkF⟩
        clear hkF r0 rf0 r1 rf1 r2 rf2 r3 rf3 r4 rf4 r5 rf5 r6 rf6
        revert o0 o1 o2 o3 o4 o5 o6
        generalize World.setCell (World.setCell _ _ _) _ _ = WW
        intro o0 o1 o2 o3 o4 o5 o6
        simp [results, Tryz.results44, go_sem, o0, o1, o2, o3, o4, o5, o6]
  rcases hcs with ⟨y, rfl⟩ | hcs
  · simp only [kV, Int.reduceEq, if_false, if_true]
    have hm1 : ∀ w : World, (method 299 126 (.agg #[.int .i64 y]) "loop.example/g00400/impl.right").run Tryz.prog w = .ok (167, .agg #[.int .i64 y]) w := fun _ => by kernel_rfl
    have hm2 : ∀ w : World, (method 299 126 (.agg #[.int .i64 y]) "loop.example/g00400/impl.text").run Tryz.prog w = .ok (168, .agg #[.int .i64 y]) w := fun _ => by kernel_rfl
    go_wp2_with fail
    refine (right_arrive y w2).mono ?_
    rintro x w3 ⟨rfl, hk3⟩
    have HK3 := hide (HK.out.trans hk3)
    have HR3 := hide (HR.out.of_block (Below.block hk3 _ HR.out.lt))
    clear hk3 HK HR
    cases hR : (fieldB true y 1 1000000)
    · have HB : Hid (¬ evB 10 y 0 0 0 0 false = true) := by show ¬ _; rw [evB_10, hR]; simp
      obtain ⟨r0, r1, r2, r3, r4, r5, r6⟩ := res_zero HR3.out
      have rf0 := HR3.out.frozen 0
      have rf1 := HR3.out.frozen 1
      have rf2 := HR3.out.frozen 2
      have rf3 := HR3.out.frozen 3
      have rf4 := HR3.out.frozen 4
      have rf5 := HR3.out.frozen 5
      have rf6 := HR3.out.frozen 6
      have rl := HR3.out.lt
      go_wp2_with fail
      obtain ⟨⟨o0, o1, o2, o3, o4, o5, o6⟩, hkF⟩ := res_fin 0 0 0 0 0 0 false HR3.out HK3.out rfl
      refine bodyPost_ret (v := .tuple #[evV 0 0 0 0 0 0 false, .bool false]) ?_ rfl ⟨.inr ⟨HNo.out (fun h => absurd h HB.out), rfl⟩, hkF⟩
      clear hkF r0 rf0 r1 rf1 r2 rf2 r3 rf3 r4 rf4 r5 rf5 r6 rf6
      revert o0 o1 o2 o3 o4 o5 o6
      generalize World.setCell (World.setCell _ _ _) _ _ = WW
      intro o0 o1 o2 o3 o4 o5 o6
      simp [results, Tryz.results44, go_sem, o0, o1, o2, o3, o4, o5, o6]
    · have HB : Hid (evB 10 y 0 0 0 0 false = true) := by show _ = _; rw [evB_10, hR]
      go_wp2_with fail
      refine (text_arrive y w3 (HE.out.tab.kept HK3.out)).mono ?_
      rintro x w4 ⟨rfl, hk4⟩
      have HK4 := hide (HK3.out.trans hk4)
      have HR4 := hide (HR3.out.of_block (Below.block hk4 _ HR3.out.lt))
      clear hk4 HK3 HR3
      rw [← evT_10 y 0 0 0 0 false]
      obtain ⟨TX, hTX⟩ : ∃ TX, evT 10 y 0 0 0 0 false = TX := ⟨_, rfl⟩
      rw [hTX]
      have HTX := hide hTX
      clear hTX
      by_cases ht : TX = s.data.toList
      · rw [ev_str ht]
        go_wp2_with fail
        refine (eventOf_arrive y w4).mono ?_
        rintro x w5 ⟨rfl, hk5⟩
        have HK5 := hide (HK4.out.trans hk5)
        have HR5 := hide (HR4.out.of_block (Below.block hk5 _ HR4.out.lt))
        clear hk5 HK4 HR4
        obtain ⟨r0, r1, r2, r3, r4, r5, r6⟩ := res_zero HR5.out
        have rf0 := HR5.out.frozen 0
        have rf1 := HR5.out.frozen 1
        have rf2 := HR5.out.frozen 2
        have rf3 := HR5.out.frozen 3
        have rf4 := HR5.out.frozen 4
        have rf5 := HR5.out.frozen 5
        have rf6 := HR5.out.frozen 6
        have rl := HR5.out.lt
        go_wp2_with fail
        obtain ⟨⟨o0, o1, o2, o3, o4, o5, o6⟩, hkF⟩ := res_fin 10 y 0 0 0 0 false HR5.out HK5.out rfl
        refine bodyPost_ret (v := .tuple #[evV 10 y 0 0 0 0 false, .bool true]) ?_ rfl ⟨.inl ⟨10, y, 0, 0, 0, 0, false, HB.out, HTX.out.trans ht, rfl⟩, hkF⟩
        clear hkF r0 rf0 r1 rf1 r2 rf2 r3 rf3 r4 rf4 r5 rf5 r6 rf6
        revert o0 o1 o2 o3 o4 o5 o6
        generalize World.setCell (World.setCell _ _ _) _ _ = WW
        intro o0 o1 o2 o3 o4 o5 o6
        simp [results, Tryz.results44, go_sem, o0, o1, o2, o3, o4, o5, o6]
      · have hne := str_ne ht
        obtain ⟨r0, r1, r2, r3, r4, r5, r6⟩ := res_zero HR4.out
        have rf0 := HR4.out.frozen 0
        have rf1 := HR4.out.frozen 1
        have rf2 := HR4.out.frozen 2
        have rf3 := HR4.out.frozen 3
        have rf4 := HR4.out.frozen 4
        have rf5 := HR4.out.frozen 5
        have rf6 := HR4.out.frozen 6
        have rl := HR4.out.lt
        go_wp2_with fail
        obtain ⟨⟨o0, o1, o2, o3, o4, o5, o6⟩, hkF⟩ := res_fin 0 0 0 0 0 0 false HR4.out HK4.out rfl
        refine bodyPost_ret (v := .tuple #[evV 0 0 0 0 0 0 false, .bool false]) ?_ rfl ⟨.inr ⟨HNo.out (fun _ h => ht (HTX.out.symm.trans h)), rfl⟩, hkF⟩
        clear hkF r0 rf0 r1 rf1 r2 rf2 r3 rf3 r4 rf4 r5 rf5 r6 rf6
        revert o0 o1 o2 o3 o4 o5 o6
        generalize World.setCell (World.setCell _ _ _) _ _ = WW
        intro o0 o1 o2 o3 o4 o5 o6
        simp [results, Tryz.results44, go_sem, o0, o1, o2, o3, o4, o5, o6]
  rcases hcs with ⟨y, rfl⟩ | rfl
  · simp only [kV, Int.reduceEq, if_false, if_true]
    have hm1 : ∀ w : World, (method 299 127 (.agg #[.int .i64 y]) "loop.example/g00400/impl.right").run Tryz.prog w = .ok (169, .agg #[.int .i64 y]) w := fun _ => by kernel_rfl
    have hm2 : ∀ w : World, (method 299 127 (.agg #[.int .i64 y]) "loop.example/g00400/impl.text").run Tryz.prog w = .ok (170, .agg #[.int .i64 y]) w := fun _ => by kernel_rfl
    go_wp2_with fail
    refine (right_lost y w2).mono ?_
    rintro x w3 ⟨rfl, hk3⟩
    have HK3 := hide (HK.out.trans hk3)
    have HR3 := hide (HR.out.of_block (Below.block hk3 _ HR.out.lt))
    clear hk3 HK HR
    cases hR : (fieldB true y 1 1000000)
    · have HB : Hid (¬ evB 11 y 0 0 0 0 false = true) := by show ¬ _; rw [evB_11, hR]; simp
      obtain ⟨r0, r1, r2, r3, r4, r5, r6⟩ := res_zero HR3.out
      have rf0 := HR3.out.frozen 0
      have rf1 := HR3.out.frozen 1
      have rf2 := HR3.out.frozen 2
      have rf3 := HR3.out.frozen 3
      have rf4 := HR3.out.frozen 4
      have rf5 := HR3.out.frozen 5
      have rf6 := HR3.out.frozen 6
      have rl := HR3.out.lt
      go_wp2_with fail
      obtain ⟨⟨o0, o1, o2, o3, o4, o5, o6⟩, hkF⟩ := res_fin 0 0 0 0 0 0 false HR3.out HK3.out rfl
      refine bodyPost_ret (v := .tuple #[evV 0 0 0 0 0 0 false, .bool false]) ?_ rfl ⟨.inr ⟨HNo.out (fun h => absurd h HB.out), rfl⟩, hkF⟩
      clear hkF r0 rf0 r1 rf1 r2 rf2 r3 rf3 r4 rf4 r5 rf5 r6 rf6
      revert o0 o1 o2 o3 o4 o5 o6
      generalize World.setCell (World.setCell _ _ _) _ _ = WW
      intro o0 o1 o2 o3 o4 o5 o6
      simp [results, Tryz.results44, go_sem, o0, o1, o2, o3, o4, o5, o6]
    · have HB : Hid (evB 11 y 0 0 0 0 false = true) := by show _ = _; rw [evB_11, hR]
      go_wp2_with fail
      refine (text_lost y w3 (HE.out.tab.kept HK3.out)).mono ?_
      rintro x w4 ⟨rfl, hk4⟩
      have HK4 := hide (HK3.out.trans hk4)
      have HR4 := hide (HR3.out.of_block (Below.block hk4 _ HR3.out.lt))
      clear hk4 HK3 HR3
      rw [← evT_11 y 0 0 0 0 false]
      obtain ⟨TX, hTX⟩ : ∃ TX, evT 11 y 0 0 0 0 false = TX := ⟨_, rfl⟩
      rw [hTX]
      have HTX := hide hTX
      clear hTX
      by_cases ht : TX = s.data.toList
      · rw [ev_str ht]
        go_wp2_with fail
        refine (eventOf_lost y w4).mono ?_
        rintro x w5 ⟨rfl, hk5⟩
        have HK5 := hide (HK4.out.trans hk5)
        have HR5 := hide (HR4.out.of_block (Below.block hk5 _ HR4.out.lt))
        clear hk5 HK4 HR4
        obtain ⟨r0, r1, r2, r3, r4, r5, r6⟩ := res_zero HR5.out
        have rf0 := HR5.out.frozen 0
        have rf1 := HR5.out.frozen 1
        have rf2 := HR5.out.frozen 2
        have rf3 := HR5.out.frozen 3
        have rf4 := HR5.out.frozen 4
        have rf5 := HR5.out.frozen 5
        have rf6 := HR5.out.frozen 6
        have rl := HR5.out.lt
        go_wp2_with fail
        obtain ⟨⟨o0, o1, o2, o3, o4, o5, o6⟩, hkF⟩ := res_fin 11 y 0 0 0 0 false HR5.out HK5.out rfl
        refine bodyPost_ret (v := .tuple #[evV 11 y 0 0 0 0 false, .bool true]) ?_ rfl ⟨.inl ⟨11, y, 0, 0, 0, 0, false, HB.out, HTX.out.trans ht, rfl⟩, hkF⟩
        clear hkF r0 rf0 r1 rf1 r2 rf2 r3 rf3 r4 rf4 r5 rf5 r6 rf6
        revert o0 o1 o2 o3 o4 o5 o6
        generalize World.setCell (World.setCell _ _ _) _ _ = WW
        intro o0 o1 o2 o3 o4 o5 o6
        simp [results, Tryz.results44, go_sem, o0, o1, o2, o3, o4, o5, o6]
      · have hne := str_ne ht
        obtain ⟨r0, r1, r2, r3, r4, r5, r6⟩ := res_zero HR4.out
        have rf0 := HR4.out.frozen 0
        have rf1 := HR4.out.frozen 1
        have rf2 := HR4.out.frozen 2
        have rf3 := HR4.out.frozen 3
        have rf4 := HR4.out.frozen 4
        have rf5 := HR4.out.frozen 5
        have rf6 := HR4.out.frozen 6
        have rl := HR4.out.lt
        go_wp2_with fail
        obtain ⟨⟨o0, o1, o2, o3, o4, o5, o6⟩, hkF⟩ := res_fin 0 0 0 0 0 0 false HR4.out HK4.out rfl
        refine bodyPost_ret (v := .tuple #[evV 0 0 0 0 0 0 false, .bool false]) ?_ rfl ⟨.inr ⟨HNo.out (fun _ h => ht (HTX.out.symm.trans h)), rfl⟩, hkF⟩
        clear hkF r0 rf0 r1 rf1 r2 rf2 r3 rf3 r4 rf4 r5 rf5 r6 rf6
        revert o0 o1 o2 o3 o4 o5 o6
        generalize World.setCell (World.setCell _ _ _) _ _ = WW
        intro o0 o1 o2 o3 o4 o5 o6
        simp [results, Tryz.results44, go_sem, o0, o1, o2, o3, o4, o5, o6]
  · simp only [kV, Int.reduceEq, if_false, if_true]
    have hm1 : ∀ w : World, (method 299 128 (.agg #[]) "loop.example/g00400/impl.right").run Tryz.prog w = .ok (171, .agg #[]) w := fun _ => by kernel_rfl
    have hm2 : ∀ w : World, (method 299 128 (.agg #[]) "loop.example/g00400/impl.text").run Tryz.prog w = .ok (172, .agg #[]) w := fun _ => by kernel_rfl
    go_wp2_with fail
    refine (right_unknown  w2).mono ?_
    rintro x w3 ⟨rfl, hk3⟩
    have HK3 := hide (HK.out.trans hk3)
    have HR3 := hide (HR.out.of_block (Below.block hk3 _ HR.out.lt))
    clear hk3 HK HR
    have HB : Hid (¬ evB 0 0 0 0 0 0 false = true) := by show ¬ _; decide
    obtain ⟨r0, r1, r2, r3, r4, r5, r6⟩ := res_zero HR3.out
    have rf0 := HR3.out.frozen 0
    have rf1 := HR3.out.frozen 1
    have rf2 := HR3.out.frozen 2
    have rf3 := HR3.out.frozen 3
    have rf4 := HR3.out.frozen 4
    have rf5 := HR3.out.frozen 5
    have rf6 := HR3.out.frozen 6
    have rl := HR3.out.lt
    go_wp2_with fail
    obtain ⟨⟨o0, o1, o2, o3, o4, o5, o6⟩, hkF⟩ := res_fin 0 0 0 0 0 0 false HR3.out HK3.out rfl
    refine bodyPost_ret (v := .tuple #[evV 0 0 0 0 0 0 false, .bool false]) ?_ rfl ⟨.inr ⟨HNo.out (fun h => absurd h HB.out), rfl⟩, hkF⟩
    clear hkF r0 rf0 r1 rf1 r2 rf2 r3 rf3 r4 rf4 r5 rf5 r6 rf6
    revert o0 o1 o2 o3 o4 o5 o6
    generalize World.setCell (World.setCell _ _ _) _ _ = WW
    intro o0 o1 o2 o3 o4 o5 o6
    simp [results, Tryz.results44, go_sem, o0, o1, o2, o3, o4, o5, o6]
end Go.Proofs.YtkgpoghoilffhaaGreatDoor
