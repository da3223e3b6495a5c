/- Texts of the verifier, joined: Kin, ShelfE. -/
import Derived.Test.YtmigcgpnkfjebaaGreatDoorPTextEvent5
import Derived.Shelf.Strings.Split
import Derived.Test.YtmigcgpnkfjebaaGreatDoorProg
namespace Go.Proofs.YtmigcgpnkfjebaaGreatDoor
open Go.RowKit Go.Deep
set_option linter.unusedVariables false
set_option linter.unusedSimpArgs false
set_option maxRecDepth 10000
/-- The kind's value of an event. -/
def kV (E : Ev) : Value :=
  if E.k = 1 then .iface 49 (.agg #[.int .i64 E.m])
  else if E.k = 2 then .iface 51 (.agg #[.int .i64 E.c, .int .i64 E.m, .int .i64 E.f])
  else if E.k = 3 then .iface 53 (.agg #[.int .i64 E.c, .int .i64 E.f])
  else if E.k = 4 then .iface 55 (.agg #[.int .i64 E.c, .int .i64 E.m, .int .i64 E.f])
  else if E.k = 5 then .iface 57 (.agg #[.int .i64 E.y, .int .i64 E.c, .int .i64 E.t, .int .i64 E.m, .bool E.b])
  else if E.k = 6 then .iface 59 (.agg #[.int .i64 E.y])
  else if E.k = 7 then .iface 60 (.agg #[.int .i64 E.y])
  else if E.k = 8 then .iface 62 (.agg #[])
  else if E.k = 9 then .iface 64 (.agg #[.int .i64 E.y, .int .i64 E.c, .int .i64 E.t, .int .i64 E.m, .int .i64 E.f])
  else if E.k = 10 then .iface 65 (.agg #[.int .i64 E.y])
  else if E.k = 11 then .iface 66 (.agg #[.int .i64 E.y])
  else .iface 67 (.agg #[])
theorem nn_tx (ws : List ByteArray) (i : Nat) : nn ws i = txN ((ws.map (·.data.toList)).getD i []) := by
  unfold nn
  split
  · next h => rw [List.getD_eq_getElem?_getD]; simp [h]
  · next h => rw [List.getD_eq_getElem?_getD, List.getElem?_eq_none (by simpa using h)]; exact tx_nil.symm
theorem nn_said (hd : ByteArray) (tl : List ByteArray) (i : Nat) : txN (((hd :: tl).map (·.data.toList)).getD (i + 1) []) = nn tl i := by
  rw [nn_tx]; rfl
theorem last_said (hd : ByteArray) (tl : List ByteArray) : ((hd :: tl).map (·.data.toList)).getLastD [] = ((hd :: tl)[tl.length]'(by simp)).data.toList := by
  rw [List.getLastD_eq_getLast?, List.getLast?_eq_getElem?, List.getElem?_map]
  simp only [List.length_map, List.length_cons, Nat.add_sub_cancel]
  rw [List.getElem?_eq_getElem (by simp)]
  rfl
theorem list_yes {x : ByteArray} {l : List UInt8} (h : (x.toList == l) = true) : x.data.toList = l := by
  rw [← toList_data]; exact eq_of_beq h
theorem list_no {x : ByteArray} {l : List UInt8} (h : (x.toList == l) = false) : x.data.toList ≠ l := by
  rw [← toList_data]; intro e; rw [e] at h; simp at h
theorem head_of (hd : ByteArray) (tl : List ByteArray) : ((hd :: tl).map (·.data.toList)).headD [] = hd.data.toList := rfl
theorem kv_1 {hd : ByteArray} {tl : List ByteArray} (h : (hd.toList == [100, 101, 112, 111, 115, 105, 116]) = true) : Value.iface 49 (.agg #[.int .i64 (nn tl 0)]) = kV (said ((hd :: tl).map (·.data.toList))) := by
  have h1 := list_yes h
  have e : said ((hd :: tl).map (·.data.toList)) = ⟨1, 0, 0, 0, txN (((hd :: tl).map (·.data.toList)).getD 1 []), 0, false⟩ := by
    unfold said
    rw [head_of, h1, if_pos rfl]
  rw [e]
  simp only [nn_said, last_said, toList_data, kV, Int.reduceEq, if_false, if_true]
theorem kv_2 {hd : ByteArray} {tl : List ByteArray} (h : (hd.toList == [111, 112, 101, 110]) = true) : Value.iface 51 (.agg #[.int .i64 (nn tl 0), .int .i64 (nn tl 1), .int .i64 (nn tl 2)]) = kV (said ((hd :: tl).map (·.data.toList))) := by
  have h1 := list_yes h
  have e : said ((hd :: tl).map (·.data.toList)) = ⟨2, 0, txN (((hd :: tl).map (·.data.toList)).getD 1 []), 0, txN (((hd :: tl).map (·.data.toList)).getD 2 []), txN (((hd :: tl).map (·.data.toList)).getD 3 []), false⟩ := by
    unfold said
    rw [head_of, h1, if_neg (by decide), if_pos rfl]
  rw [e]
  simp only [nn_said, last_said, toList_data, kV, Int.reduceEq, if_false, if_true]
theorem kv_3 {hd : ByteArray} {tl : List ByteArray} (h : (hd.toList == [99, 108, 111, 115, 101]) = true) : Value.iface 53 (.agg #[.int .i64 (nn tl 0), .int .i64 (nn tl 1)]) = kV (said ((hd :: tl).map (·.data.toList))) := by
  have h1 := list_yes h
  have e : said ((hd :: tl).map (·.data.toList)) = ⟨3, 0, txN (((hd :: tl).map (·.data.toList)).getD 1 []), 0, 0, txN (((hd :: tl).map (·.data.toList)).getD 2 []), false⟩ := by
    unfold said
    rw [head_of, h1, if_neg (by decide), if_neg (by decide), if_pos rfl]
  rw [e]
  simp only [nn_said, last_said, toList_data, kV, Int.reduceEq, if_false, if_true]
theorem kv_4 {hd : ByteArray} {tl : List ByteArray} (h : (hd.toList == [112, 114, 105, 99, 101]) = true) : Value.iface 55 (.agg #[.int .i64 (nn tl 0), .int .i64 (nn tl 1), .int .i64 (nn tl 2)]) = kV (said ((hd :: tl).map (·.data.toList))) := by
  have h1 := list_yes h
  have e : said ((hd :: tl).map (·.data.toList)) = ⟨4, 0, txN (((hd :: tl).map (·.data.toList)).getD 1 []), 0, txN (((hd :: tl).map (·.data.toList)).getD 2 []), txN (((hd :: tl).map (·.data.toList)).getD 3 []), false⟩ := by
    unfold said
    rw [head_of, h1, if_neg (by decide), if_neg (by decide), if_neg (by decide), if_pos rfl]
  rw [e]
  simp only [nn_said, last_said, toList_data, kV, Int.reduceEq, if_false, if_true]
theorem kv_5 {hd : ByteArray} {tl : List ByteArray} (h : (hd.toList == [97, 100, 109, 105, 116]) = true) : Value.iface 57 (.agg #[.int .i64 (nn tl 0), .int .i64 (nn tl 1), .int .i64 (nn tl 2), .int .i64 (nn tl 3), .bool (((hd :: tl)[tl.length]'(by simp)).toList == [121, 101, 115])]) = kV (said ((hd :: tl).map (·.data.toList))) := by
  have h1 := list_yes h
  have e : said ((hd :: tl).map (·.data.toList)) = ⟨5, txN (((hd :: tl).map (·.data.toList)).getD 1 []), txN (((hd :: tl).map (·.data.toList)).getD 2 []), txN (((hd :: tl).map (·.data.toList)).getD 3 []), txN (((hd :: tl).map (·.data.toList)).getD 4 []), 0, (((hd :: tl).map (·.data.toList)).getLastD [] == [121, 101, 115])⟩ := by
    unfold said
    rw [head_of, h1, if_neg (by decide), if_neg (by decide), if_neg (by decide), if_neg (by decide), if_pos rfl]
  rw [e]
  simp only [nn_said, last_said, toList_data, kV, Int.reduceEq, if_false, if_true]
theorem kv_6 {hd : ByteArray} {tl : List ByteArray} (h : (hd.toList == [102, 117, 108, 102, 105, 108, 108]) = true) : Value.iface 59 (.agg #[.int .i64 (nn tl 0)]) = kV (said ((hd :: tl).map (·.data.toList))) := by
  have h1 := list_yes h
  have e : said ((hd :: tl).map (·.data.toList)) = ⟨6, txN (((hd :: tl).map (·.data.toList)).getD 1 []), 0, 0, 0, 0, false⟩ := by
    unfold said
    rw [head_of, h1, if_neg (by decide), if_neg (by decide), if_neg (by decide), if_neg (by decide), if_neg (by decide), if_pos rfl]
  rw [e]
  simp only [nn_said, last_said, toList_data, kV, Int.reduceEq, if_false, if_true]
theorem kv_7 {hd : ByteArray} {tl : List ByteArray} (h : (hd.toList == [102, 97, 105, 108]) = true) : Value.iface 60 (.agg #[.int .i64 (nn tl 0)]) = kV (said ((hd :: tl).map (·.data.toList))) := by
  have h1 := list_yes h
  have e : said ((hd :: tl).map (·.data.toList)) = ⟨7, txN (((hd :: tl).map (·.data.toList)).getD 1 []), 0, 0, 0, 0, false⟩ := by
    unfold said
    rw [head_of, h1, if_neg (by decide), if_neg (by decide), if_neg (by decide), if_neg (by decide), if_neg (by decide), if_neg (by decide), if_pos rfl]
  rw [e]
  simp only [nn_said, last_said, toList_data, kV, Int.reduceEq, if_false, if_true]
theorem kv_8 {hd : ByteArray} {tl : List ByteArray} (h : (hd.toList == [116, 105, 99, 107]) = true) : Value.iface 62 (.agg #[]) = kV (said ((hd :: tl).map (·.data.toList))) := by
  have h1 := list_yes h
  have e : said ((hd :: tl).map (·.data.toList)) = ⟨8, 0, 0, 0, 0, 0, false⟩ := by
    unfold said
    rw [head_of, h1, if_neg (by decide), if_neg (by decide), if_neg (by decide), if_neg (by decide), if_neg (by decide), if_neg (by decide), if_neg (by decide), if_pos rfl]
  rw [e]
  simp only [nn_said, last_said, toList_data, kV, Int.reduceEq, if_false, if_true]
theorem kv_9 {hd : ByteArray} {tl : List ByteArray} (h : (hd.toList == [108, 97, 117, 110, 99, 104]) = true) : Value.iface 64 (.agg #[.int .i64 (nn tl 0), .int .i64 (nn tl 1), .int .i64 (nn tl 2), .int .i64 (nn tl 3), .int .i64 (nn tl 4)]) = kV (said ((hd :: tl).map (·.data.toList))) := by
  have h1 := list_yes h
  have e : said ((hd :: tl).map (·.data.toList)) = ⟨9, txN (((hd :: tl).map (·.data.toList)).getD 1 []), txN (((hd :: tl).map (·.data.toList)).getD 2 []), txN (((hd :: tl).map (·.data.toList)).getD 3 []), txN (((hd :: tl).map (·.data.toList)).getD 4 []), txN (((hd :: tl).map (·.data.toList)).getD 5 []), false⟩ := by
    unfold said
    rw [head_of, h1, if_neg (by decide), if_neg (by decide), if_neg (by decide), if_neg (by decide), if_neg (by decide), if_neg (by decide), if_neg (by decide), if_neg (by decide), if_pos rfl]
  rw [e]
  simp only [nn_said, last_said, toList_data, kV, Int.reduceEq, if_false, if_true]
theorem kv_10 {hd : ByteArray} {tl : List ByteArray} (h : (hd.toList == [97, 114, 114, 105, 118, 101]) = true) : Value.iface 65 (.agg #[.int .i64 (nn tl 0)]) = kV (said ((hd :: tl).map (·.data.toList))) := by
  have h1 := list_yes h
  have e : said ((hd :: tl).map (·.data.toList)) = ⟨10, txN (((hd :: tl).map (·.data.toList)).getD 1 []), 0, 0, 0, 0, false⟩ := by
    unfold said
    rw [head_of, h1, if_neg (by decide), if_neg (by decide), if_neg (by decide), if_neg (by decide), if_neg (by decide), if_neg (by decide), if_neg (by decide), if_neg (by decide), if_neg (by decide), if_pos rfl]
  rw [e]
  simp only [nn_said, last_said, toList_data, kV, Int.reduceEq, if_false, if_true]
theorem kv_11 {hd : ByteArray} {tl : List ByteArray} (h : (hd.toList == [108, 111, 115, 116]) = true) : Value.iface 66 (.agg #[.int .i64 (nn tl 0)]) = kV (said ((hd :: tl).map (·.data.toList))) := by
  have h1 := list_yes h
  have e : said ((hd :: tl).map (·.data.toList)) = ⟨11, txN (((hd :: tl).map (·.data.toList)).getD 1 []), 0, 0, 0, 0, false⟩ := by
    unfold said
    rw [head_of, h1, if_neg (by decide), if_neg (by decide), if_neg (by decide), if_neg (by decide), if_neg (by decide), if_neg (by decide), if_neg (by decide), if_neg (by decide), if_neg (by decide), if_neg (by decide), if_pos rfl]
  rw [e]
  simp only [nn_said, last_said, toList_data, kV, Int.reduceEq, if_false, if_true]
theorem kv_none {hd : ByteArray} {tl : List ByteArray} (h1 : (hd.toList == [100, 101, 112, 111, 115, 105, 116]) = false) (h2 : (hd.toList == [111, 112, 101, 110]) = false) (h3 : (hd.toList == [99, 108, 111, 115, 101]) = false) (h4 : (hd.toList == [112, 114, 105, 99, 101]) = false) (h5 : (hd.toList == [97, 100, 109, 105, 116]) = false) (h6 : (hd.toList == [102, 117, 108, 102, 105, 108, 108]) = false) (h7 : (hd.toList == [102, 97, 105, 108]) = false) (h8 : (hd.toList == [116, 105, 99, 107]) = false) (h9 : (hd.toList == [108, 97, 117, 110, 99, 104]) = false) (h10 : (hd.toList == [97, 114, 114, 105, 118, 101]) = false) (h11 : (hd.toList == [108, 111, 115, 116]) = false) : Value.iface 67 (.agg #[]) = kV (said ((hd :: tl).map (·.data.toList))) := by
  unfold said
  rw [head_of, if_neg (list_no h1), if_neg (list_no h2), if_neg (list_no h3), if_neg (list_no h4), if_neg (list_no h5), if_neg (list_no h6), if_neg (list_no h7), if_neg (list_no h8), if_neg (list_no h9), if_neg (list_no h10), if_neg (list_no h11)]
  simp only [kV, Int.reduceEq, if_false]
set_option maxHeartbeats 8000000 in
theorem kind_a (b cap : Nat) (hd : ByteArray) (tl : List ByteArray) (w : World) (hcap : 1 < cap) (hcp : tl.length < cap) (hl : tl.length ≤ 6) (hw : Wds w b 0 (hd :: tl)) (hs : ∀ x ∈ (tl : List ByteArray), x.size ≤ 1048576) (he : Env w) :
    Calls Tryz.prog 12 #[.slice (some ⟨b, 0, none⟩) (tl.length + 1) cap] w fun e w' => e = .returned (kV (said ((hd :: tl).map (·.data.toList)))) ∧ Keeps w w' := by
  obtain ⟨V, hV⟩ : ∃ V, V = kV (said ((hd :: tl).map (·.data.toList))) := ⟨_, rfl⟩
  have HV := hide hV
  rw [← hV]
  clear hV
  have c0 := hw 0 (by simp)
  simp only [Nat.add_zero, List.getElem_cons_zero] at c0
  have HL := hide (hw tl.length (by simp))
  have HN := hide (numbers_k b 1 (cap - 1) tl w (fun i hi => by have := hw (i + 1) (by simp; omega); simpa [Nat.add_comm] using this) hs (by omega) he)
  
  clear hw hs he
  go_enter Tryz.func12, Tryz.ntmps12
  go_wp2_with fail
  refine HN.out.mono ?_
  rintro e w1 ⟨rfl, hk⟩
  replace c0 := hk.cell c0
  have cl := hk.cell HL.out
  rw [Nat.zero_add] at cl
  have lb := lt_of_cell c0
  have HK := hide (Keeps.trans hk (Keeps.alloc (Keeps.refl w1) (.cells #[.int .i64 (nn tl 0), .int .i64 (nn tl 1), .int .i64 (nn tl 2), .int .i64 (nn tl 3), .int .i64 (nn tl 4)] 46)))
  clear HN hk HL
  generalize hx : (hd :: tl)[tl.length]'(by simp) = x at cl
  have HX := hide hx
  clear hx
  go_wp2_with fail
  all_goals first
    | (go_ret; exact ⟨by rw [HV.out]; exact congrArg Ending.returned (kv_1 (by assumption)), HK.out⟩)
    | (go_ret; exact ⟨by rw [HV.out]; exact congrArg Ending.returned (kv_2 (by assumption)), HK.out⟩)
    | (go_ret; exact ⟨by rw [HV.out]; exact congrArg Ending.returned (kv_3 (by assumption)), HK.out⟩)
    | (go_ret; exact ⟨by rw [HV.out]; exact congrArg Ending.returned (kv_4 (by assumption)), HK.out⟩)
    | (go_ret; exact ⟨by rw [HV.out]; exact congrArg Ending.returned (kv_6 (by assumption)), HK.out⟩)
    | (go_ret; exact ⟨by rw [HV.out]; exact congrArg Ending.returned (kv_7 (by assumption)), HK.out⟩)
    | (go_ret; exact ⟨by rw [HV.out]; exact congrArg Ending.returned (kv_8 (by assumption)), HK.out⟩)
    | (go_ret; exact ⟨by rw [HV.out]; exact congrArg Ending.returned (kv_9 (by assumption)), HK.out⟩)
    | (go_ret; exact ⟨by rw [HV.out]; exact congrArg Ending.returned (kv_10 (by assumption)), HK.out⟩)
    | (go_ret; exact ⟨by rw [HV.out]; exact congrArg Ending.returned (kv_11 (by assumption)), HK.out⟩)
    | (go_ret; exact ⟨by rw [HV.out]; exact congrArg Ending.returned (kv_none (by assumption) (by assumption) (by assumption) (by assumption) (by assumption) (by assumption) (by assumption) (by assumption) (by assumption) (by assumption) (by assumption)), HK.out⟩)
    | skip
  go_quiet (fail)
  go_wp2_with fail
  go_ret
  have e5 := kv_5 (hd := hd) (tl := tl) (by assumption)
  rw [show (hd :: tl)[(tl : List ByteArray).length]'(by simp) = x from HX.out] at e5
  exact ⟨by rw [HV.out, ← e5]; first | rfl | (rw [← show hd = x from HX.out]; rfl), HK.out.drewN _⟩
set_option maxHeartbeats 8000000 in
theorem kind_b (b : Nat) (hd : ByteArray) (w : World) (hw : Wds w b 0 (hd :: [])) (hs : ∀ x ∈ ([] : List ByteArray), x.size ≤ 1048576) (he : Env w) :
    Calls Tryz.prog 12 #[.slice (some ⟨b, 0, none⟩) 1 1] w fun e w' => e = .returned (kV (said ((hd :: []).map (·.data.toList)))) ∧ Keeps w w' := by
  obtain ⟨V, hV⟩ : ∃ V, V = kV (said ((hd :: []).map (·.data.toList))) := ⟨_, rfl⟩
  have HV := hide hV
  rw [← hV]
  clear hV
  have c0 := hw 0 (by simp)
  simp only [Nat.add_zero, List.getElem_cons_zero] at c0
  have HL := hide (hw 0 (by simp))
  have HN := hide (numbers_k b 0 (0) [] w (fun i hi => by simp at hi) hs (by simp) he)
  rw [show ([] : List ByteArray).length = 0 from rfl] at HN
  clear hw hs he
  go_enter Tryz.func12, Tryz.ntmps12
  go_wp2_with fail
  refine HN.out.mono ?_
  rintro e w1 ⟨rfl, hk⟩
  replace c0 := hk.cell c0
  have cl := hk.cell HL.out
  rw [Nat.zero_add] at cl
  have lb := lt_of_cell c0
  have HK := hide (Keeps.trans hk (Keeps.alloc (Keeps.refl w1) (.cells #[.int .i64 (nn [] 0), .int .i64 (nn [] 1), .int .i64 (nn [] 2), .int .i64 (nn [] 3), .int .i64 (nn [] 4)] 46)))
  clear HN hk HL
  generalize hx : (hd :: [])[0]'(by simp) = x at cl
  have HX := hide hx
  clear hx
  go_wp2_with fail
  all_goals first
    | (go_ret; exact ⟨by rw [HV.out]; exact congrArg Ending.returned (kv_1 (by assumption)), HK.out⟩)
    | (go_ret; exact ⟨by rw [HV.out]; exact congrArg Ending.returned (kv_2 (by assumption)), HK.out⟩)
    | (go_ret; exact ⟨by rw [HV.out]; exact congrArg Ending.returned (kv_3 (by assumption)), HK.out⟩)
    | (go_ret; exact ⟨by rw [HV.out]; exact congrArg Ending.returned (kv_4 (by assumption)), HK.out⟩)
    | (go_ret; exact ⟨by rw [HV.out]; exact congrArg Ending.returned (kv_6 (by assumption)), HK.out⟩)
    | (go_ret; exact ⟨by rw [HV.out]; exact congrArg Ending.returned (kv_7 (by assumption)), HK.out⟩)
    | (go_ret; exact ⟨by rw [HV.out]; exact congrArg Ending.returned (kv_8 (by assumption)), HK.out⟩)
    | (go_ret; exact ⟨by rw [HV.out]; exact congrArg Ending.returned (kv_9 (by assumption)), HK.out⟩)
    | (go_ret; exact ⟨by rw [HV.out]; exact congrArg Ending.returned (kv_10 (by assumption)), HK.out⟩)
    | (go_ret; exact ⟨by rw [HV.out]; exact congrArg Ending.returned (kv_11 (by assumption)), HK.out⟩)
    | (go_ret; exact ⟨by rw [HV.out]; exact congrArg Ending.returned (kv_none (by assumption) (by assumption) (by assumption) (by assumption) (by assumption) (by assumption) (by assumption) (by assumption) (by assumption) (by assumption) (by assumption)), HK.out⟩)
    | skip
  go_quiet (fail)
  go_wp2_with fail
  go_ret
  have e5 := kv_5 (hd := hd) (tl := []) (by assumption)
  rw [show (hd :: [])[([] : List ByteArray).length]'(by simp) = x from HX.out] at e5
  exact ⟨by rw [HV.out, ← e5]; first | rfl | (rw [← show hd = x from HX.out]; rfl), HK.out.drewN _⟩
end Go.Proofs.YtmigcgpnkfjebaaGreatDoor
namespace Go.Proofs
open Go.Shelf
def Tryz.lays147_ren : Go.Shelf.Ren := ⟨fun | 147 => 13 | 221 => 18 | 268 => 21 | 138 => 22 | 143 => 23 | 195 => 26 | 197 => 27 | 218 => 28 | 219 => 29 | 260 => 32 | 217 => 33 | 225 => 34 | 224 => 35 | 267 => 36 | 266 => 40 | 314 => 41 | n => n, fun | 9 => 9 | 3 => 3 | 31 => 28 | 4 => 4 | 0 => 0 | 105 => 79 | 21 => 21 | 5 => 5 | 46 => 83 | 119 => 85 | 139 => 88 | 138 => 87 | 146 => 90 | 51 => 89 | n => n, fun | 1 => 1 | 3 => 2 | 4 => 3 | n => n⟩
theorem Tryz.lays147 : Go.Proofs.Lays.n147 Tryz.prog Tryz.lays147_ren := {
  mixed := by kernel_rfl
  f138 := Tryz.func22.trans (congrArg some (by kernel_rfl))
  f143 := Tryz.func23.trans (congrArg some (by kernel_rfl))
  f147 := Tryz.func13.trans (congrArg some (by kernel_rfl))
  f195 := Tryz.func26.trans (congrArg some (by kernel_rfl))
  f197 := Tryz.func27.trans (congrArg some (by kernel_rfl))
  f217 := Tryz.func33.trans (congrArg some (by kernel_rfl))
  f218 := Tryz.func28.trans (congrArg some (by kernel_rfl))
  f219 := Tryz.func29.trans (congrArg some (by kernel_rfl))
  f221 := Tryz.func18.trans (congrArg some (by kernel_rfl))
  f224 := Tryz.func35.trans (congrArg some (by kernel_rfl))
  f225 := Tryz.func34.trans (congrArg some (by kernel_rfl))
  f260 := Tryz.func32.trans (congrArg some (by kernel_rfl))
  f266 := Tryz.func40.trans (congrArg some (by kernel_rfl))
  f267 := Tryz.func36.trans (congrArg some (by kernel_rfl))
  f268 := Tryz.func21.trans (congrArg some (by kernel_rfl))
  f314 := Tryz.func41.trans (congrArg some (by kernel_rfl))
  t0 := Tryz.underlying0
  a0 := Tryz.isAgg0
  z0 := Tryz.sizeOf0
  v0 := Tryz.zeroValue0
  t3 := Tryz.underlying3
  a3 := Tryz.isAgg3
  z3 := Tryz.sizeOf3
  v3 := Tryz.zeroValue3
  t4 := Tryz.underlying4
  a4 := Tryz.isAgg4
  z4 := Tryz.sizeOf4
  v4 := Tryz.zeroValue4
  t5 := Tryz.underlying5
  a5 := Tryz.isAgg5
  z5 := Tryz.sizeOf5
  v5 := Tryz.zeroValue5
  t9 := Tryz.underlying9
  a9 := Tryz.isAgg9
  z9 := Tryz.sizeOf9
  v9 := Tryz.zeroValue9
  t21 := Tryz.underlying21
  a21 := Tryz.isAgg21
  z21 := Tryz.sizeOf21
  v21 := Tryz.zeroValue21
  t31 := Tryz.underlying28
  a31 := Tryz.isAgg28
  z31 := Tryz.sizeOf28
  v31 := Tryz.zeroValue28
  t46 := Tryz.underlying83
  a46 := Tryz.isAgg83
  z46 := Tryz.sizeOf83
  v46 := Tryz.zeroValue83
  t51 := Tryz.underlying89
  a51 := Tryz.isAgg89
  z51 := Tryz.sizeOf89
  v51 := Tryz.zeroValue89
  t105 := Tryz.underlying79
  a105 := Tryz.isAgg79
  z105 := Tryz.sizeOf79
  v105 := Tryz.zeroValue79
  t119 := Tryz.underlying85
  a119 := Tryz.isAgg85
  z119 := Tryz.sizeOf85
  t138 := Tryz.underlying87
  a138 := Tryz.isAgg87
  z138 := Tryz.sizeOf87
  v138 := Tryz.zeroValue87
  t139 := Tryz.underlying88
  a139 := Tryz.isAgg88
  z139 := Tryz.sizeOf88
  v139 := Tryz.zeroValue88
  t146 := Tryz.underlying90
  a146 := Tryz.isAgg90
  z146 := Tryz.sizeOf90
  v146 := Tryz.zeroValue90
  g1 := by kernel_rfl
  g3 := by kernel_rfl
  g4 := by kernel_rfl }
open Go.RowKit Go.Lib in
theorem Tryz.strings_SplitN (s sep : ByteArray) (n : Nat) (m : Int) (w : World) (hs : s.size < 4294967281) (hm : w.cell? ⟨1, 0, none⟩ = some (.int .i64 m)) (h1 : 1 ≤ sep.size) (hn : 1 ≤ n) (hn63 : n ≤ 9223372036854775807) :
    Calls Tryz.prog 13 #[.string s, .string sep, .int .i64 n] w fun e w' =>
      e = .returned (.slice (some ⟨w.heap.size, 0, none⟩) (Lib.splitB sep 0 (min n (s.size + 1) - 1) s).length (min n (s.size + 1))) ∧ w' = w.alloc (.cells (Lib.cellsOf (Lib.splitB sep 0 (min n (s.size + 1) - 1) s) (min n (s.size + 1))) 9) := Any.strings_SplitN Tryz.lays147 (by kernel_rfl) s sep n m w hs hm h1 hn hn63
end Go.Proofs
