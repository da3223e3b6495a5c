/- Texts of the verifier, joined: RpI, Kin, ShelfE. -/
import Derived.Test.YtkgpoghoilffhaaGreatDoorSC9
import Derived.Test.YtkgpoghoilffhaaGreatDoorSC2
import Derived.Shelf.Strings.Split
import Derived.Test.YtkgpoghoilffhaaGreatDoorProg
namespace Go.Proofs.YtkgpoghoilffhaaGreatDoor
open Go.RowKit Go.Deep
set_option linter.unusedVariables false
set_option linter.unusedSimpArgs false
set_option maxRecDepth 10000
open Classical in
noncomputable def okN (l : List UInt8) : Bool := decide (∃ n, l ≠ [] ∧ numT n = l)
open Classical in
theorem res_ok {l : List UInt8} {v : Int} {b : Bool} (h : Res l v b) : b = okN l := by
  unfold okN
  rcases h with ⟨rfl, h1, h2⟩ | ⟨rfl, _, h2⟩
  · exact (decide_eq_true ⟨v, h1, h2⟩).symm
  · exact (decide_eq_false (fun ⟨n, h1, h3⟩ => h2 n h1 h3)).symm
open Classical in
theorem okN_num {n : Int} (h : numT n ≠ []) : okN (numT n) = true := decide_eq_true ⟨n, h, rfl⟩
theorem textnum_b (s : ByteArray) (w : World) (hs : s.size ≤ 1048576) (h : Env w) :
    Calls Tryz.prog 46 #[.string s] w fun e w' => e = .returned (.tuple #[.int .i64 (txN s.data.toList), .bool (okN s.data.toList)]) ∧ Keeps w w' := by
  obtain ⟨ht, ⟨tS, pS, hS⟩, ⟨tR, pR, hR⟩, ⟨u1, x1, hg⟩⟩ := h
  refine (text_impl s w hs tS tR u1 pS pR x1 hS hR ht hg).mono ?_
  rintro e w' ⟨⟨v, b, hr, rfl⟩, hk⟩
  exact ⟨by rw [res_tx hr, res_ok hr], hk⟩
/-- What a list of parts says up to the first that is no number. -/
noncomputable def goodN (ws : List (List UInt8)) : List Int := (ws.takeWhile okN).map txN
theorem goodN_all {ws : List (List UInt8)} (h : ∀ x ∈ ws, okN x = true) : goodN ws = ws.map txN := by
  have := List.takeWhile_append_of_pos (l₂ := []) h
  simp at this
  unfold goodN
  rw [this]
theorem goodN_bad {ws r : List (List UInt8)} {x : List UInt8} (h : ∀ y ∈ ws, okN y = true) (hx : okN x = false) : goodN (ws ++ x :: r) = ws.map txN := by
  unfold goodN
  rw [List.takeWhile_append_of_pos h, List.takeWhile_cons_of_neg (by simp [hx]), List.append_nil]
theorem sb_extract (s : ByteArray) (a b : Nat) : (s.extract a b).data.toList = (s.data.toList.take b).drop a := by
  rw [ByteArray.data_extract]
  simp [Array.toList_extract, List.drop_take]
theorem owns_base {w : World} {base base' : Nat} {v : Value} {L : List Int} (h : OwnsI w base v L) (hb : base' ≤ base) : OwnsI w base' v L := by
  refine ⟨h.1, ?_⟩
  rcases h.2 with h | ⟨g, c, cu, rfl, hg, hc⟩
  · exact Or.inl h
  · exact Or.inr ⟨g, c, cu, rfl, by omega, hc⟩
theorem owns_iter {w : World} {base h : Nat} {v : Value} {L : List Int} (s : ByteArray) (p : Nat) (ho : OwnsI w base v L) (hb : h < base) : OwnsI (iterTo w h s p) base v L := by
  refine ⟨ho.1, ?_⟩
  rcases ho.2 with ho | ⟨g, c, cu, rfl, hg, hc, rest⟩
  · exact Or.inl ho
  · refine Or.inr ⟨g, c, cu, rfl, hg, ?_, rest⟩
    have hlt := (Array.getElem?_eq_some_iff.1 hc).1
    rw [(iterTo_turn w h s p).block g hlt (by simp; omega)]; exact hc
theorem owns_keepI {w w' : World} {base : Nat} {v : Value} {L : List Int} (ho : OwnsI w base v L) (hk : Keeps w w') : OwnsI w' base v L := by
  refine ⟨ho.1, ?_⟩
  rcases ho.2 with ho | ⟨g, c, cu, rfl, hg, hc, rest⟩
  · exact Or.inl ho
  · exact Or.inr ⟨g, c, cu, rfl, hg, by rw [Below.block hk g (Array.getElem?_eq_some_iff.1 hc).1]; exact hc, rest⟩
theorem owns_shape {w : World} {base : Nat} {v : Value} {L : List Int} (ho : OwnsI w base v L) : ∃ a cap, v = .slice a L.length cap ∧ (a = none → L = []) := by
  rcases ho.2 with ⟨rfl, h0⟩ | ⟨g, c, cu, rfl, _⟩
  · exact ⟨none, 0, by rw [h0], fun _ => List.length_eq_zero_iff.1 h0⟩
  · exact ⟨_, _, rfl, fun e => nomatch e⟩
theorem owns_zero (w : World) (base : Nat) : OwnsI w base (.slice none 0 0) [] := ⟨by simp [its], .inl ⟨rfl, rfl⟩⟩
theorem turn_keeps {w W0 w' : World} {fs : List Nat} (h0 : Keeps w W0) (ht : Turn fs W0 w') (hf : ∀ b ∈ fs, w.heap.size ≤ b) : Keeps w w' := ht.keeps h0 hf
theorem turn_grown {fs : List Nat} {W0 wr w' : World} {row : Option Nat} (ht : Turn fs W0 wr) (hg : wr.grownBy w' row) (hr : ∀ k, row = some k → W0.heap.size ≤ k) : Turn fs W0 w' := by
  obtain ⟨g1, g2, g3, g4, g5⟩ := hg
  refine ⟨g1.trans ht.os, g2.trans ht.tape, g3.trans ht.output, Nat.le_trans ht.size g4, fun k hk hn => ?_⟩
  rw [g5 k (Nat.lt_of_lt_of_le hk ht.size) (fun e => by have := hr k e.symm; omega)]
  exact ht.block k hk hn
theorem block_grown {wr w' : World} {row : Option Nat} {h : Nat} {o : Obj} (hi : wr.heap[h]? = some o) (hg : wr.grownBy w' row) (hr : ∀ k, row = some k → h < k) : w'.heap[h]? = some o := by
  obtain ⟨g1, g2, g3, g4, g5⟩ := hg
  rw [g5 h (iter_lt hi) (fun e => by have := hr h e.symm; omega)]
  exact hi
theorem iterPos_of {w : World} {h : Nat} {s : ByteArray} {p : Nat} (hi : w.heap[h]? = some (.stringIter s p)) : w.iterPos h = p := by simp [World.iterPos, hi]
theorem owns_from {w : World} {base : Nat} {v : Value} {L : List Int} (h : OwnsI w base v L) : ∀ k, v.ownBlock = some k → base ≤ k := fun k hk => (h.lt k hk).1
/-- A text with a byte behind it. -/
theorem ended_list (s : ByteArray) (c : UInt8) : (s ++ ⟨#[c]⟩).data.toList = s.data.toList ++ [c] := by simp [ByteArray.data_append]
theorem ended_size (s : ByteArray) (c : UInt8) : (s ++ ⟨#[c]⟩).size = s.size + 1 := by
  rw [ByteArray.size_append]; rfl
set_option maxRecDepth 100000 in
set_option maxHeartbeats 4000000 in
theorem rp_int (s : ByteArray) (w : World) (hs : s.size ≤ 1048576) (he : Env w) :
    Calls Tryz.prog 45 #[.string s, .int .i32 32, .func (Fn.func 46) #[] #[]] w fun e w' => ∃ v k, e = .returned (.tuple #[v, .int .i64 k]) ∧ OwnsI w' w.heap.size v (goodN (partsE 32 (s.data.toList ++ [32]))) ∧ Keeps w w' := by
  have HE := hide he
  clear he
  have hen : Utf8.encode 32 = ⟨#[32]⟩ := by rfl
  have HM := hide (ended_list s 32)
  have HMS := hide (ended_size s 32)
  have hov : ¬ (9223372036854775807 : Int) < (s ++ (⟨#[32]⟩ : ByteArray)).size := by have := HMS.out; omega
  have HKI : Hid (Keeps w (w.iter (s ++ ⟨#[32]⟩) 0)) := Keeps.alloc (Keeps.refl w) _
  have HII := hide (World.iter_heap w (s ++ ⟨#[32]⟩) 0)
  have HSI : Hid ((w.iter (s ++ ⟨#[32]⟩) 0).heap.size = w.heap.size + 1) := by show _ = _; simp [World.iter]
  go_enter Tryz.func45, Tryz.ntmps45
  go_wp2_with fail
  generalize (s ++ (⟨#[32]⟩ : ByteArray)) = SE at *
  generalize w.iter SE 0 = W0 at *
  clear hen hov
  go_loopw [8, 10] (fun v fr wr => ∃ (p frm : Nat) (ws : List (List UInt8)), p ≤ SE.size ∧ fr = .int .i64 (frm : Int) ∧ Hid (OwnsI wr (w.heap.size + 1) v (ws.map txN)) ∧ Hid (AtE 32 (s.data.toList ++ [32]) p frm ws) ∧ Hid (∀ x ∈ ws, okN x = true) ∧ Hid (wr.heap[w.heap.size]? = some (.stringIter SE p)) ∧ Hid (Turn [w.heap.size] W0 wr) ∧ Hid (2 * ws.length ≤ frm)) (fun _ _ wr => SE.size - wr.iterPos w.heap.size)
  case atStart => exact ⟨0, 0, [], by omega, rfl, owns_zero _ _, AtE.start _ _, by show ∀ x ∈ [], _; simp, HII, Turn.refl _ _, Nat.le_refl 0⟩
  case round =>
    clear HII
    obtain ⟨p, frm, ws, hp, rfl, HO, HA, HG, HI, HT, HL⟩ := hrel
    by_cases hlt : p < SE.size
    · have hle := HA.out.le
      have hnx := fun ty => run_next_at (P := Tryz.prog) wr w.heap.size SE p ty HI.out hlt
      have HI2 := hide (iterTo_at (w := wr) SE (p + (Utf8.decode SE p).2) (iter_lt HI.out))
      have HT2 := hide ((HT.out.trans' (iterTo_turn wr w.heap.size SE (p + (Utf8.decode SE p).2))))
      have HO2 := hide (owns_iter SE (p + (Utf8.decode SE p).2) HO.out (Nat.lt_succ_self w.heap.size))
      have HP := hide (iterPos_of HI.out)
      by_cases ha : (SE[p]'hlt).toNat < 128
      · rw [decode_ascii SE p hlt ha] at hnx HI2 HT2 HO2
        generalize iterTo wr w.heap.size SE (p + 1) = wr2 at *
        have HK2 := hide (turn_keeps HKI.out HT2.out (by simp))
        have hM : SE.data.toList = s.data.toList ++ [32] := HM.out
        have hpb : p + 1 ≤ 1048577 := by have := HMS.out; omega
        by_cases hb : (SE[p]'hlt).toNat = 32
        · have HA2 := hide (HA.out.hit (i := p) (by rw [← hM, getB_at SE p hlt, (show (SE[p]'hlt) = (32 : UInt8) from UInt8.toNat_inj.1 hb)]))
          have HQ := hide (textnum_b (SE.extract frm p) wr2 (by rw [ByteArray.size_extract]; have := HMS.out; omega) (HE.out.kept HK2.out))
          rw [sb_extract, hM] at HQ
          rw [hb] at hnx
          have hx0 : frm = p → ((s.data.toList ++ [32]).take p).drop frm = [] := by
            intro e
            subst e
            simp
          have HX0 := hide hx0
          clear hM hb ha HO HI HT HA hx0
          generalize ((s.data.toList ++ [32]).take p).drop frm = x at *
          have hlp : frm ≤ p ∧ p ≤ SE.size := by omega
          go_wp2_with fail
          refine (unhide HQ).mono ?_
          rintro e w3 ⟨rfl, hk3⟩
          clear hnx HQ
          have HT3 := hide (HT2.out.trans' (Turn.of_keeps hk3 _))
          have HI3 : Hid (w3.heap[w.heap.size]? = some (.stringIter SE (p + 1))) := by show _ = _; rw [Below.block hk3 _ (iter_lt HI2.out)]; exact HI2.out
          have HO3 := hide (owns_keepI HO2.out hk3)
          have HK3 := hide (HK2.out.trans hk3)
          clear hk3 HT2 HI2 HO2 HK2
          cases hok : okN x
          · have HX := hide hok
            clear hok
            obtain ⟨va, vc, rfl, _⟩ := owns_shape HO3.out
            have hlen : (((ws.map txN).length : Nat) : Int) + 1 ≤ 9223372036854775807 := by have := HL.out; simp; omega
            go_wp2_with fail
            go_ret2
            refine ⟨_, _, rfl, ?_, HK3.out⟩
            have h1 := HA2.out.done
            rw [h1, List.append_assoc]
            show OwnsI _ _ _ (goodN (ws ++ x :: _))
            rw [goodN_bad HG.out HX.out]
            have hO := owns_base HO3.out (Nat.le_succ w.heap.size)
            rw [List.length_map] at hO
            exact hO
          · have HX := hide hok
            have HX1 : Hid (frm < p) := by
              rcases Nat.lt_or_ge frm p with h1 | h1
              · exact h1
              · exfalso
                have h2 := HX0.out (by omega)
                subst h2
                unfold okN at hok
                simp at hok
            clear hok
            have HC4 : Hid (∀ j u, (its [txN x])[j]? = some u → (w3.alloc (.cells #[.int .i64 (txN x)] 3)).cell? ((⟨w3.heap.size, 0, none⟩ : Addr).add j) = some u) := by
              intro j u hj
              match j, hj with
              | 0, hj => simp [its] at hj; subst hj; simp [Addr.add]
              | n + 1, hj => simp [its] at hj
            have HO4 := hide (owns_keepI HO3.out (Keeps.alloc (Keeps.refl w3) (.cells #[.int .i64 (txN x)] 3)))
            have HT4 := hide (HT3.out.trans' (Turn.of_keeps (Keeps.alloc (Keeps.refl w3) (.cells #[.int .i64 (txN x)] 3)) _))
            have HI4 : Hid ((w3.alloc (.cells #[.int .i64 (txN x)] 3)).heap[w.heap.size]? = some (.stringIter SE (p + 1))) := by show _ = _; rw [Below.block (Keeps.alloc (Keeps.refl w3) (.cells #[.int .i64 (txN x)] 3)) _ (iter_lt HI3.out)]; exact HI3.out
            have HB4 : Hid (w.heap.size + 1 ≤ (w3.alloc (.cells #[.int .i64 (txN x)] 3)).heap.size) := by have h1 := iter_lt HI3.out; show _ ≤ _; simp; omega
            have HLn : Hid ((ws.map txN).length + [txN x].length ≤ 1048576) := by have := HL.out; show _ ≤ _; simp; omega
            have HF := hide (owns_from HO4.out)
            go_wp2_with (at_builtin; refine app_its rfl (.tmp 43) (.tmp 45) rfl (w.heap.size + 1) _ (ws.map txN) [txN x] rfl ⟨w3.heap.size, 0, none⟩ 1 rfl HC4.out HO4.out HLn.out HB4.out ?_; intro v' w' ho hg hne)
            have HT5 := hide (turn_grown HT4.out hg (fun k hk => by have := HF.out k hk; have := HSI.out; omega))
            have HI5 := hide (block_grown HI4.out hg (fun k hk => by have := HF.out k hk; omega))
            go_roundw
            case rel => exact ⟨p + 1, p + 1, ws ++ [x], by omega, by go_num, by show OwnsI _ _ _ _; rw [List.map_append]; exact ho, HA2, by
                          show ∀ y ∈ ws ++ [x], _
                          intro y hy
                          rcases List.mem_append.1 hy with hy | hy
                          · exact HG.out y hy
                          · rw [List.mem_singleton.1 hy]; exact HX.out, HI5, HT5, by have := HL.out; have := HX1.out; show _ ≤ _; simp; omega⟩
            case measure => rw [iterPos_of HI5.out, HP.out]; omega
        · have hne : (((SE[p]'hlt).toNat : Int) != 32) = true := by simp; omega
          have HA2 := hide (HA.out.skip 1 (fun j h1 h2 => by
            obtain rfl : j = p := by omega
            rw [← hM, getB_at SE j hlt]
            intro e
            exact hb (by rw [Option.some.inj e]; rfl)))
          clear hM HO HI HT HA hb
          generalize (SE[p]'hlt).toNat = r at *
          go_wp2_with fail
          go_roundw
          case rel => exact ⟨p + 1, frm, ws, by omega, rfl, HO2, HA2, HG, HI2, HT2, HL⟩
          case measure => rw [iterPos_of HI2.out, HP.out]; omega
      · obtain ⟨hn1, hn2, hn3⟩ := decode_wide SE p hlt (by omega)
        have hr := (decode_high SE p hlt (by omega)).1
        have hM : SE.data.toList = s.data.toList ++ [32] := HM.out
        have HA2 := hide (HA.out.skip (Utf8.decode SE p).2 (fun j h1 h2 => by
          have hj : j < SE.size := by omega
          rw [← hM, getB_at SE j hj]
          intro e
          have h3 := hn3 j h1 h2 hj
          rw [Option.some.inj e] at h3
          exact absurd h3 (by decide)))
        clear hM HO HI HT HA hn3 ha
        generalize (Utf8.decode SE p).2 = n at *
        generalize (Utf8.decode SE p).1 = r at *
        generalize iterTo wr w.heap.size SE (p + n) = wr2 at *
        have hne : ((r : Int) != 32) = true := by simp; omega
        go_wp2_with fail
        go_roundw
        case rel => exact ⟨p + n, frm, ws, by omega, rfl, HO2, HA2, HG, HI2, HT2, HL⟩
        case measure => rw [iterPos_of HI2.out, HP.out]; omega
    · have hnx := fun ty => run_next_done (P := Tryz.prog) wr w.heap.size SE p ty HI.out hlt
      have HK2 := hide (turn_keeps HKI.out HT.out (by simp))
      have HD : Hid (partsE 32 (s.data.toList ++ [32]) = ws) := HA.out.fin (by have := HMS.out; simp; omega)
      have HO2 := hide (owns_base HO.out (Nat.le_succ w.heap.size))
      obtain ⟨va, vc, rfl, _⟩ := owns_shape HO2.out
      go_wp2_with fail
      go_ret2
      refine ⟨_, _, rfl, ?_, HK2.out⟩
      rw [HD.out, goodN_all HG.out]
      exact HO2.out
end Go.Proofs.YtkgpoghoilffhaaGreatDoor
namespace Go.Proofs.YtkgpoghoilffhaaGreatDoor
open Go.RowKit Go.Deep
set_option linter.unusedVariables false
set_option linter.unusedSimpArgs false
set_option maxRecDepth 10000
/-- The kind's value of an event. -/
def kV (E : Ev) : Value :=
  if E.k = 1 then .iface 110 (.agg #[.int .i64 E.m])
  else if E.k = 2 then .iface 112 (.agg #[.int .i64 E.c, .int .i64 E.m, .int .i64 E.f])
  else if E.k = 3 then .iface 114 (.agg #[.int .i64 E.c, .int .i64 E.f])
  else if E.k = 4 then .iface 116 (.agg #[.int .i64 E.c, .int .i64 E.m, .int .i64 E.f])
  else if E.k = 5 then .iface 118 (.agg #[.int .i64 E.y, .int .i64 E.c, .int .i64 E.t, .int .i64 E.m, .bool E.b])
  else if E.k = 6 then .iface 120 (.agg #[.int .i64 E.y])
  else if E.k = 7 then .iface 121 (.agg #[.int .i64 E.y])
  else if E.k = 8 then .iface 123 (.agg #[])
  else if E.k = 9 then .iface 125 (.agg #[.int .i64 E.y, .int .i64 E.c, .int .i64 E.t, .int .i64 E.m, .int .i64 E.f])
  else if E.k = 10 then .iface 126 (.agg #[.int .i64 E.y])
  else if E.k = 11 then .iface 127 (.agg #[.int .i64 E.y])
  else .iface 128 (.agg #[])
theorem nn_tx (ws : List ByteArray) (i : Nat) : nn ws i = txN ((ws.map (·.data.toList)).getD i []) := by
  unfold nn
  split
  · next h => rw [List.getD_eq_getElem?_getD]; simp [h]
  · next h => rw [List.getD_eq_getElem?_getD, List.getElem?_eq_none (by simpa using h)]; exact tx_nil.symm
theorem nn_said (hd : ByteArray) (tl : List ByteArray) (i : Nat) : txN (((hd :: tl).map (·.data.toList)).getD (i + 1) []) = nn tl i := by
  rw [nn_tx]; rfl
theorem last_said (hd : ByteArray) (tl : List ByteArray) : ((hd :: tl).map (·.data.toList)).getLastD [] = ((hd :: tl)[tl.length]'(by simp)).data.toList := by
  rw [List.getLastD_eq_getLast?, List.getLast?_eq_getElem?, List.getElem?_map]
  simp only [List.length_map, List.length_cons, Nat.add_sub_cancel]
  rw [List.getElem?_eq_getElem (by simp)]
  rfl
theorem list_yes {x : ByteArray} {l : List UInt8} (h : (x.toList == l) = true) : x.data.toList = l := by
  rw [← toList_data]; exact eq_of_beq h
theorem list_no {x : ByteArray} {l : List UInt8} (h : (x.toList == l) = false) : x.data.toList ≠ l := by
  rw [← toList_data]; intro e; rw [e] at h; simp at h
theorem head_of (hd : ByteArray) (tl : List ByteArray) : ((hd :: tl).map (·.data.toList)).headD [] = hd.data.toList := rfl
theorem kv_1 {hd : ByteArray} {tl : List ByteArray} (h : (hd.toList == [100, 101, 112, 111, 115, 105, 116]) = true) : Value.iface 110 (.agg #[.int .i64 (nn tl 0)]) = kV (said ((hd :: tl).map (·.data.toList))) := by
  have h1 := list_yes h
  have e : said ((hd :: tl).map (·.data.toList)) = ⟨1, 0, 0, 0, txN (((hd :: tl).map (·.data.toList)).getD 1 []), 0, false⟩ := by
    unfold said
    rw [head_of, h1, if_pos rfl]
  rw [e]
  simp only [nn_said, last_said, toList_data, kV, Int.reduceEq, if_false, if_true]
theorem kv_2 {hd : ByteArray} {tl : List ByteArray} (h : (hd.toList == [111, 112, 101, 110]) = true) : Value.iface 112 (.agg #[.int .i64 (nn tl 0), .int .i64 (nn tl 1), .int .i64 (nn tl 2)]) = kV (said ((hd :: tl).map (·.data.toList))) := by
  have h1 := list_yes h
  have e : said ((hd :: tl).map (·.data.toList)) = ⟨2, 0, txN (((hd :: tl).map (·.data.toList)).getD 1 []), 0, txN (((hd :: tl).map (·.data.toList)).getD 2 []), txN (((hd :: tl).map (·.data.toList)).getD 3 []), false⟩ := by
    unfold said
    rw [head_of, h1, if_neg (by decide), if_pos rfl]
  rw [e]
  simp only [nn_said, last_said, toList_data, kV, Int.reduceEq, if_false, if_true]
theorem kv_3 {hd : ByteArray} {tl : List ByteArray} (h : (hd.toList == [99, 108, 111, 115, 101]) = true) : Value.iface 114 (.agg #[.int .i64 (nn tl 0), .int .i64 (nn tl 1)]) = kV (said ((hd :: tl).map (·.data.toList))) := by
  have h1 := list_yes h
  have e : said ((hd :: tl).map (·.data.toList)) = ⟨3, 0, txN (((hd :: tl).map (·.data.toList)).getD 1 []), 0, 0, txN (((hd :: tl).map (·.data.toList)).getD 2 []), false⟩ := by
    unfold said
    rw [head_of, h1, if_neg (by decide), if_neg (by decide), if_pos rfl]
  rw [e]
  simp only [nn_said, last_said, toList_data, kV, Int.reduceEq, if_false, if_true]
theorem kv_4 {hd : ByteArray} {tl : List ByteArray} (h : (hd.toList == [112, 114, 105, 99, 101]) = true) : Value.iface 116 (.agg #[.int .i64 (nn tl 0), .int .i64 (nn tl 1), .int .i64 (nn tl 2)]) = kV (said ((hd :: tl).map (·.data.toList))) := by
  have h1 := list_yes h
  have e : said ((hd :: tl).map (·.data.toList)) = ⟨4, 0, txN (((hd :: tl).map (·.data.toList)).getD 1 []), 0, txN (((hd :: tl).map (·.data.toList)).getD 2 []), txN (((hd :: tl).map (·.data.toList)).getD 3 []), false⟩ := by
    unfold said
    rw [head_of, h1, if_neg (by decide), if_neg (by decide), if_neg (by decide), if_pos rfl]
  rw [e]
  simp only [nn_said, last_said, toList_data, kV, Int.reduceEq, if_false, if_true]
theorem kv_5 {hd : ByteArray} {tl : List ByteArray} (h : (hd.toList == [97, 100, 109, 105, 116]) = true) : Value.iface 118 (.agg #[.int .i64 (nn tl 0), .int .i64 (nn tl 1), .int .i64 (nn tl 2), .int .i64 (nn tl 3), .bool (((hd :: tl)[tl.length]'(by simp)).toList == [121, 101, 115])]) = kV (said ((hd :: tl).map (·.data.toList))) := by
  have h1 := list_yes h
  have e : said ((hd :: tl).map (·.data.toList)) = ⟨5, txN (((hd :: tl).map (·.data.toList)).getD 1 []), txN (((hd :: tl).map (·.data.toList)).getD 2 []), txN (((hd :: tl).map (·.data.toList)).getD 3 []), txN (((hd :: tl).map (·.data.toList)).getD 4 []), 0, (((hd :: tl).map (·.data.toList)).getLastD [] == [121, 101, 115])⟩ := by
    unfold said
    rw [head_of, h1, if_neg (by decide), if_neg (by decide), if_neg (by decide), if_neg (by decide), if_pos rfl]
  rw [e]
  simp only [nn_said, last_said, toList_data, kV, Int.reduceEq, if_false, if_true]
theorem kv_6 {hd : ByteArray} {tl : List ByteArray} (h : (hd.toList == [102, 117, 108, 102, 105, 108, 108]) = true) : Value.iface 120 (.agg #[.int .i64 (nn tl 0)]) = kV (said ((hd :: tl).map (·.data.toList))) := by
  have h1 := list_yes h
  have e : said ((hd :: tl).map (·.data.toList)) = ⟨6, txN (((hd :: tl).map (·.data.toList)).getD 1 []), 0, 0, 0, 0, false⟩ := by
    unfold said
    rw [head_of, h1, if_neg (by decide), if_neg (by decide), if_neg (by decide), if_neg (by decide), if_neg (by decide), if_pos rfl]
  rw [e]
  simp only [nn_said, last_said, toList_data, kV, Int.reduceEq, if_false, if_true]
theorem kv_7 {hd : ByteArray} {tl : List ByteArray} (h : (hd.toList == [102, 97, 105, 108]) = true) : Value.iface 121 (.agg #[.int .i64 (nn tl 0)]) = kV (said ((hd :: tl).map (·.data.toList))) := by
  have h1 := list_yes h
  have e : said ((hd :: tl).map (·.data.toList)) = ⟨7, txN (((hd :: tl).map (·.data.toList)).getD 1 []), 0, 0, 0, 0, false⟩ := by
    unfold said
    rw [head_of, h1, if_neg (by decide), if_neg (by decide), if_neg (by decide), if_neg (by decide), if_neg (by decide), if_neg (by decide), if_pos rfl]
  rw [e]
  simp only [nn_said, last_said, toList_data, kV, Int.reduceEq, if_false, if_true]
theorem kv_8 {hd : ByteArray} {tl : List ByteArray} (h : (hd.toList == [116, 105, 99, 107]) = true) : Value.iface 123 (.agg #[]) = kV (said ((hd :: tl).map (·.data.toList))) := by
  have h1 := list_yes h
  have e : said ((hd :: tl).map (·.data.toList)) = ⟨8, 0, 0, 0, 0, 0, false⟩ := by
    unfold said
    rw [head_of, h1, if_neg (by decide), if_neg (by decide), if_neg (by decide), if_neg (by decide), if_neg (by decide), if_neg (by decide), if_neg (by decide), if_pos rfl]
  rw [e]
  simp only [nn_said, last_said, toList_data, kV, Int.reduceEq, if_false, if_true]
theorem kv_9 {hd : ByteArray} {tl : List ByteArray} (h : (hd.toList == [108, 97, 117, 110, 99, 104]) = true) : Value.iface 125 (.agg #[.int .i64 (nn tl 0), .int .i64 (nn tl 1), .int .i64 (nn tl 2), .int .i64 (nn tl 3), .int .i64 (nn tl 4)]) = kV (said ((hd :: tl).map (·.data.toList))) := by
  have h1 := list_yes h
  have e : said ((hd :: tl).map (·.data.toList)) = ⟨9, txN (((hd :: tl).map (·.data.toList)).getD 1 []), txN (((hd :: tl).map (·.data.toList)).getD 2 []), txN (((hd :: tl).map (·.data.toList)).getD 3 []), txN (((hd :: tl).map (·.data.toList)).getD 4 []), txN (((hd :: tl).map (·.data.toList)).getD 5 []), false⟩ := by
    unfold said
    rw [head_of, h1, if_neg (by decide), if_neg (by decide), if_neg (by decide), if_neg (by decide), if_neg (by decide), if_neg (by decide), if_neg (by decide), if_neg (by decide), if_pos rfl]
  rw [e]
  simp only [nn_said, last_said, toList_data, kV, Int.reduceEq, if_false, if_true]
theorem kv_10 {hd : ByteArray} {tl : List ByteArray} (h : (hd.toList == [97, 114, 114, 105, 118, 101]) = true) : Value.iface 126 (.agg #[.int .i64 (nn tl 0)]) = kV (said ((hd :: tl).map (·.data.toList))) := by
  have h1 := list_yes h
  have e : said ((hd :: tl).map (·.data.toList)) = ⟨10, txN (((hd :: tl).map (·.data.toList)).getD 1 []), 0, 0, 0, 0, false⟩ := by
    unfold said
    rw [head_of, h1, if_neg (by decide), if_neg (by decide), if_neg (by decide), if_neg (by decide), if_neg (by decide), if_neg (by decide), if_neg (by decide), if_neg (by decide), if_neg (by decide), if_pos rfl]
  rw [e]
  simp only [nn_said, last_said, toList_data, kV, Int.reduceEq, if_false, if_true]
theorem kv_11 {hd : ByteArray} {tl : List ByteArray} (h : (hd.toList == [108, 111, 115, 116]) = true) : Value.iface 127 (.agg #[.int .i64 (nn tl 0)]) = kV (said ((hd :: tl).map (·.data.toList))) := by
  have h1 := list_yes h
  have e : said ((hd :: tl).map (·.data.toList)) = ⟨11, txN (((hd :: tl).map (·.data.toList)).getD 1 []), 0, 0, 0, 0, false⟩ := by
    unfold said
    rw [head_of, h1, if_neg (by decide), if_neg (by decide), if_neg (by decide), if_neg (by decide), if_neg (by decide), if_neg (by decide), if_neg (by decide), if_neg (by decide), if_neg (by decide), if_neg (by decide), if_pos rfl]
  rw [e]
  simp only [nn_said, last_said, toList_data, kV, Int.reduceEq, if_false, if_true]
theorem kv_none {hd : ByteArray} {tl : List ByteArray} (h1 : (hd.toList == [100, 101, 112, 111, 115, 105, 116]) = false) (h2 : (hd.toList == [111, 112, 101, 110]) = false) (h3 : (hd.toList == [99, 108, 111, 115, 101]) = false) (h4 : (hd.toList == [112, 114, 105, 99, 101]) = false) (h5 : (hd.toList == [97, 100, 109, 105, 116]) = false) (h6 : (hd.toList == [102, 117, 108, 102, 105, 108, 108]) = false) (h7 : (hd.toList == [102, 97, 105, 108]) = false) (h8 : (hd.toList == [116, 105, 99, 107]) = false) (h9 : (hd.toList == [108, 97, 117, 110, 99, 104]) = false) (h10 : (hd.toList == [97, 114, 114, 105, 118, 101]) = false) (h11 : (hd.toList == [108, 111, 115, 116]) = false) : Value.iface 128 (.agg #[]) = kV (said ((hd :: tl).map (·.data.toList))) := by
  unfold said
  rw [head_of, if_neg (list_no h1), if_neg (list_no h2), if_neg (list_no h3), if_neg (list_no h4), if_neg (list_no h5), if_neg (list_no h6), if_neg (list_no h7), if_neg (list_no h8), if_neg (list_no h9), if_neg (list_no h10), if_neg (list_no h11)]
  simp only [kV, Int.reduceEq, if_false]
set_option maxHeartbeats 8000000 in
theorem kind_a (b cap : Nat) (hd : ByteArray) (tl : List ByteArray) (w : World) (hcap : 1 < cap) (hcp : tl.length < cap) (hl : tl.length ≤ 6) (hw : Wds w b 0 (hd :: tl)) (hs : ∀ x ∈ (tl : List ByteArray), x.size ≤ 1048576) (he : Env w) :
    Calls Tryz.prog 73 #[.slice (some ⟨b, 0, none⟩) (tl.length + 1) cap] w fun e w' => e = .returned (kV (said ((hd :: tl).map (·.data.toList)))) ∧ Keeps w w' := by
  obtain ⟨V, hV⟩ : ∃ V, V = kV (said ((hd :: tl).map (·.data.toList))) := ⟨_, rfl⟩
  have HV := hide hV
  rw [← hV]
  clear hV
  have c0 := hw 0 (by simp)
  simp only [Nat.add_zero, List.getElem_cons_zero] at c0
  have HL := hide (hw tl.length (by simp))
  have HN := hide (numbers_k b 1 (cap - 1) tl w (fun i hi => by have := hw (i + 1) (by simp; omega); simpa [Nat.add_comm] using this) hs (by omega) he)
  
  clear hw hs he
  go_enter Tryz.func73, Tryz.ntmps73
  go_wp2_with fail
  refine HN.out.mono ?_
  rintro e w1 ⟨rfl, hk⟩
  replace c0 := hk.cell c0
  have cl := hk.cell HL.out
  rw [Nat.zero_add] at cl
  have lb := lt_of_cell c0
  have HK := hide (Keeps.trans hk (Keeps.alloc (Keeps.refl w1) (.cells #[.int .i64 (nn tl 0), .int .i64 (nn tl 1), .int .i64 (nn tl 2), .int .i64 (nn tl 3), .int .i64 (nn tl 4)] 139)))
  clear HN hk HL
  generalize hx : (hd :: tl)[tl.length]'(by simp) = x at cl
  have HX := hide hx
  clear hx
  go_wp2_with fail
  all_goals first
    | (go_ret; exact ⟨by rw [HV.out]; exact congrArg Ending.returned (kv_1 (by assumption)), HK.out⟩)
    | (go_ret; exact ⟨by rw [HV.out]; exact congrArg Ending.returned (kv_2 (by assumption)), HK.out⟩)
    | (go_ret; exact ⟨by rw [HV.out]; exact congrArg Ending.returned (kv_3 (by assumption)), HK.out⟩)
    | (go_ret; exact ⟨by rw [HV.out]; exact congrArg Ending.returned (kv_4 (by assumption)), HK.out⟩)
    | (go_ret; exact ⟨by rw [HV.out]; exact congrArg Ending.returned (kv_6 (by assumption)), HK.out⟩)
    | (go_ret; exact ⟨by rw [HV.out]; exact congrArg Ending.returned (kv_7 (by assumption)), HK.out⟩)
    | (go_ret; exact ⟨by rw [HV.out]; exact congrArg Ending.returned (kv_8 (by assumption)), HK.out⟩)
    | (go_ret; exact ⟨by rw [HV.out]; exact congrArg Ending.returned (kv_9 (by assumption)), HK.out⟩)
    | (go_ret; exact ⟨by rw [HV.out]; exact congrArg Ending.returned (kv_10 (by assumption)), HK.out⟩)
    | (go_ret; exact ⟨by rw [HV.out]; exact congrArg Ending.returned (kv_11 (by assumption)), HK.out⟩)
    | (go_ret; exact ⟨by rw [HV.out]; exact congrArg Ending.returned (kv_none (by assumption) (by assumption) (by assumption) (by assumption) (by assumption) (by assumption) (by assumption) (by assumption) (by assumption) (by assumption) (by assumption)), HK.out⟩)
    | skip
  go_quiet (fail)
  go_wp2_with fail
  go_ret
  have e5 := kv_5 (hd := hd) (tl := tl) (by assumption)
  rw [show (hd :: tl)[(tl : List ByteArray).length]'(by simp) = x from HX.out] at e5
  exact ⟨by rw [HV.out, ← e5]; first | rfl | (rw [← show hd = x from HX.out]; rfl), HK.out.drewN _⟩
set_option maxHeartbeats 8000000 in
theorem kind_b (b : Nat) (hd : ByteArray) (w : World) (hw : Wds w b 0 (hd :: [])) (hs : ∀ x ∈ ([] : List ByteArray), x.size ≤ 1048576) (he : Env w) :
    Calls Tryz.prog 73 #[.slice (some ⟨b, 0, none⟩) 1 1] w fun e w' => e = .returned (kV (said ((hd :: []).map (·.data.toList)))) ∧ Keeps w w' := by
  obtain ⟨V, hV⟩ : ∃ V, V = kV (said ((hd :: []).map (·.data.toList))) := ⟨_, rfl⟩
  have HV := hide hV
  rw [← hV]
  clear hV
  have c0 := hw 0 (by simp)
  simp only [Nat.add_zero, List.getElem_cons_zero] at c0
  have HL := hide (hw 0 (by simp))
  have HN := hide (numbers_k b 0 (0) [] w (fun i hi => by simp at hi) hs (by simp) he)
  rw [show ([] : List ByteArray).length = 0 from rfl] at HN
  clear hw hs he
  go_enter Tryz.func73, Tryz.ntmps73
  go_wp2_with fail
  refine HN.out.mono ?_
  rintro e w1 ⟨rfl, hk⟩
  replace c0 := hk.cell c0
  have cl := hk.cell HL.out
  rw [Nat.zero_add] at cl
  have lb := lt_of_cell c0
  have HK := hide (Keeps.trans hk (Keeps.alloc (Keeps.refl w1) (.cells #[.int .i64 (nn [] 0), .int .i64 (nn [] 1), .int .i64 (nn [] 2), .int .i64 (nn [] 3), .int .i64 (nn [] 4)] 139)))
  clear HN hk HL
  generalize hx : (hd :: [])[0]'(by simp) = x at cl
  have HX := hide hx
  clear hx
  go_wp2_with fail
  all_goals first
    | (go_ret; exact ⟨by rw [HV.out]; exact congrArg Ending.returned (kv_1 (by assumption)), HK.out⟩)
    | (go_ret; exact ⟨by rw [HV.out]; exact congrArg Ending.returned (kv_2 (by assumption)), HK.out⟩)
    | (go_ret; exact ⟨by rw [HV.out]; exact congrArg Ending.returned (kv_3 (by assumption)), HK.out⟩)
    | (go_ret; exact ⟨by rw [HV.out]; exact congrArg Ending.returned (kv_4 (by assumption)), HK.out⟩)
    | (go_ret; exact ⟨by rw [HV.out]; exact congrArg Ending.returned (kv_6 (by assumption)), HK.out⟩)
    | (go_ret; exact ⟨by rw [HV.out]; exact congrArg Ending.returned (kv_7 (by assumption)), HK.out⟩)
    | (go_ret; exact ⟨by rw [HV.out]; exact congrArg Ending.returned (kv_8 (by assumption)), HK.out⟩)
    | (go_ret; exact ⟨by rw [HV.out]; exact congrArg Ending.returned (kv_9 (by assumption)), HK.out⟩)
    | (go_ret; exact ⟨by rw [HV.out]; exact congrArg Ending.returned (kv_10 (by assumption)), HK.out⟩)
    | (go_ret; exact ⟨by rw [HV.out]; exact congrArg Ending.returned (kv_11 (by assumption)), HK.out⟩)
    | (go_ret; exact ⟨by rw [HV.out]; exact congrArg Ending.returned (kv_none (by assumption) (by assumption) (by assumption) (by assumption) (by assumption) (by assumption) (by assumption) (by assumption) (by assumption) (by assumption) (by assumption)), HK.out⟩)
    | skip
  go_quiet (fail)
  go_wp2_with fail
  go_ret
  have e5 := kv_5 (hd := hd) (tl := []) (by assumption)
  rw [show (hd :: [])[([] : List ByteArray).length]'(by simp) = x from HX.out] at e5
  exact ⟨by rw [HV.out, ← e5]; first | rfl | (rw [← show hd = x from HX.out]; rfl), HK.out.drewN _⟩
end Go.Proofs.YtkgpoghoilffhaaGreatDoor
namespace Go.Proofs
open Go.Shelf
def Tryz.lays147_ren : Go.Shelf.Ren := ⟨fun | 147 => 74 | 221 => 89 | 268 => 97 | 138 => 98 | 143 => 99 | 195 => 108 | 197 => 109 | 218 => 110 | 219 => 87 | 260 => 121 | 217 => 93 | 225 => 94 | 224 => 95 | 267 => 96 | 266 => 106 | 314 => 107 | n => n, fun | 9 => 9 | 3 => 3 | 31 => 46 | 4 => 4 | 0 => 0 | 105 => 157 | 21 => 21 | 5 => 5 | 46 => 95 | 119 => 176 | 139 => 179 | 138 => 178 | 146 => 154 | 51 => 153 | n => n, fun | 1 => 1 | 3 => 5 | 4 => 6 | n => n⟩
theorem Tryz.lays147 : Go.Proofs.Lays.n147 Tryz.prog Tryz.lays147_ren := {
  mixed := by kernel_rfl
  f138 := Tryz.func98.trans (congrArg some (by kernel_rfl))
  f143 := Tryz.func99.trans (congrArg some (by kernel_rfl))
  f147 := Tryz.func74.trans (congrArg some (by kernel_rfl))
  f195 := Tryz.func108.trans (congrArg some (by kernel_rfl))
  f197 := Tryz.func109.trans (congrArg some (by kernel_rfl))
  f217 := Tryz.func93.trans (congrArg some (by kernel_rfl))
  f218 := Tryz.func110.trans (congrArg some (by kernel_rfl))
  f219 := Tryz.func87.trans (congrArg some (by kernel_rfl))
  f221 := Tryz.func89.trans (congrArg some (by kernel_rfl))
  f224 := Tryz.func95.trans (congrArg some (by kernel_rfl))
  f225 := Tryz.func94.trans (congrArg some (by kernel_rfl))
  f260 := Tryz.func121.trans (congrArg some (by kernel_rfl))
  f266 := Tryz.func106.trans (congrArg some (by kernel_rfl))
  f267 := Tryz.func96.trans (congrArg some (by kernel_rfl))
  f268 := Tryz.func97.trans (congrArg some (by kernel_rfl))
  f314 := Tryz.func107.trans (congrArg some (by kernel_rfl))
  t0 := Tryz.underlying0
  a0 := Tryz.isAgg0
  z0 := Tryz.sizeOf0
  v0 := Tryz.zeroValue0
  t3 := Tryz.underlying3
  a3 := Tryz.isAgg3
  z3 := Tryz.sizeOf3
  v3 := Tryz.zeroValue3
  t4 := Tryz.underlying4
  a4 := Tryz.isAgg4
  z4 := Tryz.sizeOf4
  v4 := Tryz.zeroValue4
  t5 := Tryz.underlying5
  a5 := Tryz.isAgg5
  z5 := Tryz.sizeOf5
  v5 := Tryz.zeroValue5
  t9 := Tryz.underlying9
  a9 := Tryz.isAgg9
  z9 := Tryz.sizeOf9
  v9 := Tryz.zeroValue9
  t21 := Tryz.underlying21
  a21 := Tryz.isAgg21
  z21 := Tryz.sizeOf21
  v21 := Tryz.zeroValue21
  t31 := Tryz.underlying46
  a31 := Tryz.isAgg46
  z31 := Tryz.sizeOf46
  v31 := Tryz.zeroValue46
  t46 := Tryz.underlying95
  a46 := Tryz.isAgg95
  z46 := Tryz.sizeOf95
  v46 := Tryz.zeroValue95
  t51 := Tryz.underlying153
  a51 := Tryz.isAgg153
  z51 := Tryz.sizeOf153
  v51 := Tryz.zeroValue153
  t105 := Tryz.underlying157
  a105 := Tryz.isAgg157
  z105 := Tryz.sizeOf157
  v105 := Tryz.zeroValue157
  t119 := Tryz.underlying176
  a119 := Tryz.isAgg176
  z119 := Tryz.sizeOf176
  t138 := Tryz.underlying178
  a138 := Tryz.isAgg178
  z138 := Tryz.sizeOf178
  v138 := Tryz.zeroValue178
  t139 := Tryz.underlying179
  a139 := Tryz.isAgg179
  z139 := Tryz.sizeOf179
  v139 := Tryz.zeroValue179
  t146 := Tryz.underlying154
  a146 := Tryz.isAgg154
  z146 := Tryz.sizeOf154
  v146 := Tryz.zeroValue154
  g1 := by kernel_rfl
  g3 := by kernel_rfl
  g4 := by kernel_rfl }
open Go.RowKit Go.Lib in
theorem Tryz.strings_SplitN (s sep : ByteArray) (n : Nat) (m : Int) (w : World) (hs : s.size < 4294967281) (hm : w.cell? ⟨1, 0, none⟩ = some (.int .i64 m)) (h1 : 1 ≤ sep.size) (hn : 1 ≤ n) (hn63 : n ≤ 9223372036854775807) :
    Calls Tryz.prog 74 #[.string s, .string sep, .int .i64 n] w fun e w' =>
      e = .returned (.slice (some ⟨w.heap.size, 0, none⟩) (Lib.splitB sep 0 (min n (s.size + 1) - 1) s).length (min n (s.size + 1))) ∧ w' = w.alloc (.cells (Lib.cellsOf (Lib.splitB sep 0 (min n (s.size + 1) - 1) s) (min n (s.size + 1))) 9) := Any.strings_SplitN Tryz.lays147 (by kernel_rfl) s sep n m w hs hm h1 hn hn63
end Go.Proofs
