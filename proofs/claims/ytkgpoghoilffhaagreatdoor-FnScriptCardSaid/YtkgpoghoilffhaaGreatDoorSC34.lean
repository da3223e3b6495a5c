/- Texts of the verifier, joined: Zi, Zj, Fz. -/
import Derived.Test.YtkgpoghoilffhaaGreatDoorSC19
import Derived.Test.YtkgpoghoilffhaaGreatDoorSC10
import Derived.Test.YtkgpoghoilffhaaGreatDoorSC14
import Derived.Test.YtkgpoghoilffhaaGreatDoorSC24
import Derived.Test.YtkgpoghoilffhaaGreatDoorSC33
import Derived.Test.YtkgpoghoilffhaaGreatDoorSC12
namespace Go.Proofs.YtkgpoghoilffhaaGreatDoor
open Go.RowKit Go.Deep
set_option linter.unusedVariables false
set_option linter.unusedSimpArgs false
set_option maxRecDepth 10000
/-- What a line says, in memory: nothing, or one step on a block of its own. -/
abbrev Lm := Option (Nat × Ms)
def Lm.v : Lm → Value
  | none => .slice none 0 0
  | some (g, _) => .slice (some ⟨g, 0, none⟩) 1 1
def Lm.segs : Lm → List Seg
  | none => []
  | some (g, x) => [(some ⟨g, 0, none⟩, x.cells), x.seg]
def Lm.ms : Lm → List Ms
  | none => []
  | some (_, x) => [x]
theorem quiet_empty {s : ByteArray} (h : s = ⟨#[]⟩) : quietL s.data.toList = true := by subst h; rfl
theorem list_neI {s : ByteArray} (h0 : s ≠ ⟨#[]⟩) : s.data.toList ≠ [] := fun e => h0 (ByteArray.ext (by simpa using e))
theorem quiet_at {s : ByteArray} (h : 0 < s.size) : quietL s.data.toList = (((s[0]'h).toNat : Int) == 35) := by
  obtain ⟨⟨l⟩⟩ := s
  cases l with
  | nil => exact absurd h (by simp [ByteArray.size])
  | cons c r =>
    show decide (c = 35) = ((c.toNat : Int) == 35)
    by_cases h : c = 35
    · subst h; rfl
    · rw [decide_eq_false h]
      have : ¬ (c.toNat : Int) = 35 := fun e => h (UInt8.toNat_inj.1 (by have h35 : (35 : UInt8).toNat = 35 := rfl; omega))
      simp [this]
set_option maxHeartbeats 4000000 in
theorem stepsof_impl (s : ByteArray) (w : World) (hs : s.size ≤ 1048576) (he : Env w) (mx : Int) (hm : w.cell? ⟨1, 0, none⟩ = some (.int .i64 mx)) :
    Calls Tryz.prog 18 #[.string s] w fun e w' => ∃ x : Lm, e = .returned (.tuple #[x.v, .bool (lineOk s.data.toList)]) ∧ Born w w' x.segs ∧ x.ms.map Ms.D = lineD s.data.toList ∧ Keeps w w' := by
  have HQ := hide (textstep_impl s w hs he mx hm)
  clear he hm
  go_enter Tryz.func18, Tryz.ntmps18
  by_cases h0 : s = ⟨#[]⟩
  · have hq := quiet_empty h0
    have HR : Hid (lineOk s.data.toList = true ∧ lineD s.data.toList = []) := ⟨by simp [lineOk, hq], by simp [lineD, hq]⟩
    subst h0
    go_wp2_with fail
    go_ret2
    exact ⟨none, by rw [HR.out.1]; rfl, Born.nil _ _, by rw [HR.out.2]; rfl, Keeps.refl _⟩
  · have hpos : 0 < s.size := by
      rcases Nat.eq_zero_or_pos s.size with h | h
      · exact absurd (ByteArray.ext (Array.eq_empty_of_size_eq_zero h)) h0
      · exact h
    have hq := quiet_at hpos
    have hd := list_neI h0
    have hne : ¬ s.toList = [] := by rw [toList_data]; exact hd
    have hie : s.toList.isEmpty = false := by simpa using hne
    have hse : (s.toList == []) = false := by simpa using hne
    clear hd
    by_cases h35 : (((s[0]'hpos).toNat : Int) == 35) = true
    · rw [h35] at hq
      have HR : Hid (lineOk s.data.toList = true ∧ lineD s.data.toList = []) := ⟨by simp [lineOk, hq], by simp [lineD, hq]⟩
      clear hq
      go_wp2_with fail
      go_ret2
      exact ⟨none, by rw [HR.out.1]; rfl, Born.nil _ _, by rw [HR.out.2]; rfl, Keeps.refl _⟩
    · have h35f : (((s[0]'hpos).toNat : Int) == 35) = false := by simpa using h35
      rw [h35f] at hq
      have HL : Hid (lineOk s.data.toList = tsOk s.data.toList ∧ lineD s.data.toList = [tsD s.data.toList]) := ⟨by simp [lineOk, hq], by simp [lineD, hq]⟩
      clear hq
      go_wp2_with fail
      refine (unhide HQ).mono ?_
      rintro e w1 ⟨hp, hk⟩
      obtain ⟨D, a, c, ok, rfl, hb, hq⟩ := ts_form hp
      obtain ⟨hD, hok⟩ := tsq_fun hq
      subst hok
      have HB := hide hb
      have HK := hide hk
      have HD := hide hD
      clear hb hk hq hp hD
      go_wp2_with fail
      have hA := Keeps.alloc (Keeps.refl w1) (.cells (D.cells a c) 33)
      have hF := own_fresh (w1.alloc (.cells (D.cells a c) 33)) (Ms.mk D a c).cells 33
      have hA2 := Keeps.alloc (Keeps.refl (w1.alloc (.cells (D.cells a c) 33))) (.cells (D.cells a c) 33)
      have hB2 := (HB.out.kept hA).kept hA2
      rw [World.size_alloc] at hF
      go_ret2
      refine ⟨some (w1.heap.size + 1, ⟨D, a, c⟩), by rw [HL.out.1]; rfl, ⟨?_, ?_⟩, by rw [HL.out.2, ← HD.out]; rfl, (HK.out.trans hA).trans hA2⟩
      · show Own _ ([(some (⟨w1.heap.size + 1, 0, none⟩ : Addr), (Ms.mk D a c).cells)] ++ [(a, its D.ks)])
        refine hF.append hB2.toOwn (fun b hb hb' => ?_)
        have h1 := HB.out.mem.lt b hb'
        rw [fp_one, fpS_some (by simp [Ms.cells])] at hb
        simp at hb
        omega
      · intro b hb
        have hb2 : b ∈ fp ([(some (⟨w1.heap.size + 1, 0, none⟩ : Addr), (Ms.mk D a c).cells)] ++ [(a, its D.ks)]) := hb
        rw [fp_append] at hb2
        rcases List.mem_append.1 hb2 with hb2 | hb2
        · rw [fp_one, fpS_some (by simp [Ms.cells])] at hb2
          simp at hb2
          have := HK.out.size
          omega
        · exact HB.out.new b hb2
/-- What readParts tells of a script's lines: all up to the first that is no line of a script. -/
def RpP (ls : List (List UInt8)) (nb : List Lm) (k : Nat) : Prop :=
  ∃ ws r, ls = ws ++ r ∧ (∀ x ∈ ws, lineOk x = true) ∧ nb.map (fun x => x.ms.map Ms.D) = ws.map lineD ∧ ((r = [] ∧ k = 0) ∨ ∃ x t, r = x :: t ∧ lineOk x = false ∧ k = nb.length + 1)
set_option maxRecDepth 100000 in
set_option maxHeartbeats 4000000 in
theorem rp_lines (s : ByteArray) (w : World) (hs : s.size ≤ 1000000) (he : Env w) (mx : Int) (hm : w.cell? ⟨1, 0, none⟩ = some (.int .i64 mx)) :
    Calls Tryz.prog 17 #[.string s, .int .i32 10, .func (Fn.func 18) #[] #[]] w fun e w' => ∃ (v : Value) (nb : List Lm) (k : Nat), e = .returned (.tuple #[v, .int .i64 (k : Int)]) ∧ LH 24 1 (fun x => [Lm.v x]) Lm.segs w w' v nb ∧ RpP (partsE 10 (s.data.toList ++ [10])) nb k := by
  have HE := hide he
  have HM0 := hide hm
  clear he hm
  have hen : Utf8.encode 10 = ⟨#[10]⟩ := by rfl
  have HM := hide (ended_list s 10)
  have HMS := hide (ended_size s 10)
  have hov : ¬ (9223372036854775807 : Int) < (s ++ (⟨#[10]⟩ : ByteArray)).size := by have := HMS.out; omega
  have HKI : Hid (Keeps w (w.iter (s ++ ⟨#[10]⟩) 0)) := Keeps.alloc (Keeps.refl w) _
  have HII := hide (World.iter_heap w (s ++ ⟨#[10]⟩) 0)
  have HSI : Hid ((w.iter (s ++ ⟨#[10]⟩) 0).heap.size = w.heap.size + 1) := by show _ = _; simp [World.iter]
  go_enter Tryz.func17, Tryz.ntmps17
  go_wp2_with fail
  generalize (s ++ (⟨#[10]⟩ : ByteArray)) = SE at *
  generalize w.iter SE 0 = W0 at *
  clear hen hov
  go_loopw [8, 10] (fun v fr wr => ∃ (p frm : Nat) (ws : List (List UInt8)) (nb : List Lm), p ≤ SE.size ∧ fr = .int .i64 (frm : Int) ∧ Hid (LH 24 1 (fun x => [Lm.v x]) Lm.segs w wr v nb) ∧ Hid ((∀ g, v.ownBlock = some g → w.heap.size < g) ∧ ∀ b ∈ fp (nb.flatMap Lm.segs), w.heap.size < b) ∧ Hid (nb.map (fun x => x.ms.map Ms.D) = ws.map lineD) ∧ Hid (AtE 10 (s.data.toList ++ [10]) p frm ws) ∧ Hid (∀ x ∈ ws, lineOk x = true) ∧ Hid (wr.heap[w.heap.size]? = some (.stringIter SE p)) ∧ Hid (Turn [w.heap.size] W0 wr) ∧ Hid (ws.length ≤ frm)) (fun _ _ wr => SE.size - wr.iterPos w.heap.size)
  case atStart => exact ⟨0, 0, [], [], by omega, rfl, LH.nil _ _ _ _ ⟨rfl, .inl ⟨rfl, rfl⟩⟩ HKI.out, ⟨fun g hg => (nomatch hg), fun b hb => absurd hb (by simp [fp])⟩, rfl, AtE.start _ _, by show ∀ x ∈ [], _; simp, HII, Turn.refl _ _, Nat.le_refl 0⟩
  case round =>
    clear HII
    obtain ⟨p, frm, ws, nb, hp, rfl, HO, HN, HD, HA, HG, HI, HT, HL⟩ := hrel
    by_cases hlt : p < SE.size
    · have hle := HA.out.le
      have hnx := fun ty => run_next_at (P := Tryz.prog) wr w.heap.size SE p ty HI.out hlt
      have HI2 := hide (iterTo_at (w := wr) SE (p + (Utf8.decode SE p).2) (iter_lt HI.out))
      have HT2 := hide ((HT.out.trans' (iterTo_turn wr w.heap.size SE (p + (Utf8.decode SE p).2))))
      have HO2 := hide (HO.out.turned (iterTo_turn wr w.heap.size SE (p + (Utf8.decode SE p).2)) (fun g hg hx => by have := HN.out.1 g hg; simp at hx; omega) (fun b hb hx => by have := HN.out.2 b hb; simp at hx; omega) (by simp))
      have HP := hide (iterPos_of HI.out)
      by_cases ha : (SE[p]'hlt).toNat < 128
      · rw [decode_ascii SE p hlt ha] at hnx HI2 HT2 HO2
        generalize iterTo wr w.heap.size SE (p + 1) = wr2 at *
        have HK2 := hide (turn_keeps HKI.out HT2.out (by simp))
        have hM : SE.data.toList = s.data.toList ++ [10] := HM.out
        have hpb : p + 1 ≤ 1048577 := by have := HMS.out; omega
        by_cases hb : (SE[p]'hlt).toNat = 10
        · have HA2 := hide (HA.out.hit (i := p) (by rw [← hM, getB_at SE p hlt, (show (SE[p]'hlt) = (10 : UInt8) from UInt8.toNat_inj.1 hb)]))
          have HQ := hide (stepsof_impl (SE.extract frm p) wr2 (by rw [ByteArray.size_extract]; have := HMS.out; omega) (HE.out.kept HK2.out) mx (HK2.out.cell HM0.out))
          rw [sb_extract, hM] at HQ
          rw [hb] at hnx
          have hx0 : frm = p → ((s.data.toList ++ [10]).take p).drop frm = [] := by
            intro e
            subst e
            simp
          have HX0 := hide hx0
          clear hM hb ha HO HI HT HA hx0
          generalize ((s.data.toList ++ [10]).take p).drop frm = x at *
          have hlp : frm ≤ p ∧ p ≤ SE.size := by omega
          go_wp2_with fail
          refine (unhide HQ).mono ?_
          rintro e w3 ⟨one, rfl, hb3, hd3, hk3⟩
          have HB3 := hide hb3
          have HD3 := hide hd3
          clear hb3 hd3
          clear hnx HQ
          have HT3 := hide (HT2.out.trans' (Turn.of_keeps hk3 _))
          have HI3 : Hid (w3.heap[w.heap.size]? = some (.stringIter SE (p + 1))) := by show _ = _; rw [Below.block hk3 _ (iter_lt HI2.out)]; exact HI2.out
          have HO3 := hide hk3
          have HK3 := hide (HK2.out.trans hk3)
          have HI2s := hide HI2.out
          clear hk3 HT2 HI2 HK2
          cases hok : lineOk x
          · have HX := hide hok
            clear hok
            obtain ⟨va, vc, hv, _⟩ := Born.of_owns HO2.out.row
            have hnl : nb.length = ws.length := by have := congrArg List.length HD.out; simpa using this
            have hlen : ((nb.length : Nat) : Int) + 1 ≤ 9223372036854775807 := by have := HL.out; have := HMS.out; omega
            subst hv
            go_wp2_with fail
            go_ret2
            refine ⟨.slice va nb.length vc, nb, nb.length + 1, by rw [hnl]; rfl, HO2.out.kept HO3.out, ?_⟩
            have h1 := HA2.out.done
            exact ⟨ws, _, by rw [h1, List.append_assoc]; rfl, HG.out, HD.out, Or.inr ⟨x, _, rfl, HX.out, rfl⟩⟩
          · have HX := hide hok
            clear hok
            obtain ⟨oa, ol, oc, hov⟩ : ∃ a l c, Lm.v one = .slice a l c := by
              cases one with
              | none => exact ⟨_, _, _, rfl⟩
              | some x => exact ⟨_, _, _, rfl⟩
            rw [hov]
            have HKA := hide (Keeps.alloc (Keeps.refl w3) (.cells #[.slice oa ol oc] 24))
            have HT4 := hide (HT3.out.trans' (Turn.of_keeps HKA.out _))
            have HI4 : Hid ((w3.alloc (.cells #[.slice oa ol oc] 24)).heap[w.heap.size]? = some (.stringIter SE (p + 1))) := by show _ = _; rw [Below.block (Keeps.alloc (Keeps.refl w3) (.cells #[.slice oa ol oc] 24)) _ (iter_lt HI3.out)]; exact HI3.out
            have HB4 : Hid (w.heap.size ≤ (w3.alloc (.cells #[.slice oa ol oc] 24)).heap.size) := by have h1 := iter_lt HI3.out; show _ ≤ _; simp; omega
            have hnl : nb.length = ws.length := by have := congrArg List.length HD.out; simpa using this
            have hlen : nb.length ≤ 1048576 := by have := HL.out; have := HMS.out; omega
            have hone : (Value.slice oa ol oc).oneCell' = true := rfl
            obtain ⟨v7, w7, hr7, ho7, hg, hv7⟩ := run_line (w3.alloc (.cells #[.slice oa ol oc] 24)) w.heap.size u8 nb.length (nb.flatMap (fun x => [Lm.v x])) (.slice oa ol oc) hone ⟨w3.heap.size, 0, none⟩ (by simp) 47 (owns_keptZ (owns_keptZ HO2.out.row HO3.out) HKA.out) hlen HB4.out
            have HR7 := hide hr7
            have HO7 := hide (HO2.out.snoc (x := one) HO3.out HB3.out.toOwn (fun b hb => HB3.out.new b hb) hg (by rw [← hov] at ho7; exact ho7) hv7)
            have HF : Hid (∀ k, u8.ownBlock = some k → w.heap.size < k) := HN.out.1
            have HWS : Hid (w.heap.size < wr2.heap.size) := by have h1 := iter_lt HI2s.out; exact h1
            have HN7 : Hid ((∀ g, v7.ownBlock = some g → w.heap.size < g) ∧ ∀ b ∈ fp ((nb ++ [one]).flatMap Lm.segs), w.heap.size < b) := by
              refine ⟨fun g hg' => ?_, fun b hb => ?_⟩
              · rcases hv7 with e | e
                · exact HN.out.1 g (by rw [← e]; exact hg')
                · rw [e] at hg'
                  have h1 := Option.some.inj hg'
                  have h2 := HO3.out.size
                  have h3 := HWS.out
                  rw [World.size_alloc] at h1
                  omega
              · rw [List.flatMap_append, List.flatMap_singleton, fp_append] at hb
                rcases List.mem_append.1 hb with hb | hb
                · exact HN.out.2 b hb
                · have h1 := HB3.out.new b hb
                  have h2 := HWS.out
                  omega
            clear hr7 ho7 hv7 hov
            go_wp2_with (at_builtin; refine Lib.wpList_append_run _ rfl (.tmp 43) (.tmp 45) _ _ rfl _ _ rfl rfl v7 w7 HR7.out ?_)
            have HT5 := hide (turn_grown HT4.out hg (fun k hk => by have := HF.out k hk; have := HSI.out; omega))
            have HI5 := hide (block_grown HI4.out hg (fun k hk => by have := HF.out k hk; omega))
            go_roundw
            case rel => exact ⟨p + 1, p + 1, ws ++ [x], nb ++ [one], by omega, by go_num, HO7, HN7, by show _ = _; rw [List.map_append, List.map_append, HD.out]; show _ ++ [Lm.ms one |>.map Ms.D] = _ ++ [lineD x]; rw [HD3.out], HA2, by
                          show ∀ y ∈ ws ++ [x], _
                          intro y hy
                          rcases List.mem_append.1 hy with hy | hy
                          · exact HG.out y hy
                          · rw [List.mem_singleton.1 hy]; exact HX.out, HI5, HT5, by have := HL.out; show _ ≤ _; simp; omega⟩
            case measure => rw [iterPos_of HI5.out, HP.out]; omega
        · have hne : (((SE[p]'hlt).toNat : Int) != 10) = true := by simp; omega
          have HA2 := hide (HA.out.skip 1 (fun j h1 h2 => by
            obtain rfl : j = p := by omega
            rw [← hM, getB_at SE j hlt]
            intro e
            exact hb (by rw [Option.some.inj e]; rfl)))
          clear hM HO HI HT HA hb
          generalize (SE[p]'hlt).toNat = r at *
          go_wp2_with fail
          go_roundw
          case rel => exact ⟨p + 1, frm, ws, nb, by omega, rfl, HO2, HN, HD, HA2, HG, HI2, HT2, HL⟩
          case measure => rw [iterPos_of HI2.out, HP.out]; omega
      · obtain ⟨hn1, hn2, hn3⟩ := decode_wide SE p hlt (by omega)
        have hr := (decode_high SE p hlt (by omega)).1
        have hM : SE.data.toList = s.data.toList ++ [10] := HM.out
        have HA2 := hide (HA.out.skip (Utf8.decode SE p).2 (fun j h1 h2 => by
          have hj : j < SE.size := by omega
          rw [← hM, getB_at SE j hj]
          intro e
          have h3 := hn3 j h1 h2 hj
          rw [Option.some.inj e] at h3
          exact absurd h3 (by decide)))
        clear hM HO HI HT HA hn3 ha
        generalize (Utf8.decode SE p).2 = n at *
        generalize (Utf8.decode SE p).1 = r at *
        generalize iterTo wr w.heap.size SE (p + n) = wr2 at *
        have hne : ((r : Int) != 10) = true := by simp; omega
        go_wp2_with fail
        go_roundw
        case rel => exact ⟨p + n, frm, ws, nb, by omega, rfl, HO2, HN, HD, HA2, HG, HI2, HT2, HL⟩
        case measure => rw [iterPos_of HI2.out, HP.out]; omega
    · have hnx := fun ty => run_next_done (P := Tryz.prog) wr w.heap.size SE p ty HI.out hlt
      have HK2 := hide (turn_keeps HKI.out HT.out (by simp))
      have HD0 : Hid (partsE 10 (s.data.toList ++ [10]) = ws) := HA.out.fin (by have := HMS.out; simp; omega)
      obtain ⟨va, vc, hv, _⟩ := Born.of_owns HO.out.row
      subst hv
      go_wp2_with fail
      go_ret2
      exact ⟨_, nb, 0, rfl, HO.out, ws, [], by rw [HD0.out, List.append_nil], HG.out, HD.out, Or.inl ⟨rfl, rfl⟩⟩
end Go.Proofs.YtkgpoghoilffhaaGreatDoor
namespace Go.Proofs.YtkgpoghoilffhaaGreatDoor
open Go.RowKit Go.Deep
set_option linter.unusedVariables false
set_option linter.unusedSimpArgs false
set_option maxRecDepth 10000
theorem lines_cell {w : World} {a : Option Addr} {nb : List Lm} (h : Cells w a (nb.flatMap (fun x => [Lm.v x]))) (i : Nat) (hi : i < nb.length) : ∃ b off, a = some ⟨b, off, none⟩ ∧ w.cell? ⟨b, off + i, none⟩ = some nb[i].v := by
  obtain ⟨b, off, e, hc⟩ := elem_at (f := fun x => [Lm.v x]) (sz := 1) (fun _ => rfl) h i hi (by decide)
  have := hc 0 (by simp)
  rw [Nat.mul_one, Nat.add_zero] at this
  exact ⟨b, off, e, this⟩
theorem sub_segs {w : World} : ∀ (nb : List Lm), Own w (nb.flatMap Lm.segs) → Own w ((nb.flatMap Lm.ms).map Ms.seg) ∧ ∀ b ∈ fp ((nb.flatMap Lm.ms).map Ms.seg), b ∈ fp (nb.flatMap Lm.segs)
  | [], _ => ⟨Own.nil w, fun b hb => hb⟩
  | none :: r, h => by
    have := sub_segs r (by simpa [Lm.segs] using h)
    simpa [Lm.segs, Lm.ms] using this
  | some (g, x) :: r, h => by
    have h0 : Own w ([(some (⟨g, 0, none⟩ : Addr), x.cells)] ++ ([x.seg] ++ r.flatMap Lm.segs)) := h
    have h1 := h0.right
    obtain ⟨i1, i2⟩ := sub_segs r h1.right
    refine ⟨?_, ?_⟩
    · show Own w ([x.seg] ++ (r.flatMap Lm.ms).map Ms.seg)
      exact h1.left.append i1 (fun b hb hb' => h1.apart b hb (i2 b hb'))
    · intro b hb
      have hb2 : b ∈ fp ([x.seg] ++ (r.flatMap Lm.ms).map Ms.seg) := hb
      show b ∈ fp ([(some (⟨g, 0, none⟩ : Addr), x.cells)] ++ ([x.seg] ++ r.flatMap Lm.segs))
      rw [fp_append] at hb2
      rw [fp_append, fp_append]
      rcases List.mem_append.1 hb2 with hb2 | hb2
      · exact List.mem_append_right _ (List.mem_append_left _ hb2)
      · exact List.mem_append_right _ (List.mem_append_right _ (i2 b hb2))
theorem line_cells {w : World} {nb : List Lm} (h : Mem w (nb.flatMap Lm.segs)) {g : Nat} {x : Ms} (hx : some (g, x) ∈ nb) : ∀ j u, x.cells[j]? = some u → w.cell? ((⟨g, 0, none⟩ : Addr).add j) = some u := by
  have hc := h (some ⟨g, 0, none⟩, x.cells) (List.mem_flatMap.2 ⟨some (g, x), hx, by simp [Lm.segs]⟩)
  intro j u hj
  rcases hc with hc | ⟨b, off, e, hc⟩
  · exact absurd hc (by simp [Ms.cells])
  · injection e with e
    injection e with e1 e2 _
    subst e1 e2
    obtain ⟨hlt, rfl⟩ := List.getElem?_eq_some_iff.1 hj
    have h2 := hc j hlt
    rw [Nat.zero_add] at h2
    rw [addr_add0]
    exact h2
theorem line_none {l : List UInt8} (h : lineD l = []) : quietL l = true := by
  unfold lineD at h
  split at h
  · assumption
  · simp at h
theorem line_some {l : List UInt8} {D : Stp} (h : lineD l = [D]) (h2 : lineOk l = true) : quietL l = false ∧ tsOk l = true ∧ D = tsD l := by
  unfold lineD at h
  split at h
  · simp at h
  · next hq =>
    have hq2 : quietL l = false := by simpa using hq
    refine ⟨hq2, ?_, by simpa using h.symm⟩
    unfold lineOk at h2
    rw [hq2] at h2
    simpa using h2
theorem own_of {w : World} {base n : Nat} {e : TypeId} {sz : Nat} {v : Value} {xs : List Value} (h : w.ownsRow base e sz v n xs) : ∃ (a : Option Addr) (cap : Nat), v = .slice a n cap ∧ n ≤ cap ∧ Own w [(a, xs)] ∧ ∀ b ∈ fp [(a, xs)], base ≤ b := by
  obtain ⟨a, cap, h1, h2, _, _, h5, h6⟩ := Own.of_owns h
  exact ⟨a, cap, h1, h2, h5, h6⟩
set_option maxHeartbeats 4000000 in
theorem readscript_impl (s : ByteArray) (w : World) (hs : s.size ≤ 1048576) (he : Env w) (mx : Int) (hm : w.cell? ⟨1, 0, none⟩ = some (.int .i64 mx)) :
    Calls Tryz.prog 6 #[.string s] w fun e w' => ScPost s w w' e := by
  by_cases hlong : 8000 < s.size
  · have HR := hide (sc_none (s := s) (w' := w) (k := 1) (scrL_long (by simpa using hlong)) (by decide) (Keeps.refl w))
    go_enter Tryz.func6, Tryz.ntmps6
    go_wp2_with fail
    go_ret2
    exact HR.out
  · have HQ := hide (rp_lines s w (by omega) he mx hm)
    have HR := hide (scrL_at (l := s.data.toList) (by simpa using hlong))
    clear he hm
    go_enter Tryz.func6, Tryz.ntmps6
    go_wp2_with fail
    refine (unhide HQ).mono ?_
    rintro e w1 ⟨v, nb, k, rfl, hl, ws, r, hls, hok, hD, hend⟩
    rw [hls] at HR
    have hnw : nb.length = ws.length := by have := congrArg List.length hD; simpa using this
    have hwl : ws.length ≤ 8001 := by
      have h1 := partsE_len (e := 10) (s.data.toList ++ [10])
      rw [hls] at h1
      simp at h1
      have : s.data.toList.length ≤ 8000 := by simp; omega
      simp at this
      omega
    obtain ⟨la, lc, rfl, _, hb⟩ := Born.of_owns hl.row
    have HLC := hide hb.toOwn.one
    have HIN := hide hl.inner
    have HK1 := hide hl.keeps
    have HOK := hide hok
    have HD := hide hD
    have HEND := hide hend
    have HNW := hide hnw
    clear hl hls hok hD hend hb HQ hlong hnw
    have hnl : nb.length ≤ 8001 := by have := HNW.out; omega
    go_wp2_with fail
    go_loopw [6, 19] (fun v y wr => ∃ (i : Nat) (ms : List Ms), i ≤ nb.length ∧ y = .int .i64 (i : Int) ∧ Hid (wr.ownsRow w1.heap.size 33 14 v ms.length (mcells ms)) ∧ Hid (ms = (nb.take i).flatMap Lm.ms) ∧ Hid (scr i (ms.map Ms.D) (ws.drop i ++ r) = scr 0 [] (ws ++ r)) ∧ Hid (ms.length ≤ 300) ∧ Hid (Keeps w1 wr)) (fun _ y _ => nb.length - (intOf y).toNat)
    case atStart => exact ⟨0, [], by omega, rfl, ⟨rfl, .inl ⟨rfl, rfl⟩⟩, by show _ = _; simp, by show _ = _; simp, by show _ ≤ _; simp, Keeps.refl _⟩
    case round =>
      obtain ⟨i, ms, hi, rfl, HO, HMS, HS, HL3, HK⟩ := hrel
      by_cases hlt : i < nb.length
      · have hltw : i < ws.length := by have := HNW.out; omega
        obtain ⟨b, off, ea, c0⟩ := lines_cell (HLC.out.kept HK.out) i hlt
        subst ea
        have hDi : nb[i].ms.map Ms.D = lineD ws[i] := by
          have h := congrArg (fun l => l[i]?) HD.out
          simpa [hlt, hltw] using h
        have hTk : (nb.take (i + 1)).flatMap Lm.ms = (nb.take i).flatMap Lm.ms ++ nb[i].ms := by
          rw [List.take_succ_eq_append_getElem hlt, List.flatMap_append, List.flatMap_singleton]
        have hDr : ws.drop i = ws[i] :: ws.drop (i + 1) := List.drop_eq_getElem_cons hltw
        have hoki := HOK.out ws[i] (List.getElem_mem hltw)
        have hmem : nb[i] ∈ nb := List.getElem_mem hlt
        rw [hDr, List.cons_append] at HS
        have HTK := hide hTk
        clear hTk hDr
        generalize nb[i] = L at *
        generalize ws[i] = l at *
        cases L with
        | none =>
          have hq := line_none (l := l) (by rw [← hDi]; rfl)
          rw [scr_quiet hq] at HS
          have HRN := hide (run_step_none wr w1.heap.size u6 ms.length (mcells ms) 24 HO.out)
          have hL3 : ms.length ≤ 300 := HL3.out
          obtain ⟨va, vc, hv, _⟩ := Own.of_owns HO.out
          have HMS2 : Hid (ms = (nb.take (i + 1)).flatMap Lm.ms) := by show _ = _; rw [HTK.out, ← HMS.out]; simp [Lm.ms]
          clear hDi hoki hmem hq
          subst hv
          dsimp only [Lm.v] at c0
          go_wp2_with (at_builtin; refine Lib.wpList_append_run _ rfl (.tmp 24) (.tmp 25) _ _ rfl _ _ rfl rfl _ _ HRN.out ?_)
          go_roundw
          case rel => exact ⟨i + 1, ms, by omega, by go_num, HO, HMS2, HS, HL3, HK⟩
          case measure => simp [intOf]; omega
        | some gx =>
          obtain ⟨g, x⟩ := gx
          obtain ⟨hq, hto, hxD⟩ := line_some (l := l) (D := x.D) (by rw [← hDi]; rfl) hoki
          have HS2 := hide (fun h300 : ms.length ≠ 300 => (scr_step (i := i) (out := ms.map Ms.D) (r := ws.drop (i + 1) ++ r) hq hto (by simpa using h300)).symm.trans HS.out)
          have HS3 := hide (fun h300 : ms.length = 300 => HS.out.symm.trans (scr_bad (i := i) (out := ms.map Ms.D) (r := ws.drop (i + 1) ++ r) hq (Or.inr (by simpa using h300))))
          rw [← hxD] at HS2
          have hL3 : ms.length ≤ 300 := HL3.out
          have HMS2 : Hid (ms ++ [x] = (nb.take (i + 1)).flatMap Lm.ms) := by show _ = _; rw [HTK.out, ← HMS.out]; rfl
          have hcx := line_cells (HIN.out.kept HK.out).mem hmem
          obtain ⟨v7, w7, hr7, ho7, hg7, hv7⟩ := run_step wr w1.heap.size u6 ms.length (mcells ms) x ⟨g, 0, none⟩ 1 hcx 24 HO.out (by omega) HK.out.size
          have HR7 := hide hr7
          have HO7 : Hid (w7.ownsRow w1.heap.size 33 14 v7 (ms ++ [x]).length (mcells (ms ++ [x]))) := by show World.ownsRow _ _ _ _ _ _ _; rw [mcells_snoc, List.length_append]; exact ho7
          have HK7 := hide (Keeps.grown HK.out hg7 (fun g hg => (HO.out.lt g hg).1))
          have hl7 : (ms ++ [x]).length = ms.length + 1 := by simp
          obtain ⟨va, vc, hv, _⟩ := Own.of_owns HO.out
          obtain ⟨va7, vc7, hv8, _⟩ := Own.of_owns HO7.out
          rw [hl7] at hv8
          have hlI : ((ms.length + 1 : Nat) : Int) = (ms.length : Int) + 1 := by omega
          clear hDi hoki hmem hq hto hxD hcx hr7 ho7 hg7 hv7 HS
          subst hv hv8
          dsimp only [Lm.v] at c0
          by_cases h300 : ms.length = 300
          · have HRR := hide (HS3.out h300)
            go_wp2_with (at_builtin; refine Lib.wpList_append_run _ rfl (.tmp 24) (.tmp 25) _ _ rfl _ _ rfl rfl _ _ HR7.out ?_)
            go_ret2
            exact sc_none (k := (i : Int) + 1) (by rw [HR.out, HRR.out]; congr 1) (by omega) (HK1.out.trans HK7.out)
          · have HRR := hide (HS2.out h300)
            go_wp2_with (at_builtin; refine Lib.wpList_append_run _ rfl (.tmp 24) (.tmp 25) _ _ rfl _ _ rfl rfl _ _ HR7.out ?_)
            go_roundw
            case rel => exact ⟨i + 1, ms ++ [x], by omega, by go_num, by rw [hl7] at *; exact HO7, HMS2, by show _ = _; rw [List.map_append]; exact HRR.out, by show _ ≤ _; simp; omega, HK7⟩
            case measure => simp [intOf]; omega
      · have hie : i = nb.length := by omega
        subst hie
        have hS := HS.out
        rw [List.drop_of_length_le (by have := HNW.out; omega), List.nil_append] at hS
        obtain ⟨va, vc, hv, _, hmo, hmb⟩ := own_of HO.out
        have HMO := hide hmo
        have HMB := hide hmb
        have HMS2 : Hid (ms = nb.flatMap Lm.ms) := by
          show _ = _
          have := HMS.out
          rw [List.take_length] at this
          exact this
        clear HS hmo hmb
        rcases HEND.out with ⟨hr0, hk0⟩ | ⟨x, t, hr0, hx, hk0⟩
        · rw [hr0] at hS
          have HRR : Hid (scrL s.data.toList = (ms.map Ms.D, 0)) := by
            show _ = _
            rw [HR.out, hr0, ← hS]; rfl
          clear hS hr0
          subst hk0 hv
          go_wp2_with fail
          go_ret2
          have hbI := HIN.out.kept HK.out
          obtain ⟨g1, g2⟩ := sub_segs nb hbI.toOwn
          rw [← HMS2.out] at g1 g2
          refine ⟨ms, va, vc, by rw [HRR.out]; rfl, ⟨?_, ?_⟩, by rw [HRR.out], HK1.out.trans HK.out⟩
          · refine Own.append (S := [_]) HMO.out g1 (fun b hb hb' => ?_)
            have h1 := HMB.out b hb
            have h2 := HIN.out.mem.lt b (g2 b hb')
            omega
          · intro b hb
            rw [fp_cons] at hb
            rcases List.mem_append.1 hb with hb | hb
            · have h1 := HMB.out b (by rw [fp_one]; exact hb)
              have h2 := HK1.out.size
              omega
            · exact HIN.out.new b (g2 b hb)
        · rw [hr0] at hS
          have hq : quietL x = false ∧ tsOk x = false := by
            unfold lineOk at hx
            simpa using hx
          rw [scr_bad hq.1 (Or.inl hq.2)] at hS
          have HRR : Hid (scrL s.data.toList = ([], nb.length + 1)) := by
            show _ = _
            rw [HR.out, hr0, ← hS]
          have hkI : ((nb.length + 1 : Nat) : Int) = (nb.length : Int) + 1 := by omega
          clear hS hr0 hq hx
          subst hk0 hv
          rw [hkI]
          have hk1 : (0 : Int) < (nb.length : Int) + 1 := by omega
          go_wp2_with fail
          go_ret2
          exact sc_none (k := (nb.length : Int) + 1) (by rw [HRR.out]; congr 1) (by omega) (HK1.out.trans HK.out)
end Go.Proofs.YtkgpoghoilffhaaGreatDoor
namespace Go.Proofs.YtkgpoghoilffhaaGreatDoor
open Go.RowKit Go.Deep
set_option linter.unusedVariables false
set_option linter.unusedSimpArgs false
set_option maxRecDepth 10000
open Classical in
theorem tsD_ok {l : List UInt8} (h : tsOk l = true) : stpB (tsD l) = true ∧ stT (tsD l) = l := by
  unfold tsOk at h
  have hx := of_decide_eq_true h
  unfold tsD
  rw [dif_pos hx]
  exact Classical.choose_spec hx
theorem scr_valid : ∀ (ls : List (List UInt8)) (i : Nat) (out : List Stp), (∀ l ∈ ls, l.length ≤ 1048576) → (∀ D ∈ out, stpB D = true ∧ (stT D).length ≤ 1048576) → ∀ D ∈ (scr i out ls).1, stpB D = true ∧ (stT D).length ≤ 1048576
  | [], i, out, _, h2 => h2
  | l :: r, i, out, h1, h2 => by
    have hr : ∀ x ∈ r, x.length ≤ 1048576 := fun x hx => h1 x (List.mem_cons_of_mem _ hx)
    rw [scr]
    split
    · exact scr_valid r (i + 1) out hr h2
    · split
      · intro D hD; simp at hD
      · next h4 =>
        have hok : tsOk l = true := by
          cases ht : tsOk l
          · exact absurd (Or.inl ht) h4
          · rfl
        obtain ⟨t1, t2⟩ := tsD_ok hok
        refine scr_valid r (i + 1) _ hr (fun D hD => ?_)
        rcases List.mem_append.1 hD with hD | hD
        · exact h2 D hD
        · rw [List.mem_singleton.1 hD]; exact ⟨t1, by rw [t2]; exact h1 l (List.mem_cons_self ..)⟩
theorem sc_valid {ms : List Ms} {l : List UInt8} (h : ms.map Ms.D = (scrL l).1) : ∀ x ∈ ms, stpB x.D = true ∧ (stT x.D).length ≤ 1048576 := by
  by_cases hl : 8000 < l.length
  · rw [scrL_long hl] at h
    have : ms = [] := by simpa using h
    subst this
    simp
  · rw [scrL_at hl] at h
    have hp : ∀ x ∈ partsE 10 (l ++ [10]), x.length ≤ 1048576 := fun x hx => by
      have h1 := partsE_sum (e := 10) (l ++ [10])
      have h2 : x.length + 1 ≤ ((partsE 10 (l ++ [10])).map (fun w => w.length + 1)).sum := by
        obtain ⟨A, B, e⟩ := List.append_of_mem hx
        rw [e]; simp; omega
      simp at h1
      omega
    have h2 := scr_valid _ 0 [] hp (by simp)
    intro x hx
    exact h2 x.D (by rw [← h]; exact List.mem_map.2 ⟨x, hx, rfl⟩)
/-- The text of a right step is read as the step. -/
theorem ts_again {S : ByteArray} {D D2 : Stp} {ok : Bool} (hB : stpB D = true) (hS : S.data.toList = stT D) (h : TsQ S D2 ok) : D2 = D ∧ ok = true := q_same (Or.inl ⟨rfl, hB, hS.symm⟩) h
end Go.Proofs.YtkgpoghoilffhaaGreatDoor
