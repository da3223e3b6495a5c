/- Texts of the verifier, joined: Sx, StI, StJ. -/
import Derived.Test.YtkgpoghoilffhaaGreatDoorSC6
import Derived.Test.YtkgpoghoilffhaaGreatDoorSC10
import Derived.Test.YtkgpoghoilffhaaGreatDoorSC11
import Derived.Deep.Cut
import Derived.Test.YtkgpoghoilffhaaGreatDoorSC3
namespace Go.Proofs.YtkgpoghoilffhaaGreatDoor
open Go.RowKit Go.Deep
set_option linter.unusedVariables false
set_option linter.unusedSimpArgs false
set_option maxRecDepth 10000
open Classical in
noncomputable def evS (l : List UInt8) : Ev := if h : ∃ E : Ev, evB E.k E.y E.c E.t E.m E.f E.b = true ∧ evT E.k E.y E.c E.t E.m E.f E.b = l then Classical.choose h else noE
theorem evS_eq {E : Ev} (h : evB E.k E.y E.c E.t E.m E.f E.b = true) {l : List UInt8} (hl : evT E.k E.y E.c E.t E.m E.f E.b = l) : evS l = E := by
  have hx : ∃ E : Ev, evB E.k E.y E.c E.t E.m E.f E.b = true ∧ evT E.k E.y E.c E.t E.m E.f E.b = l := ⟨E, h, hl⟩
  unfold evS
  rw [dif_pos hx]
  obtain ⟨h1, h2⟩ := Classical.choose_spec hx
  obtain ⟨a1, a2, a3, a4, a5, a6, a7⟩ := ev_inj h1 h (h2.trans hl.symm)
  generalize Classical.choose hx = E' at *
  obtain ⟨k, y, c, t, m, f, b⟩ := E
  obtain ⟨k', y', c', t', m', f', b'⟩ := E'
  simp only at a1 a2 a3 a4 a5 a6 a7
  rw [a1, a2, a3, a4, a5, a6, a7]
theorem evS_no {l : List UInt8} (h : ∀ k y c t m f b, evB k y c t m f b = true → evT k y c t m f b ≠ l) : evS l = noE := by
  unfold evS
  rw [dif_neg (fun ⟨E, h1, h2⟩ => h _ _ _ _ _ _ _ h1 h2)]
theorem te_evS {s : ByteArray} {x : Ending} (h : TePost s x) : ∃ ok : Bool, x = .returned (.tuple #[evV (evS s.data.toList).k (evS s.data.toList).y (evS s.data.toList).c (evS s.data.toList).t (evS s.data.toList).m (evS s.data.toList).f (evS s.data.toList).b, .bool ok]) := by
  rcases h with ⟨k, y, c, t, m, f, b, h1, h2, rfl⟩ | ⟨h1, rfl⟩
  · have := evS_eq (E := ⟨k, y, c, t, m, f, b⟩) h1 h2
    exact ⟨true, by rw [this]⟩
  · have := evS_no h1
    exact ⟨false, by rw [this]; rfl⟩
theorem parts_join : ∀ (W : List (List UInt8)), W ≠ [] → (∀ w ∈ W, (32 : UInt8) ∉ w) → partsE 32 (join W ++ [32]) = W
  | [], h, _ => absurd rfl h
  | [w], _, h => by
    have := partsE_cut (e := 32) (w := w) [] (h w (by simp))
    simpa [join, partsE] using this
  | w :: v :: r, _, h => by
    have ih := parts_join (v :: r) (by simp) (fun x hx => h x (List.mem_cons_of_mem _ hx))
    rw [join_cons, List.append_assoc, List.cons_append, partsE_cut _ (h w (by simp)), ih]
theorem cut_at {w r : List UInt8} (h : (32 : UInt8) ∉ w) : Lib.cut (w ++ 32 :: r) [32] = (w, r, true) := by
  unfold Lib.cut
  rw [idx_at h, if_pos (by omega)]
  have e1 : ((w.length : Int)).toNat = w.length := by simp
  rw [e1]
  simp
theorem cut_no {w : List UInt8} (h : (32 : UInt8) ∉ w) : Lib.cut w [32] = (w, [], false) := by
  unfold Lib.cut
  rw [idx_none h, if_neg (by omega)]
noncomputable def rulS (ns : List Int) : Rul := if ns.length = 5 then ⟨ns.getD 0 0, ns.getD 1 0, ns.getD 2 0, ns.getD 3 0, ns.getD 4 0⟩ else noR
def wTake : List UInt8 := [116, 97, 107, 101]
def wSync : List UInt8 := [115, 121, 110, 99]
def wCrash : List UInt8 := [99, 114, 97, 115, 104]
def wStart : List UInt8 := [115, 116, 97, 114, 116]
def wTurn : List UInt8 := [116, 117, 114, 110]
/-- What a head and a rest say. -/
noncomputable def saidS (h : List UInt8) (e : Ev) (v : List Int) : Stp :=
  if h = wTake then ⟨1, e, [], noR⟩
  else if h = wSync then ⟨2, noE, [], noR⟩
  else if h = wCrash then ⟨3, noE, v, noR⟩
  else if h = wStart then ⟨4, noE, [], noR⟩
  else if h = wTurn then ⟨5, noE, [], rulS v⟩
  else ⟨0, noE, [], noR⟩
noncomputable def saidI (l : List UInt8) : Stp := saidS (Lib.cut l [32]).1 (evS (Lib.cut l [32]).2.1) (goodN (partsE 32 ((Lib.cut l [32]).2.1 ++ [32])))
noncomputable def saidM (l : List UInt8) : Stp := saidS ((partsE 32 (l ++ [32])).headD []) (if 5 < l.length then evS (l.drop 5) else noE) ((partsE 32 (l ++ [32])).tail.map txN)
theorem amtB_bounds {n : Int} (h : amtB n = true) : -1125899906842624 ≤ n ∧ n ≤ 1125899906842624 := by
  simp [amtB] at h; omega
theorem ppm_bounds {r : Rul} (h : ruleB r = true) : ∀ n ∈ [r.lo, r.hi, r.st, r.mi, r.ma], -1125899906842624 ≤ n ∧ n ≤ 1125899906842624 := by
  obtain ⟨h0, h1, h2, h3, h4⟩ := ruleB_true h
  have hb : (0 ≤ r.lo ∧ r.lo ≤ 1000000) ∧ (0 ≤ r.hi ∧ r.hi ≤ 1000000) := by
    simp [bandB] at h0
    omega
  intro n hn
  simp only [List.mem_cons, List.not_mem_nil, or_false] at hn
  rcases hn with rfl | rfl | rfl | rfl | rfl <;> omega
/-- Numbers that stand behind a word. -/
theorem sen_parts {W : List UInt8} (hW : (32 : UInt8) ∉ W) (ns : List Int) (hn : ∀ n ∈ ns, -1125899906842624 ≤ n ∧ n ≤ 1125899906842624) :
    partsE 32 (sen W ns ++ [32]) = W :: ns.map numT ∧ (ns.map numT).map txN = ns ∧ (Lib.cut (sen W ns) [32]).1 = W ∧ goodN (partsE 32 ((Lib.cut (sen W ns) [32]).2.1 ++ [32])) = ns := by
  have hb : ∀ w ∈ ns.map numT, (32 : UInt8) ∉ w := by
    intro w hw
    obtain ⟨n, _, rfl⟩ := List.mem_map.1 hw
    exact num_blank n
  have ht : (ns.map numT).map txN = ns := by
    rw [List.map_map]
    conv => rhs; rw [← List.map_id ns]
    refine List.map_congr_left fun n hx => ?_
    exact tx_num (hn n hx).1 (hn n hx).2
  have hg : ∀ x ∈ ns.map numT, okN x = true := by
    intro x hx
    obtain ⟨n, h1, rfl⟩ := List.mem_map.1 hx
    exact okN_num (num_ne (hn n h1).1 (hn n h1).2)
  refine ⟨?_, ht, ?_, ?_⟩
  · rw [sen_join]
    refine parts_join _ (by simp) ?_
    intro w hw
    rcases List.mem_cons.1 hw with rfl | hw
    · exact hW
    · exact hb w hw
  · cases ns with
    | nil => rw [show sen W [] = W by simp [sen, senN], cut_no hW]
    | cons n r => rw [sen_join, List.map_cons, join_cons, cut_at hW]
  · cases ns with
    | nil =>
      rw [show sen W [] = W by simp [sen, senN], cut_no hW]
      simp [partsE, goodN, okN]
    | cons n r =>
      rw [sen_join, List.map_cons, join_cons, cut_at hW]
      dsimp only
      rw [← List.map_cons, parts_join _ (by simp) hb, goodN_all hg, ht]
theorem stp_take {D : Stp} (h : stpB D = true) (hk : D.k = 1) : evB D.e.k D.e.y D.e.c D.e.t D.e.m D.e.f D.e.b = true ∧ D = ⟨1, D.e, [], noR⟩ ∧ stT D = wTake ++ 32 :: evT D.e.k D.e.y D.e.c D.e.t D.e.m D.e.f D.e.b := by
  obtain ⟨k, e, ks, r⟩ := D
  dsimp only at hk
  subst hk
  simp only [stpB, if_pos, Bool.and_eq_true] at h
  obtain ⟨⟨h1, h2⟩, h3⟩ := h
  rw [noK_eq h2, zeroR_eq h3]
  exact ⟨h1, rfl, by simp [stT, wTake]⟩
theorem stp_plain {D : Stp} {K : Int} (hK : K = 2 ∨ K = 4) (h : stpB D = true) (hk : D.k = K) : D = ⟨K, noE, [], noR⟩ := by
  obtain ⟨k, e, ks, r⟩ := D
  dsimp only at hk
  subst hk
  have h1 : ¬ k = 1 := by omega
  simp only [stpB, h1, hK, if_true, if_false, Bool.and_eq_true] at h
  rw [noK_eq h.1.2, zeroR_eq h.2, zeroE_eq h.1.1]
theorem stp_crash {D : Stp} (h : stpB D = true) (hk : D.k = 3) : (∀ n ∈ D.ks, -1125899906842624 ≤ n ∧ n ≤ 1125899906842624) ∧ D = ⟨3, noE, D.ks, noR⟩ ∧ stT D = sen wCrash D.ks := by
  obtain ⟨k, e, ks, r⟩ := D
  dsimp only at hk
  subst hk
  have h2 : (zeroE e && allA ks && zeroR r) = true := h
  simp only [Bool.and_eq_true] at h2
  rw [zeroR_eq h2.2, zeroE_eq h2.1.1]
  refine ⟨fun n hn => amtB_bounds (List.all_eq_true.1 h2.1.2 n hn), rfl, rfl⟩
theorem stp_turn {D : Stp} (h : stpB D = true) (hk : D.k = 5) : (∀ n ∈ [D.r.lo, D.r.hi, D.r.st, D.r.mi, D.r.ma], -1125899906842624 ≤ n ∧ n ≤ 1125899906842624) ∧ D = ⟨5, noE, [], D.r⟩ ∧ stT D = sen wTurn [D.r.lo, D.r.hi, D.r.st, D.r.mi, D.r.ma] := by
  obtain ⟨k, e, ks, r⟩ := D
  dsimp only at hk
  subst hk
  have h2 : (zeroE e && noK ks && ruleB r) = true := h
  simp only [Bool.and_eq_true] at h2
  rw [noK_eq h2.1.2, zeroE_eq h2.1.1]
  exact ⟨ppm_bounds h2.2, rfl, rfl⟩
theorem stp_kinds {D : Stp} (h : stpB D = true) : D.k = 1 ∨ D.k = 2 ∨ D.k = 3 ∨ D.k = 4 ∨ D.k = 5 := by
  unfold stpB at h
  by_cases h1 : D.k = 1
  · exact Or.inl h1
  by_cases h2 : D.k = 2
  · exact Or.inr (Or.inl h2)
  by_cases h3 : D.k = 3
  · exact Or.inr (Or.inr (Or.inl h3))
  by_cases h4 : D.k = 4
  · exact Or.inr (Or.inr (Or.inr (Or.inl h4)))
  by_cases h5 : D.k = 5
  · exact Or.inr (Or.inr (Or.inr (Or.inr h5)))
  simp [h1, h2, h3, h4, h5] at h
theorem rulS_five (r : Rul) : rulS [r.lo, r.hi, r.st, r.mi, r.ma] = r := by
  obtain ⟨a, b, c, d, e⟩ := r
  rfl
theorem wNo : (32 : UInt8) ∉ wTake ∧ (32 : UInt8) ∉ wSync ∧ (32 : UInt8) ∉ wCrash ∧ (32 : UInt8) ∉ wStart ∧ (32 : UInt8) ∉ wTurn := by decide
theorem evT_ne (k y c t m f : Int) (b : Bool) : evT k y c t m f b = join (evW k y c t m f b) := rfl
theorem saidI_eq {D : Stp} (h : stpB D = true) : saidI (stT D) = D := by
  rcases stp_kinds h with hk | hk | hk | hk | hk
  · obtain ⟨h1, h2, h3⟩ := stp_take h hk
    unfold saidI
    rw [h3, cut_at wNo.1]
    dsimp only
    rw [evS_eq h1 rfl]
    unfold saidS
    rw [if_pos rfl]
    exact h2.symm
  · have h2 := stp_plain (Or.inl rfl) h hk
    have h3 : stT D = wSync := by rw [h2]; rfl
    unfold saidI
    rw [h3, cut_no wNo.2.1]
    exact h2.symm
  · obtain ⟨h1, h2, h3⟩ := stp_crash h hk
    obtain ⟨_, _, g3, g4⟩ := sen_parts wNo.2.2.1 D.ks h1
    unfold saidI
    rw [h3, g3, g4]
    exact h2.symm
  · have h2 := stp_plain (Or.inr rfl) h hk
    have h3 : stT D = wStart := by rw [h2]; rfl
    unfold saidI
    rw [h3, cut_no wNo.2.2.2.1]
    exact h2.symm
  · obtain ⟨h1, h2, h3⟩ := stp_turn h hk
    obtain ⟨_, _, g3, g4⟩ := sen_parts wNo.2.2.2.2 _ h1
    unfold saidI
    rw [h3, g3, g4]
    show (⟨5, noE, [], rulS _⟩ : Stp) = D
    rw [rulS_five]
    exact h2.symm
theorem saidM_eq {D : Stp} (h : stpB D = true) : saidM (stT D) = D := by
  rcases stp_kinds h with hk | hk | hk | hk | hk
  · obtain ⟨h1, h2, h3⟩ := stp_take h hk
    have hw := words_len D.e.k D.e.y D.e.c D.e.t D.e.m D.e.f D.e.b
    have hb := words_blank D.e.k D.e.y D.e.c D.e.t D.e.m D.e.f D.e.b
    have e1 : partsE 32 (stT D ++ [32]) = wTake :: evW D.e.k D.e.y D.e.c D.e.t D.e.m D.e.f D.e.b := by
      rw [h3, List.append_assoc, List.cons_append, partsE_cut _ wNo.1, evT_ne, parts_join _ hw.2 hb]
    have hne : 0 < (evT D.e.k D.e.y D.e.c D.e.t D.e.m D.e.f D.e.b).length := by
      rcases Nat.eq_zero_or_pos (evT D.e.k D.e.y D.e.c D.e.t D.e.m D.e.f D.e.b).length with h4 | h4
      · exfalso
        have h5 := List.length_eq_zero_iff.1 h4
        have h6 := ev_split D.e.k D.e.y D.e.c D.e.t D.e.m D.e.f D.e.b 5 (by omega)
        rw [h5] at h6
        have h7 : Lib.splitK [32] 0 5 [] = [[]] := by decide
        rw [h7] at h6
        have h8 := said_again h1
        rw [← h6] at h8
        have h9 := congrArg Ev.k h8
        have h10 := (ev_bounds h1).1
        simp only at h9
        rw [show (said [[]]).k = 0 by rfl] at h9
        omega
      · exact h4
    unfold saidM
    rw [e1]
    have e2 : 5 < (stT D).length := by rw [h3]; simp [wTake]; omega
    have e3 : (stT D).drop 5 = evT D.e.k D.e.y D.e.c D.e.t D.e.m D.e.f D.e.b := by rw [h3]; rfl
    rw [if_pos e2, e3, evS_eq h1 rfl]
    exact h2.symm
  · have h2 := stp_plain (Or.inl rfl) h hk
    have h3 : stT D = wSync := by rw [h2]; rfl
    have e1 : partsE 32 (stT D ++ [32]) = [wSync] := by rw [h3, partsE_cut [] wNo.2.1]; rfl
    unfold saidM
    rw [e1]
    exact h2.symm
  · obtain ⟨h1, h2, h3⟩ := stp_crash h hk
    obtain ⟨g1, g2, _, _⟩ := sen_parts wNo.2.2.1 D.ks h1
    unfold saidM
    rw [h3, g1, List.tail_cons, g2]
    exact h2.symm
  · have h2 := stp_plain (Or.inr rfl) h hk
    have h3 : stT D = wStart := by rw [h2]; rfl
    have e1 : partsE 32 (stT D ++ [32]) = [wStart] := by rw [h3, partsE_cut [] wNo.2.2.2.1]; rfl
    unfold saidM
    rw [e1]
    exact h2.symm
  · obtain ⟨h1, h2, h3⟩ := stp_turn h hk
    obtain ⟨g1, g2, _, _⟩ := sen_parts wNo.2.2.2.2 _ h1
    unfold saidM
    rw [h3, g1, List.tail_cons, g2]
    show (⟨5, noE, [], rulS _⟩ : Stp) = D
    rw [rulS_five]
    exact h2.symm
theorem stT_inj {D D' : Stp} (h : stpB D = true) (h' : stpB D' = true) (e : stT D = stT D') : D = D' := by
  rw [← saidI_eq h, ← saidI_eq h', e]
theorem stT_ne {D : Stp} (h : stpB D = true) : stT D ≠ [] := by
  rcases stp_kinds h with hk | hk | hk | hk | hk
  · rw [(stp_take h hk).2.2]; simp [wTake]
  · rw [stp_plain (Or.inl rfl) h hk]; simp [stT]
  · rw [(stp_crash h hk).2.2]; simp [sen, wCrash]
  · rw [stp_plain (Or.inr rfl) h hk]; simp [stT]
  · rw [(stp_turn h hk).2.2]; simp [sen, wTurn]
/-- What TextStep answers. -/
def TsPost (s : ByteArray) (w w' : World) (x : Ending) : Prop :=
  (∃ (D : Stp) (a : Option Addr) (c : Nat), stpB D = true ∧ stT D = s.data.toList ∧ x = .returned (.tuple #[D.v a c, .bool true]) ∧ OwnsI w' w.heap.size (.slice a D.ks.length c) D.ks) ∨
  ((∀ D, stpB D = true → stT D ≠ s.data.toList) ∧ x = .returned (.tuple #[Stp.v ⟨0, noE, [], noR⟩ none 0, .bool false]))
end Go.Proofs.YtkgpoghoilffhaaGreatDoor
namespace Go.Proofs.YtkgpoghoilffhaaGreatDoor
open Go.RowKit Go.Deep
set_option linter.unusedVariables false
set_option linter.unusedSimpArgs false
set_option maxRecDepth 10000
def stF (k : Int) (zE zK zR bE bA bR : Bool) : Bool :=
  if k = 1 then bE && zK && zR else if k = 2 ∨ k = 4 then zE && zK && zR else if k = 3 then zE && bA && zR else if k = 5 then zE && zK && bR else false
set_option maxHeartbeats 8000000 in
theorem stepok_1 (e : Ev) (ks : List Int) (r : Rul) (a : Option Addr) (c : Nat) (zE zK zR bE bA bR : Bool) (w : World) (hzE : ∀ w, (binOp .eql 28 (evV e.k e.y e.c e.t e.m e.f e.b) (evV 0 0 0 0 0 0 false)).run Tryz.prog w = .ok (.bool zE) w) (hzR : ∀ w, (binOp .eql 31 r.v noR.v).run Tryz.prog w = .ok (.bool zR) w) (hzK : ((ks.length : Int) == 0) = zK)
    (hE : ∀ w, Calls Tryz.prog 36 #[evV e.k e.y e.c e.t e.m e.f e.b] w fun x w' => x = .returned (.bool bE) ∧ Keeps w w') (hA : ∀ w', Keeps w w' → Calls Tryz.prog 37 #[.slice a ks.length c] w' fun x w'' => x = .returned (.bool bA) ∧ w'' = w') (hR : ∀ w, Calls Tryz.prog 38 #[r.v] w fun x w' => x = .returned (.bool bR) ∧ Keeps w w') :
    Calls Tryz.prog 22 #[Stp.v ⟨1, e, ks, r⟩ a c] w fun x w' => x = .returned (.bool (stF 1 zE zK zR bE bA bR)) ∧ Keeps w w' := by
  have HK := hide (Keeps.alloc (Keeps.refl w) (.cells (Stp.cells ⟨1, e, ks, r⟩ a c) 33))
  have HB := hide (stp_box ⟨1, e, ks, r⟩ a c w 33)
  have HE := hide hE
  have HA := hide hA
  have HR := hide hR
  dsimp only [Rul.v, noR] at hzR HR
  clear hE hA hR
  go_enter Tryz.func22, Tryz.ntmps22
  go_upto_region 2 with fail
  generalize w.alloc (.cells (Stp.cells ⟨1, e, ks, r⟩ a c) 33) = W1 at *
  obtain ⟨c0, ⟨c1, c2, c3, c4, c5, c6, c7⟩, c8, c9, c10, c11, c12, c13⟩ := HB.out W1 (Keeps.refl _)
  go_quiet (fail)
  clear c0 c1 c2 c3 c4 c5 c6 c7 c8 c9 c10 c11 c12 c13
  have hcl := HB.out _ ((Keeps.refl W1).drewN nq)
  replace HK := hide (HK.out.drewN nq)
  generalize W1.drewN nq = W2 at *
  obtain ⟨c0, ⟨c1, c2, c3, c4, c5, c6, c7⟩, c8, c9, c10, c11, c12, c13⟩ := hcl
  cases zK <;> cases zR <;> cases bE
  all_goals
    go_wp2_with fail
    first
      | (go_ret; exact ⟨rfl, HK.out⟩)
      | (refine (unhide HE _).mono ?_
         rintro x w1 ⟨rfl, hk1⟩
         go_wp2_with fail
         go_ret
         exact ⟨rfl, HK.out.trans hk1⟩)
set_option maxHeartbeats 8000000 in
theorem stepok_2 (e : Ev) (ks : List Int) (r : Rul) (a : Option Addr) (c : Nat) (zE zK zR bE bA bR : Bool) (w : World) (hzE : ∀ w, (binOp .eql 28 (evV e.k e.y e.c e.t e.m e.f e.b) (evV 0 0 0 0 0 0 false)).run Tryz.prog w = .ok (.bool zE) w) (hzR : ∀ w, (binOp .eql 31 r.v noR.v).run Tryz.prog w = .ok (.bool zR) w) (hzK : ((ks.length : Int) == 0) = zK)
    (hE : ∀ w, Calls Tryz.prog 36 #[evV e.k e.y e.c e.t e.m e.f e.b] w fun x w' => x = .returned (.bool bE) ∧ Keeps w w') (hA : ∀ w', Keeps w w' → Calls Tryz.prog 37 #[.slice a ks.length c] w' fun x w'' => x = .returned (.bool bA) ∧ w'' = w') (hR : ∀ w, Calls Tryz.prog 38 #[r.v] w fun x w' => x = .returned (.bool bR) ∧ Keeps w w') :
    Calls Tryz.prog 22 #[Stp.v ⟨2, e, ks, r⟩ a c] w fun x w' => x = .returned (.bool (stF 2 zE zK zR bE bA bR)) ∧ Keeps w w' := by
  have HK := hide (Keeps.alloc (Keeps.refl w) (.cells (Stp.cells ⟨2, e, ks, r⟩ a c) 33))
  have HB := hide (stp_box ⟨2, e, ks, r⟩ a c w 33)
  have HE := hide hE
  have HA := hide hA
  have HR := hide hR
  dsimp only [Rul.v, noR] at hzR HR
  clear hE hA hR
  go_enter Tryz.func22, Tryz.ntmps22
  go_upto_region 2 with fail
  generalize w.alloc (.cells (Stp.cells ⟨2, e, ks, r⟩ a c) 33) = W1 at *
  obtain ⟨c0, ⟨c1, c2, c3, c4, c5, c6, c7⟩, c8, c9, c10, c11, c12, c13⟩ := HB.out W1 (Keeps.refl _)
  go_quiet (fail)
  clear c0 c1 c2 c3 c4 c5 c6 c7 c8 c9 c10 c11 c12 c13
  have hcl := HB.out _ ((Keeps.refl W1).drewN nq)
  replace HK := hide (HK.out.drewN nq)
  generalize W1.drewN nq = W2 at *
  obtain ⟨c0, ⟨c1, c2, c3, c4, c5, c6, c7⟩, c8, c9, c10, c11, c12, c13⟩ := hcl
  cases zE <;> cases zK <;> cases zR
  all_goals
    go_wp2_with fail
    go_ret
    exact ⟨rfl, HK.out⟩
set_option maxHeartbeats 8000000 in
theorem stepok_4 (e : Ev) (ks : List Int) (r : Rul) (a : Option Addr) (c : Nat) (zE zK zR bE bA bR : Bool) (w : World) (hzE : ∀ w, (binOp .eql 28 (evV e.k e.y e.c e.t e.m e.f e.b) (evV 0 0 0 0 0 0 false)).run Tryz.prog w = .ok (.bool zE) w) (hzR : ∀ w, (binOp .eql 31 r.v noR.v).run Tryz.prog w = .ok (.bool zR) w) (hzK : ((ks.length : Int) == 0) = zK)
    (hE : ∀ w, Calls Tryz.prog 36 #[evV e.k e.y e.c e.t e.m e.f e.b] w fun x w' => x = .returned (.bool bE) ∧ Keeps w w') (hA : ∀ w', Keeps w w' → Calls Tryz.prog 37 #[.slice a ks.length c] w' fun x w'' => x = .returned (.bool bA) ∧ w'' = w') (hR : ∀ w, Calls Tryz.prog 38 #[r.v] w fun x w' => x = .returned (.bool bR) ∧ Keeps w w') :
    Calls Tryz.prog 22 #[Stp.v ⟨4, e, ks, r⟩ a c] w fun x w' => x = .returned (.bool (stF 4 zE zK zR bE bA bR)) ∧ Keeps w w' := by
  have HK := hide (Keeps.alloc (Keeps.refl w) (.cells (Stp.cells ⟨4, e, ks, r⟩ a c) 33))
  have HB := hide (stp_box ⟨4, e, ks, r⟩ a c w 33)
  have HE := hide hE
  have HA := hide hA
  have HR := hide hR
  dsimp only [Rul.v, noR] at hzR HR
  clear hE hA hR
  go_enter Tryz.func22, Tryz.ntmps22
  go_upto_region 2 with fail
  generalize w.alloc (.cells (Stp.cells ⟨4, e, ks, r⟩ a c) 33) = W1 at *
  obtain ⟨c0, ⟨c1, c2, c3, c4, c5, c6, c7⟩, c8, c9, c10, c11, c12, c13⟩ := HB.out W1 (Keeps.refl _)
  go_quiet (fail)
  clear c0 c1 c2 c3 c4 c5 c6 c7 c8 c9 c10 c11 c12 c13
  have hcl := HB.out _ ((Keeps.refl W1).drewN nq)
  replace HK := hide (HK.out.drewN nq)
  generalize W1.drewN nq = W2 at *
  obtain ⟨c0, ⟨c1, c2, c3, c4, c5, c6, c7⟩, c8, c9, c10, c11, c12, c13⟩ := hcl
  cases zE <;> cases zK <;> cases zR
  all_goals
    go_wp2_with fail
    go_ret
    exact ⟨rfl, HK.out⟩
set_option maxHeartbeats 8000000 in
theorem stepok_3 (e : Ev) (ks : List Int) (r : Rul) (a : Option Addr) (c : Nat) (zE zK zR bE bA bR : Bool) (w : World) (hzE : ∀ w, (binOp .eql 28 (evV e.k e.y e.c e.t e.m e.f e.b) (evV 0 0 0 0 0 0 false)).run Tryz.prog w = .ok (.bool zE) w) (hzR : ∀ w, (binOp .eql 31 r.v noR.v).run Tryz.prog w = .ok (.bool zR) w) (hzK : ((ks.length : Int) == 0) = zK)
    (hE : ∀ w, Calls Tryz.prog 36 #[evV e.k e.y e.c e.t e.m e.f e.b] w fun x w' => x = .returned (.bool bE) ∧ Keeps w w') (hA : ∀ w', Keeps w w' → Calls Tryz.prog 37 #[.slice a ks.length c] w' fun x w'' => x = .returned (.bool bA) ∧ w'' = w') (hR : ∀ w, Calls Tryz.prog 38 #[r.v] w fun x w' => x = .returned (.bool bR) ∧ Keeps w w') :
    Calls Tryz.prog 22 #[Stp.v ⟨3, e, ks, r⟩ a c] w fun x w' => x = .returned (.bool (stF 3 zE zK zR bE bA bR)) ∧ Keeps w w' := by
  have HK := hide (Keeps.alloc (Keeps.refl w) (.cells (Stp.cells ⟨3, e, ks, r⟩ a c) 33))
  have HB := hide (stp_box ⟨3, e, ks, r⟩ a c w 33)
  have HE := hide hE
  have HA := hide hA
  have HR := hide hR
  dsimp only [Rul.v, noR] at hzR HR
  clear hE hA hR
  go_enter Tryz.func22, Tryz.ntmps22
  go_upto_region 2 with fail
  generalize w.alloc (.cells (Stp.cells ⟨3, e, ks, r⟩ a c) 33) = W1 at *
  obtain ⟨c0, ⟨c1, c2, c3, c4, c5, c6, c7⟩, c8, c9, c10, c11, c12, c13⟩ := HB.out W1 (Keeps.refl _)
  go_quiet (fail)
  clear c0 c1 c2 c3 c4 c5 c6 c7 c8 c9 c10 c11 c12 c13
  have hcl := HB.out _ ((Keeps.refl W1).drewN nq)
  replace HK := hide (HK.out.drewN nq)
  generalize W1.drewN nq = W2 at *
  obtain ⟨c0, ⟨c1, c2, c3, c4, c5, c6, c7⟩, c8, c9, c10, c11, c12, c13⟩ := hcl
  cases zE <;> cases bA <;> cases zR
  all_goals
    go_wp2_with fail
    first
      | (go_ret; exact ⟨rfl, HK.out⟩)
      | (refine (unhide HA _ HK.out).mono ?_
         rintro x w1 ⟨rfl, hw⟩; obtain rfl := Eq.symm hw; clear hw
         go_wp2_with fail
         go_ret
         exact ⟨rfl, HK.out⟩)
set_option maxHeartbeats 8000000 in
theorem stepok_5 (e : Ev) (ks : List Int) (r : Rul) (a : Option Addr) (c : Nat) (zE zK zR bE bA bR : Bool) (w : World) (hzE : ∀ w, (binOp .eql 28 (evV e.k e.y e.c e.t e.m e.f e.b) (evV 0 0 0 0 0 0 false)).run Tryz.prog w = .ok (.bool zE) w) (hzR : ∀ w, (binOp .eql 31 r.v noR.v).run Tryz.prog w = .ok (.bool zR) w) (hzK : ((ks.length : Int) == 0) = zK)
    (hE : ∀ w, Calls Tryz.prog 36 #[evV e.k e.y e.c e.t e.m e.f e.b] w fun x w' => x = .returned (.bool bE) ∧ Keeps w w') (hA : ∀ w', Keeps w w' → Calls Tryz.prog 37 #[.slice a ks.length c] w' fun x w'' => x = .returned (.bool bA) ∧ w'' = w') (hR : ∀ w, Calls Tryz.prog 38 #[r.v] w fun x w' => x = .returned (.bool bR) ∧ Keeps w w') :
    Calls Tryz.prog 22 #[Stp.v ⟨5, e, ks, r⟩ a c] w fun x w' => x = .returned (.bool (stF 5 zE zK zR bE bA bR)) ∧ Keeps w w' := by
  have HK := hide (Keeps.alloc (Keeps.refl w) (.cells (Stp.cells ⟨5, e, ks, r⟩ a c) 33))
  have HB := hide (stp_box ⟨5, e, ks, r⟩ a c w 33)
  have HE := hide hE
  have HA := hide hA
  have HR := hide hR
  dsimp only [Rul.v, noR] at hzR HR
  clear hE hA hR
  go_enter Tryz.func22, Tryz.ntmps22
  go_upto_region 2 with fail
  generalize w.alloc (.cells (Stp.cells ⟨5, e, ks, r⟩ a c) 33) = W1 at *
  obtain ⟨c0, ⟨c1, c2, c3, c4, c5, c6, c7⟩, c8, c9, c10, c11, c12, c13⟩ := HB.out W1 (Keeps.refl _)
  go_quiet (fail)
  clear c0 c1 c2 c3 c4 c5 c6 c7 c8 c9 c10 c11 c12 c13
  have hcl := HB.out _ ((Keeps.refl W1).drewN nq)
  replace HK := hide (HK.out.drewN nq)
  generalize W1.drewN nq = W2 at *
  obtain ⟨c0, ⟨c1, c2, c3, c4, c5, c6, c7⟩, c8, c9, c10, c11, c12, c13⟩ := hcl
  cases zE <;> cases zK <;> cases bR
  all_goals
    go_wp2_with fail
    first
      | (go_ret; exact ⟨rfl, HK.out⟩)
      | (refine (unhide HR _).mono ?_
         rintro x w1 ⟨rfl, hk1⟩
         go_wp2_with fail
         go_ret
         exact ⟨rfl, HK.out.trans hk1⟩)
set_option maxHeartbeats 8000000 in
theorem stepok_0 (k : Int) (e : Ev) (ks : List Int) (r : Rul) (a : Option Addr) (c : Nat) (zE zK zR bE bA bR : Bool) (w : World) (hzE : ∀ w, (binOp .eql 28 (evV e.k e.y e.c e.t e.m e.f e.b) (evV 0 0 0 0 0 0 false)).run Tryz.prog w = .ok (.bool zE) w) (hzR : ∀ w, (binOp .eql 31 r.v noR.v).run Tryz.prog w = .ok (.bool zR) w) (hzK : ((ks.length : Int) == 0) = zK)
    (hE : ∀ w, Calls Tryz.prog 36 #[evV e.k e.y e.c e.t e.m e.f e.b] w fun x w' => x = .returned (.bool bE) ∧ Keeps w w') (hA : ∀ w', Keeps w w' → Calls Tryz.prog 37 #[.slice a ks.length c] w' fun x w'' => x = .returned (.bool bA) ∧ w'' = w') (hR : ∀ w, Calls Tryz.prog 38 #[r.v] w fun x w' => x = .returned (.bool bR) ∧ Keeps w w') (hk : k ≠ 1 ∧ k ≠ 2 ∧ k ≠ 3 ∧ k ≠ 4 ∧ k ≠ 5) :
    Calls Tryz.prog 22 #[Stp.v ⟨k, e, ks, r⟩ a c] w fun x w' => x = .returned (.bool (stF k zE zK zR bE bA bR)) ∧ Keeps w w' := by
  have HK := hide (Keeps.alloc (Keeps.refl w) (.cells (Stp.cells ⟨k, e, ks, r⟩ a c) 33))
  have HB := hide (stp_box ⟨k, e, ks, r⟩ a c w 33)
  have HE := hide hE
  have HA := hide hA
  have HR := hide hR
  dsimp only [Rul.v, noR] at hzR HR
  clear hE hA hR
  obtain ⟨h1, h2, h3, h4, h5⟩ := hk
  have HF : Hid (stF k zE zK zR bE bA bR = false) := by show _ = _; simp [stF, h1, h2, h3, h4, h5]
  go_enter Tryz.func22, Tryz.ntmps22
  go_upto_region 2 with fail
  generalize w.alloc (.cells (Stp.cells ⟨k, e, ks, r⟩ a c) 33) = W1 at *
  obtain ⟨c0, ⟨c1, c2, c3, c4, c5, c6, c7⟩, c8, c9, c10, c11, c12, c13⟩ := HB.out W1 (Keeps.refl _)
  go_quiet (fail)
  clear c0 c1 c2 c3 c4 c5 c6 c7 c8 c9 c10 c11 c12 c13
  have hcl := HB.out _ ((Keeps.refl W1).drewN nq)
  replace HK := hide (HK.out.drewN nq)
  generalize W1.drewN nq = W2 at *
  obtain ⟨c0, ⟨c1, c2, c3, c4, c5, c6, c7⟩, c8, c9, c10, c11, c12, c13⟩ := hcl
  go_wp2_with fail
  go_ret
  exact ⟨ret_b HF.out.symm, HK.out⟩
theorem stF_eq (D : Stp) : stF D.k (zeroE D.e) (noK D.ks) (zeroR D.r) (evB D.e.k D.e.y D.e.c D.e.t D.e.m D.e.f D.e.b) (allA D.ks) (ruleB D.r) = stpB D := rfl
theorem stepok_impl (D : Stp) (a : Option Addr) (c : Nat) (w : World) (hc : Cells w a (its D.ks)) (hl : D.ks.length ≤ 1048576) :
    Calls Tryz.prog 22 #[D.v a c] w fun e w' => e = .returned (.bool (stpB D)) ∧ Keeps w w' := by
  have hK : ((D.ks.length : Int) == 0) = noK D.ks := by
    unfold noK
    cases h : D.ks.length == 0
    · have h2 : D.ks.length ≠ 0 := by simpa using h
      simp
      intro h3; exact h2 (by simp [h3])
    · have h2 : D.ks.length = 0 := by simpa using h
      rw [h2]; rfl
  have hA := fun w' (hk : Keeps w w') => allamts_k a c D.ks w' (hc.kept hk) hl
  have hE := fun w' => evok_impl D.e.k D.e.y D.e.c D.e.t D.e.m D.e.f D.e.b w'
  have hR := fun w' => rule_impl D.r w'
  have q1 := ev_eql D.e.k D.e.y D.e.c D.e.t D.e.m D.e.f D.e.b 0 0 0 0 0 0 false
  have q2 := rul_eql D.r noR
  rw [← stF_eq]
  obtain ⟨k, e, ks, r⟩ := D
  dsimp only at *
  by_cases h1 : k = 1
  · subst h1; exact stepok_1 e ks r a c _ _ _ _ _ _ w q1 q2 hK hE hA hR
  by_cases h2 : k = 2
  · subst h2; exact stepok_2 e ks r a c _ _ _ _ _ _ w q1 q2 hK hE hA hR
  by_cases h3 : k = 3
  · subst h3; exact stepok_3 e ks r a c _ _ _ _ _ _ w q1 q2 hK hE hA hR
  by_cases h4 : k = 4
  · subst h4; exact stepok_4 e ks r a c _ _ _ _ _ _ w q1 q2 hK hE hA hR
  by_cases h5 : k = 5
  · subst h5; exact stepok_5 e ks r a c _ _ _ _ _ _ w q1 q2 hK hE hA hR
  exact stepok_0 k e ks r a c _ _ _ _ _ _ w q1 q2 hK hE hA hR ⟨h1, h2, h3, h4, h5⟩

end Go.Proofs.YtkgpoghoilffhaaGreatDoor
namespace Go.Proofs.YtkgpoghoilffhaaGreatDoor
open Go.RowKit Go.Deep
set_option linter.unusedVariables false
set_option linter.unusedSimpArgs false
set_option maxRecDepth 10000
theorem st_cat (X Y : List UInt8) : Ending.returned (.string ((⟨X.toArray⟩ : ByteArray) ++ ⟨Y.toArray⟩)) = .returned (.string ⟨(X ++ Y).toArray⟩) := by
  congr 2
theorem evT_len {k y c t m f : Int} {b : Bool} (h : evB k y c t m f b = true) : (evT k y c t m f b).length ≤ 200 := by
  have hk := (ev_bounds h).1
  have hs : ∀ (W : List UInt8) (ns : List Int), W.length ≤ 8 → ns.length ≤ 5 → (sen W ns).length ≤ 118 := by
    intro W ns h1 h2
    have := senN_len ns
    unfold sen
    simp only [List.length_append]
    omega
  have hq : k = 1 ∨ k = 2 ∨ k = 3 ∨ k = 4 ∨ k = 5 ∨ k = 6 ∨ k = 7 ∨ k = 8 ∨ k = 9 ∨ k = 10 ∨ k = 11 := by omega
  rcases hq with rfl | rfl | rfl | rfl | rfl | rfl | rfl | rfl | rfl | rfl | rfl
  · rw [evT_1]; exact Nat.le_trans (hs _ _ (by simp) (by simp)) (by decide)
  · rw [evT_2]; exact Nat.le_trans (hs _ _ (by simp) (by simp)) (by decide)
  · rw [evT_3]; exact Nat.le_trans (hs _ _ (by simp) (by simp)) (by decide)
  · rw [evT_4]; exact Nat.le_trans (hs _ _ (by simp) (by simp)) (by decide)
  · rw [evT_5, List.length_append]
    have h1 := hs [97, 100, 109, 105, 116] [y, c, t, m] (by simp) (by simp)
    split <;> simp only [List.length_cons, List.length_nil] <;> omega
  · rw [evT_6]; exact Nat.le_trans (hs _ _ (by simp) (by simp)) (by decide)
  · rw [evT_7]; exact Nat.le_trans (hs _ _ (by simp) (by simp)) (by decide)
  · rw [evT_8]; exact Nat.le_trans (hs _ _ (by simp) (by simp)) (by decide)
  · rw [evT_9]; exact Nat.le_trans (hs _ _ (by simp) (by simp)) (by decide)
  · rw [evT_10]; exact Nat.le_trans (hs _ _ (by simp) (by simp)) (by decide)
  · rw [evT_11]; exact Nat.le_trans (hs _ _ (by simp) (by simp)) (by decide)
theorem etL_len (k y c t m f : Int) (b : Bool) : (etL k y c t m f b).length ≤ 200 := by
  unfold etL
  split
  · next h => exact evT_len h
  · simp
theorem ret_stL {X : List UInt8} {D : Stp} (h : X = stL D) : Ending.returned (.string ⟨X.toArray⟩) = .returned (.string ⟨(stL D).toArray⟩) := by rw [h]
theorem stL_yes {D : Stp} (h : stpB D = true) : stL D = stT D := by unfold stL; rw [if_pos h]
theorem stL_no {D : Stp} (h : stpB D = false) : stL D = [] := by unfold stL; rw [if_neg (by simp [h])]
set_option maxHeartbeats 4000000 in
theorem stept_no (D : Stp) (a : Option Addr) (c : Nat) (w : World) (hc : Cells w a (its D.ks)) (hl : D.ks.length ≤ 1048576) (ht : Tab w) (hB : stpB D = false) :
    Calls Tryz.prog 8 #[D.v a c] w fun e w' => e = .returned (.string ⟨(stL D).toArray⟩) ∧ Keeps w w' := by
  have HK := hide (Keeps.alloc (Keeps.refl w) (.cells (D.cells a c) 33))
  have HB := hide (stp_box D a c w 33)
  have HC := hide hc
  have HT := hide ht
  have HO := hide (fun w' (hk : Keeps w w') => stepok_impl D a c w' (hc.kept hk) hl)
  rw [hB] at HO
  have HD := hide hB
  clear hc ht hB
  go_enter Tryz.func8, Tryz.ntmps8
  go_wp2_with fail
  generalize w.alloc (.cells (D.cells a c) 33) = W1 at *
  refine (unhide HO W1 HK.out).mono ?_
  rintro x w1 ⟨rfl, hk1⟩
  have HK1 := hide (HK.out.trans hk1)
  have hcl := HB.out w1 hk1
  clear hk1 HK HO HB
  obtain ⟨c0, ⟨c1, c2, c3, c4, c5, c6, c7⟩, c8, c9, c10, c11, c12, c13⟩ := hcl
  go_wp2_with fail
  go_ret
  exact ⟨ret_stL (stL_no HD.out).symm, HK1.out⟩
set_option maxHeartbeats 4000000 in
theorem stept_1 (D : Stp) (a : Option Addr) (c : Nat) (w : World) (hc : Cells w a (its D.ks)) (hl : D.ks.length ≤ 1048576) (ht : Tab w) (hB : stpB D = true) (hk : D.k = 1) :
    Calls Tryz.prog 8 #[D.v a c] w fun e w' => e = .returned (.string ⟨(stL D).toArray⟩) ∧ Keeps w w' := by
  have HK := hide (Keeps.alloc (Keeps.refl w) (.cells (D.cells a c) 33))
  have HB := hide (stp_box D a c w 33)
  have HC := hide hc
  have HT := hide ht
  have HO := hide (fun w' (hk : Keeps w w') => stepok_impl D a c w' (hc.kept hk) hl)
  rw [hB] at HO
  have HD := hide hB
  clear hc ht hB
  have HX : Hid (stL D = stT D) := stL_yes HD.out
  obtain ⟨k, e, ks, r⟩ := D
  dsimp only at hk
  subst hk
  go_enter Tryz.func8, Tryz.ntmps8
  go_wp2_with fail
  generalize w.alloc (.cells (Stp.cells ⟨1, e, ks, r⟩ a c) 33) = W1 at *
  refine (unhide HO W1 HK.out).mono ?_
  rintro x w1 ⟨rfl, hk1⟩
  have HK1 := hide (HK.out.trans hk1)
  have hcl := HB.out w1 hk1
  clear hk1 HK HO HB
  obtain ⟨c0, ⟨c1, c2, c3, c4, c5, c6, c7⟩, c8, c9, c10, c11, c12, c13⟩ := hcl
  go_wp2_with fail
  refine (etx_impl e.k e.y e.c e.t e.m e.f e.b w1 (HT.out.kept HK1.out)).mono ?_
  rintro x w2 ⟨rfl, hk2⟩
  obtain ⟨A, hA⟩ : ∃ A : ByteArray, A = ⟨(etL e.k e.y e.c e.t e.m e.f e.b).toArray⟩ := ⟨_, rfl⟩
  have hy : A.size ≤ 200 := by
    rw [hA]
    have h2 := etL_len e.k e.y e.c e.t e.m e.f e.b
    have e2 : (⟨(etL e.k e.y e.c e.t e.m e.f e.b).toArray⟩ : ByteArray).size = (etL e.k e.y e.c e.t e.m e.f e.b).length := by show (etL e.k e.y e.c e.t e.m e.f e.b).toArray.size = _; simp
    omega
  rw [← hA]
  have HA := hide hA
  clear hA
  have qa : ∀ w, (Op.stringOp .add (⟨#[116, 97, 107, 101, 32]⟩ : ByteArray) A).run Tryz.prog w = .ok (.string ((⟨#[116, 97, 107, 101, 32]⟩ : ByteArray) ++ A)) w := fun w => run_string_add_sum w _ _ (by
    have e1 : (⟨#[116, 97, 107, 101, 32]⟩ : ByteArray).size = 5 := rfl
    rw [e1]; omega)
  clear hy
  go_wp2_with fail
  go_ret
  rw [HA.out]
  refine ⟨(st_cat [116, 97, 107, 101, 32] _).trans (ret_stL ?_), HK1.out.trans hk2⟩
  rw [HX.out]
  have h2 := HD.out
  simp only [stpB, if_pos, Bool.and_eq_true] at h2
  simp [stT, etL, h2.1.1]
set_option maxHeartbeats 4000000 in
theorem stept_2 (D : Stp) (a : Option Addr) (c : Nat) (w : World) (hc : Cells w a (its D.ks)) (hl : D.ks.length ≤ 1048576) (ht : Tab w) (hB : stpB D = true) (hk : D.k = 2) :
    Calls Tryz.prog 8 #[D.v a c] w fun e w' => e = .returned (.string ⟨(stL D).toArray⟩) ∧ Keeps w w' := by
  have HK := hide (Keeps.alloc (Keeps.refl w) (.cells (D.cells a c) 33))
  have HB := hide (stp_box D a c w 33)
  have HC := hide hc
  have HT := hide ht
  have HO := hide (fun w' (hk : Keeps w w') => stepok_impl D a c w' (hc.kept hk) hl)
  rw [hB] at HO
  have HD := hide hB
  clear hc ht hB
  have HX : Hid (stL D = stT D) := stL_yes HD.out
  obtain ⟨k, e, ks, r⟩ := D
  dsimp only at hk
  subst hk
  go_enter Tryz.func8, Tryz.ntmps8
  go_wp2_with fail
  generalize w.alloc (.cells (Stp.cells ⟨2, e, ks, r⟩ a c) 33) = W1 at *
  refine (unhide HO W1 HK.out).mono ?_
  rintro x w1 ⟨rfl, hk1⟩
  have HK1 := hide (HK.out.trans hk1)
  have hcl := HB.out w1 hk1
  clear hk1 HK HO HB
  obtain ⟨c0, ⟨c1, c2, c3, c4, c5, c6, c7⟩, c8, c9, c10, c11, c12, c13⟩ := hcl
  go_wp2_with fail
  go_ret
  exact ⟨ret_stL (X := [115, 121, 110, 99]) (by rw [HX.out]; simp [stT]), HK1.out⟩
set_option maxHeartbeats 4000000 in
theorem stept_3 (D : Stp) (a : Option Addr) (c : Nat) (w : World) (hc : Cells w a (its D.ks)) (hl : D.ks.length ≤ 1048576) (ht : Tab w) (hB : stpB D = true) (hk : D.k = 3) :
    Calls Tryz.prog 8 #[D.v a c] w fun e w' => e = .returned (.string ⟨(stL D).toArray⟩) ∧ Keeps w w' := by
  have HK := hide (Keeps.alloc (Keeps.refl w) (.cells (D.cells a c) 33))
  have HB := hide (stp_box D a c w 33)
  have HC := hide hc
  have HT := hide ht
  have HO := hide (fun w' (hk : Keeps w w') => stepok_impl D a c w' (hc.kept hk) hl)
  rw [hB] at HO
  have HD := hide hB
  clear hc ht hB
  have HX : Hid (stL D = stT D) := stL_yes HD.out
  obtain ⟨k, e, ks, r⟩ := D
  dsimp only at hk
  subst hk
  go_enter Tryz.func8, Tryz.ntmps8
  go_wp2_with fail
  generalize w.alloc (.cells (Stp.cells ⟨3, e, ks, r⟩ a c) 33) = W1 at *
  refine (unhide HO W1 HK.out).mono ?_
  rintro x w1 ⟨rfl, hk1⟩
  have HK1 := hide (HK.out.trans hk1)
  have hcl := HB.out w1 hk1
  clear hk1 HK HO HB
  obtain ⟨c0, ⟨c1, c2, c3, c4, c5, c6, c7⟩, c8, c9, c10, c11, c12, c13⟩ := hcl
  go_wp2_with fail
  refine (sentence_big [99, 114, 97, 115, 104] a c ks w1 (by decide) (by decide) hl (HC.out.kept HK1.out) (HT.out.kept HK1.out)).mono ?_
  rintro x w2 ⟨rfl, hk2⟩
  go_wp2_with fail
  go_ret
  exact ⟨ret_stL (by rw [HX.out]; simp [stT]), HK1.out.trans hk2⟩
set_option maxHeartbeats 4000000 in
theorem stept_4 (D : Stp) (a : Option Addr) (c : Nat) (w : World) (hc : Cells w a (its D.ks)) (hl : D.ks.length ≤ 1048576) (ht : Tab w) (hB : stpB D = true) (hk : D.k = 4) :
    Calls Tryz.prog 8 #[D.v a c] w fun e w' => e = .returned (.string ⟨(stL D).toArray⟩) ∧ Keeps w w' := by
  have HK := hide (Keeps.alloc (Keeps.refl w) (.cells (D.cells a c) 33))
  have HB := hide (stp_box D a c w 33)
  have HC := hide hc
  have HT := hide ht
  have HO := hide (fun w' (hk : Keeps w w') => stepok_impl D a c w' (hc.kept hk) hl)
  rw [hB] at HO
  have HD := hide hB
  clear hc ht hB
  have HX : Hid (stL D = stT D) := stL_yes HD.out
  obtain ⟨k, e, ks, r⟩ := D
  dsimp only at hk
  subst hk
  go_enter Tryz.func8, Tryz.ntmps8
  go_wp2_with fail
  generalize w.alloc (.cells (Stp.cells ⟨4, e, ks, r⟩ a c) 33) = W1 at *
  refine (unhide HO W1 HK.out).mono ?_
  rintro x w1 ⟨rfl, hk1⟩
  have HK1 := hide (HK.out.trans hk1)
  have hcl := HB.out w1 hk1
  clear hk1 HK HO HB
  obtain ⟨c0, ⟨c1, c2, c3, c4, c5, c6, c7⟩, c8, c9, c10, c11, c12, c13⟩ := hcl
  go_wp2_with fail
  go_ret
  exact ⟨ret_stL (X := [115, 116, 97, 114, 116]) (by rw [HX.out]; simp [stT]), HK1.out⟩
set_option maxHeartbeats 4000000 in
theorem stept_5 (D : Stp) (a : Option Addr) (c : Nat) (w : World) (hc : Cells w a (its D.ks)) (hl : D.ks.length ≤ 1048576) (ht : Tab w) (hB : stpB D = true) (hk : D.k = 5) :
    Calls Tryz.prog 8 #[D.v a c] w fun e w' => e = .returned (.string ⟨(stL D).toArray⟩) ∧ Keeps w w' := by
  have HK := hide (Keeps.alloc (Keeps.refl w) (.cells (D.cells a c) 33))
  have HB := hide (stp_box D a c w 33)
  have HC := hide hc
  have HT := hide ht
  have HO := hide (fun w' (hk : Keeps w w') => stepok_impl D a c w' (hc.kept hk) hl)
  rw [hB] at HO
  have HD := hide hB
  clear hc ht hB
  have HX : Hid (stL D = stT D) := stL_yes HD.out
  obtain ⟨k, e, ks, r⟩ := D
  dsimp only at hk
  subst hk
  go_enter Tryz.func8, Tryz.ntmps8
  go_wp2_with fail
  generalize w.alloc (.cells (Stp.cells ⟨5, e, ks, r⟩ a c) 33) = W1 at *
  refine (unhide HO W1 HK.out).mono ?_
  rintro x w1 ⟨rfl, hk1⟩
  have HK1 := hide (HK.out.trans hk1)
  have hcl := HB.out w1 hk1
  clear hk1 HK HO HB
  obtain ⟨c0, ⟨c1, c2, c3, c4, c5, c6, c7⟩, c8, c9, c10, c11, c12, c13⟩ := hcl
  go_wp2_with fail
  have hk2 := Keeps.alloc HK1.out (.cells #[.int .i64 r.lo, .int .i64 r.hi, .int .i64 r.st, .int .i64 r.mi, .int .i64 r.ma] 3)
  refine (sentence_big [116, 117, 114, 110] (some ⟨w1.heap.size, 0, none⟩) 5 [r.lo, r.hi, r.st, r.mi, r.ma] _ (by decide) (by decide) (by simp) ?_ (HT.out.kept hk2)).mono ?_
  · refine Or.inr ⟨_, _, rfl, fun i hi => ?_⟩
    match i, hi with
    | 0, _ => simp [nums]
    | 1, _ => simp [nums]
    | 2, _ => simp [nums]
    | 3, _ => simp [nums]
    | 4, _ => simp [nums]
    | n + 5, hi => exact absurd hi (by simp [nums])
  rintro x w2 ⟨rfl, hk3⟩
  go_wp2_with fail
  go_ret
  exact ⟨ret_stL (by rw [HX.out]; simp [stT]), hk2.trans hk3⟩
theorem stpB_kind {D : Stp} (h : stpB D = true) : D.k = 1 ∨ D.k = 2 ∨ D.k = 3 ∨ D.k = 4 ∨ D.k = 5 := by
  unfold stpB at h
  by_cases h1 : D.k = 1
  · exact Or.inl h1
  by_cases h2 : D.k = 2
  · exact Or.inr (Or.inl h2)
  by_cases h3 : D.k = 3
  · exact Or.inr (Or.inr (Or.inl h3))
  by_cases h4 : D.k = 4
  · exact Or.inr (Or.inr (Or.inr (Or.inl h4)))
  by_cases h5 : D.k = 5
  · exact Or.inr (Or.inr (Or.inr (Or.inr h5)))
  simp [h1, h2, h3, h4, h5] at h
theorem stept_impl (D : Stp) (a : Option Addr) (c : Nat) (w : World) (hc : Cells w a (its D.ks)) (hl : D.ks.length ≤ 1048576) (ht : Tab w) :
    Calls Tryz.prog 8 #[D.v a c] w fun e w' => e = .returned (.string ⟨(stL D).toArray⟩) ∧ Keeps w w' := by
  cases h : stpB D
  · exact stept_no D a c w hc hl ht h
  · rcases stpB_kind h with h1 | h1 | h1 | h1 | h1
    · exact stept_1 D a c w hc hl ht h h1
    · exact stept_2 D a c w hc hl ht h h1
    · exact stept_3 D a c w hc hl ht h h1
    · exact stept_4 D a c w hc hl ht h h1
    · exact stept_5 D a c w hc hl ht h h1
end Go.Proofs.YtkgpoghoilffhaaGreatDoor
