/- Texts of the verifier, joined: Sx, Sw. -/
import Derived.Test.YtkgpoghoilffhaaGreatDoorRS6
import Derived.Test.YtkgpoghoilffhaaGreatDoorRS8
import Derived.Test.YtkgpoghoilffhaaGreatDoorRS9
import Derived.Test.YtkgpoghoilffhaaGreatDoorRS5
namespace Go.Proofs.YtkgpoghoilffhaaGreatDoor
open Go.RowKit Go.Deep
set_option linter.unusedVariables false
set_option linter.unusedSimpArgs false
set_option maxRecDepth 10000
open Classical in
noncomputable def evS (l : List UInt8) : Ev := if h : ∃ E : Ev, evB E.k E.y E.c E.t E.m E.f E.b = true ∧ evT E.k E.y E.c E.t E.m E.f E.b = l then Classical.choose h else noE
theorem evS_eq {E : Ev} (h : evB E.k E.y E.c E.t E.m E.f E.b = true) {l : List UInt8} (hl : evT E.k E.y E.c E.t E.m E.f E.b = l) : evS l = E := by
  have hx : ∃ E : Ev, evB E.k E.y E.c E.t E.m E.f E.b = true ∧ evT E.k E.y E.c E.t E.m E.f E.b = l := ⟨E, h, hl⟩
  unfold evS
  rw [dif_pos hx]
  obtain ⟨h1, h2⟩ := Classical.choose_spec hx
  obtain ⟨a1, a2, a3, a4, a5, a6, a7⟩ := ev_inj h1 h (h2.trans hl.symm)
  generalize Classical.choose hx = E' at *
  obtain ⟨k, y, c, t, m, f, b⟩ := E
  obtain ⟨k', y', c', t', m', f', b'⟩ := E'
  simp only at a1 a2 a3 a4 a5 a6 a7
  rw [a1, a2, a3, a4, a5, a6, a7]
theorem evS_no {l : List UInt8} (h : ∀ k y c t m f b, evB k y c t m f b = true → evT k y c t m f b ≠ l) : evS l = noE := by
  unfold evS
  rw [dif_neg (fun ⟨E, h1, h2⟩ => h _ _ _ _ _ _ _ h1 h2)]
theorem te_evS {s : ByteArray} {x : Ending} (h : TePost s x) : ∃ ok : Bool, x = .returned (.tuple #[evV (evS s.data.toList).k (evS s.data.toList).y (evS s.data.toList).c (evS s.data.toList).t (evS s.data.toList).m (evS s.data.toList).f (evS s.data.toList).b, .bool ok]) := by
  rcases h with ⟨k, y, c, t, m, f, b, h1, h2, rfl⟩ | ⟨h1, rfl⟩
  · have := evS_eq (E := ⟨k, y, c, t, m, f, b⟩) h1 h2
    exact ⟨true, by rw [this]⟩
  · have := evS_no h1
    exact ⟨false, by rw [this]; rfl⟩
theorem parts_join : ∀ (W : List (List UInt8)), W ≠ [] → (∀ w ∈ W, (32 : UInt8) ∉ w) → partsE 32 (join W ++ [32]) = W
  | [], h, _ => absurd rfl h
  | [w], _, h => by
    have := partsE_cut (e := 32) (w := w) [] (h w (by simp))
    simpa [join, partsE] using this
  | w :: v :: r, _, h => by
    have ih := parts_join (v :: r) (by simp) (fun x hx => h x (List.mem_cons_of_mem _ hx))
    rw [join_cons, List.append_assoc, List.cons_append, partsE_cut _ (h w (by simp)), ih]
theorem cut_at {w r : List UInt8} (h : (32 : UInt8) ∉ w) : Lib.cut (w ++ 32 :: r) [32] = (w, r, true) := by
  unfold Lib.cut
  rw [idx_at h, if_pos (by omega)]
  have e1 : ((w.length : Int)).toNat = w.length := by simp
  rw [e1]
  simp
theorem cut_no {w : List UInt8} (h : (32 : UInt8) ∉ w) : Lib.cut w [32] = (w, [], false) := by
  unfold Lib.cut
  rw [idx_none h, if_neg (by omega)]
noncomputable def rulS (ns : List Int) : Rul := if ns.length = 5 then ⟨ns.getD 0 0, ns.getD 1 0, ns.getD 2 0, ns.getD 3 0, ns.getD 4 0⟩ else noR
def wTake : List UInt8 := [116, 97, 107, 101]
def wSync : List UInt8 := [115, 121, 110, 99]
def wCrash : List UInt8 := [99, 114, 97, 115, 104]
def wStart : List UInt8 := [115, 116, 97, 114, 116]
def wTurn : List UInt8 := [116, 117, 114, 110]
/-- What a head and a rest say. -/
noncomputable def saidS (h : List UInt8) (e : Ev) (v : List Int) : Stp :=
  if h = wTake then ⟨1, e, [], noR⟩
  else if h = wSync then ⟨2, noE, [], noR⟩
  else if h = wCrash then ⟨3, noE, v, noR⟩
  else if h = wStart then ⟨4, noE, [], noR⟩
  else if h = wTurn then ⟨5, noE, [], rulS v⟩
  else ⟨0, noE, [], noR⟩
noncomputable def saidI (l : List UInt8) : Stp := saidS (Lib.cut l [32]).1 (evS (Lib.cut l [32]).2.1) (goodN (partsE 32 ((Lib.cut l [32]).2.1 ++ [32])))
noncomputable def saidM (l : List UInt8) : Stp := saidS ((partsE 32 (l ++ [32])).headD []) (if 5 < l.length then evS (l.drop 5) else noE) ((partsE 32 (l ++ [32])).tail.map txN)
theorem amtB_bounds {n : Int} (h : amtB n = true) : -1125899906842624 ≤ n ∧ n ≤ 1125899906842624 := by
  simp [amtB] at h; omega
theorem ppm_bounds {r : Rul} (h : ruleB r = true) : ∀ n ∈ [r.lo, r.hi, r.st, r.mi, r.ma], -1125899906842624 ≤ n ∧ n ≤ 1125899906842624 := by
  obtain ⟨h0, h1, h2, h3, h4⟩ := ruleB_true h
  have hb : (0 ≤ r.lo ∧ r.lo ≤ 1000000) ∧ (0 ≤ r.hi ∧ r.hi ≤ 1000000) := by
    simp [bandB] at h0
    omega
  intro n hn
  simp only [List.mem_cons, List.not_mem_nil, or_false] at hn
  rcases hn with rfl | rfl | rfl | rfl | rfl <;> omega
/-- Numbers that stand behind a word. -/
theorem sen_parts {W : List UInt8} (hW : (32 : UInt8) ∉ W) (ns : List Int) (hn : ∀ n ∈ ns, -1125899906842624 ≤ n ∧ n ≤ 1125899906842624) :
    partsE 32 (sen W ns ++ [32]) = W :: ns.map numT ∧ (ns.map numT).map txN = ns ∧ (Lib.cut (sen W ns) [32]).1 = W ∧ goodN (partsE 32 ((Lib.cut (sen W ns) [32]).2.1 ++ [32])) = ns := by
  have hb : ∀ w ∈ ns.map numT, (32 : UInt8) ∉ w := by
    intro w hw
    obtain ⟨n, _, rfl⟩ := List.mem_map.1 hw
    exact num_blank n
  have ht : (ns.map numT).map txN = ns := by
    rw [List.map_map]
    conv => rhs; rw [← List.map_id ns]
    refine List.map_congr_left fun n hx => ?_
    exact tx_num (hn n hx).1 (hn n hx).2
  have hg : ∀ x ∈ ns.map numT, okN x = true := by
    intro x hx
    obtain ⟨n, h1, rfl⟩ := List.mem_map.1 hx
    exact okN_num (num_ne (hn n h1).1 (hn n h1).2)
  refine ⟨?_, ht, ?_, ?_⟩
  · rw [sen_join]
    refine parts_join _ (by simp) ?_
    intro w hw
    rcases List.mem_cons.1 hw with rfl | hw
    · exact hW
    · exact hb w hw
  · cases ns with
    | nil => rw [show sen W [] = W by simp [sen, senN], cut_no hW]
    | cons n r => rw [sen_join, List.map_cons, join_cons, cut_at hW]
  · cases ns with
    | nil =>
      rw [show sen W [] = W by simp [sen, senN], cut_no hW]
      simp [partsE, goodN, okN]
    | cons n r =>
      rw [sen_join, List.map_cons, join_cons, cut_at hW]
      dsimp only
      rw [← List.map_cons, parts_join _ (by simp) hb, goodN_all hg, ht]
theorem stp_take {D : Stp} (h : stpB D = true) (hk : D.k = 1) : evB D.e.k D.e.y D.e.c D.e.t D.e.m D.e.f D.e.b = true ∧ D = ⟨1, D.e, [], noR⟩ ∧ stT D = wTake ++ 32 :: evT D.e.k D.e.y D.e.c D.e.t D.e.m D.e.f D.e.b := by
  obtain ⟨k, e, ks, r⟩ := D
  dsimp only at hk
  subst hk
  simp only [stpB, if_pos, Bool.and_eq_true] at h
  obtain ⟨⟨h1, h2⟩, h3⟩ := h
  rw [noK_eq h2, zeroR_eq h3]
  exact ⟨h1, rfl, by simp [stT, wTake]⟩
theorem stp_plain {D : Stp} {K : Int} (hK : K = 2 ∨ K = 4) (h : stpB D = true) (hk : D.k = K) : D = ⟨K, noE, [], noR⟩ := by
  obtain ⟨k, e, ks, r⟩ := D
  dsimp only at hk
  subst hk
  have h1 : ¬ k = 1 := by omega
  simp only [stpB, h1, hK, if_true, if_false, Bool.and_eq_true] at h
  rw [noK_eq h.1.2, zeroR_eq h.2, zeroE_eq h.1.1]
theorem stp_crash {D : Stp} (h : stpB D = true) (hk : D.k = 3) : (∀ n ∈ D.ks, -1125899906842624 ≤ n ∧ n ≤ 1125899906842624) ∧ D = ⟨3, noE, D.ks, noR⟩ ∧ stT D = sen wCrash D.ks := by
  obtain ⟨k, e, ks, r⟩ := D
  dsimp only at hk
  subst hk
  have h2 : (zeroE e && allA ks && zeroR r) = true := h
  simp only [Bool.and_eq_true] at h2
  rw [zeroR_eq h2.2, zeroE_eq h2.1.1]
  refine ⟨fun n hn => amtB_bounds (List.all_eq_true.1 h2.1.2 n hn), rfl, rfl⟩
theorem stp_turn {D : Stp} (h : stpB D = true) (hk : D.k = 5) : (∀ n ∈ [D.r.lo, D.r.hi, D.r.st, D.r.mi, D.r.ma], -1125899906842624 ≤ n ∧ n ≤ 1125899906842624) ∧ D = ⟨5, noE, [], D.r⟩ ∧ stT D = sen wTurn [D.r.lo, D.r.hi, D.r.st, D.r.mi, D.r.ma] := by
  obtain ⟨k, e, ks, r⟩ := D
  dsimp only at hk
  subst hk
  have h2 : (zeroE e && noK ks && ruleB r) = true := h
  simp only [Bool.and_eq_true] at h2
  rw [noK_eq h2.1.2, zeroE_eq h2.1.1]
  exact ⟨ppm_bounds h2.2, rfl, rfl⟩
theorem stp_kinds {D : Stp} (h : stpB D = true) : D.k = 1 ∨ D.k = 2 ∨ D.k = 3 ∨ D.k = 4 ∨ D.k = 5 := by
  unfold stpB at h
  by_cases h1 : D.k = 1
  · exact Or.inl h1
  by_cases h2 : D.k = 2
  · exact Or.inr (Or.inl h2)
  by_cases h3 : D.k = 3
  · exact Or.inr (Or.inr (Or.inl h3))
  by_cases h4 : D.k = 4
  · exact Or.inr (Or.inr (Or.inr (Or.inl h4)))
  by_cases h5 : D.k = 5
  · exact Or.inr (Or.inr (Or.inr (Or.inr h5)))
  simp [h1, h2, h3, h4, h5] at h
theorem rulS_five (r : Rul) : rulS [r.lo, r.hi, r.st, r.mi, r.ma] = r := by
  obtain ⟨a, b, c, d, e⟩ := r
  rfl
theorem wNo : (32 : UInt8) ∉ wTake ∧ (32 : UInt8) ∉ wSync ∧ (32 : UInt8) ∉ wCrash ∧ (32 : UInt8) ∉ wStart ∧ (32 : UInt8) ∉ wTurn := by decide
theorem evT_ne (k y c t m f : Int) (b : Bool) : evT k y c t m f b = join (evW k y c t m f b) := rfl
theorem saidI_eq {D : Stp} (h : stpB D = true) : saidI (stT D) = D := by
  rcases stp_kinds h with hk | hk | hk | hk | hk
  · obtain ⟨h1, h2, h3⟩ := stp_take h hk
    unfold saidI
    rw [h3, cut_at wNo.1]
    dsimp only
    rw [evS_eq h1 rfl]
    unfold saidS
    rw [if_pos rfl]
    exact h2.symm
  · have h2 := stp_plain (Or.inl rfl) h hk
    have h3 : stT D = wSync := by rw [h2]; rfl
    unfold saidI
    rw [h3, cut_no wNo.2.1]
    exact h2.symm
  · obtain ⟨h1, h2, h3⟩ := stp_crash h hk
    obtain ⟨_, _, g3, g4⟩ := sen_parts wNo.2.2.1 D.ks h1
    unfold saidI
    rw [h3, g3, g4]
    exact h2.symm
  · have h2 := stp_plain (Or.inr rfl) h hk
    have h3 : stT D = wStart := by rw [h2]; rfl
    unfold saidI
    rw [h3, cut_no wNo.2.2.2.1]
    exact h2.symm
  · obtain ⟨h1, h2, h3⟩ := stp_turn h hk
    obtain ⟨_, _, g3, g4⟩ := sen_parts wNo.2.2.2.2 _ h1
    unfold saidI
    rw [h3, g3, g4]
    show (⟨5, noE, [], rulS _⟩ : Stp) = D
    rw [rulS_five]
    exact h2.symm
theorem saidM_eq {D : Stp} (h : stpB D = true) : saidM (stT D) = D := by
  rcases stp_kinds h with hk | hk | hk | hk | hk
  · obtain ⟨h1, h2, h3⟩ := stp_take h hk
    have hw := words_len D.e.k D.e.y D.e.c D.e.t D.e.m D.e.f D.e.b
    have hb := words_blank D.e.k D.e.y D.e.c D.e.t D.e.m D.e.f D.e.b
    have e1 : partsE 32 (stT D ++ [32]) = wTake :: evW D.e.k D.e.y D.e.c D.e.t D.e.m D.e.f D.e.b := by
      rw [h3, List.append_assoc, List.cons_append, partsE_cut _ wNo.1, evT_ne, parts_join _ hw.2 hb]
    have hne : 0 < (evT D.e.k D.e.y D.e.c D.e.t D.e.m D.e.f D.e.b).length := by
      rcases Nat.eq_zero_or_pos (evT D.e.k D.e.y D.e.c D.e.t D.e.m D.e.f D.e.b).length with h4 | h4
      · exfalso
        have h5 := List.length_eq_zero_iff.1 h4
        have h6 := ev_split D.e.k D.e.y D.e.c D.e.t D.e.m D.e.f D.e.b 5 (by omega)
        rw [h5] at h6
        have h7 : Lib.splitK [32] 0 5 [] = [[]] := by decide
        rw [h7] at h6
        have h8 := said_again h1
        rw [← h6] at h8
        have h9 := congrArg Ev.k h8
        have h10 := (ev_bounds h1).1
        simp only at h9
        rw [show (said [[]]).k = 0 by rfl] at h9
        omega
      · exact h4
    unfold saidM
    rw [e1]
    have e2 : 5 < (stT D).length := by rw [h3]; simp [wTake]; omega
    have e3 : (stT D).drop 5 = evT D.e.k D.e.y D.e.c D.e.t D.e.m D.e.f D.e.b := by rw [h3]; rfl
    rw [if_pos e2, e3, evS_eq h1 rfl]
    exact h2.symm
  · have h2 := stp_plain (Or.inl rfl) h hk
    have h3 : stT D = wSync := by rw [h2]; rfl
    have e1 : partsE 32 (stT D ++ [32]) = [wSync] := by rw [h3, partsE_cut [] wNo.2.1]; rfl
    unfold saidM
    rw [e1]
    exact h2.symm
  · obtain ⟨h1, h2, h3⟩ := stp_crash h hk
    obtain ⟨g1, g2, _, _⟩ := sen_parts wNo.2.2.1 D.ks h1
    unfold saidM
    rw [h3, g1, List.tail_cons, g2]
    exact h2.symm
  · have h2 := stp_plain (Or.inr rfl) h hk
    have h3 : stT D = wStart := by rw [h2]; rfl
    have e1 : partsE 32 (stT D ++ [32]) = [wStart] := by rw [h3, partsE_cut [] wNo.2.2.2.1]; rfl
    unfold saidM
    rw [e1]
    exact h2.symm
  · obtain ⟨h1, h2, h3⟩ := stp_turn h hk
    obtain ⟨g1, g2, _, _⟩ := sen_parts wNo.2.2.2.2 _ h1
    unfold saidM
    rw [h3, g1, List.tail_cons, g2]
    show (⟨5, noE, [], rulS _⟩ : Stp) = D
    rw [rulS_five]
    exact h2.symm
theorem stT_inj {D D' : Stp} (h : stpB D = true) (h' : stpB D' = true) (e : stT D = stT D') : D = D' := by
  rw [← saidI_eq h, ← saidI_eq h', e]
theorem stT_ne {D : Stp} (h : stpB D = true) : stT D ≠ [] := by
  rcases stp_kinds h with hk | hk | hk | hk | hk
  · rw [(stp_take h hk).2.2]; simp [wTake]
  · rw [stp_plain (Or.inl rfl) h hk]; simp [stT]
  · rw [(stp_crash h hk).2.2]; simp [sen, wCrash]
  · rw [stp_plain (Or.inr rfl) h hk]; simp [stT]
  · rw [(stp_turn h hk).2.2]; simp [sen, wTurn]
/-- What TextStep answers. -/
def TsPost (s : ByteArray) (w w' : World) (x : Ending) : Prop :=
  (∃ (D : Stp) (a : Option Addr) (c : Nat), stpB D = true ∧ stT D = s.data.toList ∧ x = .returned (.tuple #[D.v a c, .bool true]) ∧ OwnsI w' w.heap.size (.slice a D.ks.length c) D.ks) ∨
  ((∀ D, stpB D = true → stT D ≠ s.data.toList) ∧ x = .returned (.tuple #[Stp.v ⟨0, noE, [], noR⟩ none 0, .bool false]))
end Go.Proofs.YtkgpoghoilffhaaGreatDoor
namespace Go.Proofs.YtkgpoghoilffhaaGreatDoor
open Go.RowKit
set_option linter.unusedVariables false
set_option linter.unusedSimpArgs false
set_option maxRecDepth 10000
set_option maxHeartbeats 2000000 in
theorem set_5 {w0 w : World} {B : Nat} {ty : TypeId} {f : Nat → Value} (hr : w.rowIs B ty 5 f) (hk : Keeps w0 w) (hB : w0.heap.size ≤ B) (x0 x1 x2 x3 x4 : Value) :
    ((((((w.setCell ⟨B, 0, none⟩ x0).setCell ⟨B, 1, none⟩ x1).setCell ⟨B, 2, none⟩ x2).setCell ⟨B, 3, none⟩ x3).setCell ⟨B, 4, none⟩ x4).cell? ⟨B, 0, none⟩ = some x0 ∧ (((((w.setCell ⟨B, 0, none⟩ x0).setCell ⟨B, 1, none⟩ x1).setCell ⟨B, 2, none⟩ x2).setCell ⟨B, 3, none⟩ x3).setCell ⟨B, 4, none⟩ x4).cell? ⟨B, 1, none⟩ = some x1 ∧ (((((w.setCell ⟨B, 0, none⟩ x0).setCell ⟨B, 1, none⟩ x1).setCell ⟨B, 2, none⟩ x2).setCell ⟨B, 3, none⟩ x3).setCell ⟨B, 4, none⟩ x4).cell? ⟨B, 2, none⟩ = some x2 ∧ (((((w.setCell ⟨B, 0, none⟩ x0).setCell ⟨B, 1, none⟩ x1).setCell ⟨B, 2, none⟩ x2).setCell ⟨B, 3, none⟩ x3).setCell ⟨B, 4, none⟩ x4).cell? ⟨B, 3, none⟩ = some x3 ∧ (((((w.setCell ⟨B, 0, none⟩ x0).setCell ⟨B, 1, none⟩ x1).setCell ⟨B, 2, none⟩ x2).setCell ⟨B, 3, none⟩ x3).setCell ⟨B, 4, none⟩ x4).cell? ⟨B, 4, none⟩ = some x4) ∧ Keeps w0 (((((w.setCell ⟨B, 0, none⟩ x0).setCell ⟨B, 1, none⟩ x1).setCell ⟨B, 2, none⟩ x2).setCell ⟨B, 3, none⟩ x3).setCell ⟨B, 4, none⟩ x4) ∧ Turn [B] w (((((w.setCell ⟨B, 0, none⟩ x0).setCell ⟨B, 1, none⟩ x1).setCell ⟨B, 2, none⟩ x2).setCell ⟨B, 3, none⟩ x3).setCell ⟨B, 4, none⟩ x4) ∧ (((((w.setCell ⟨B, 0, none⟩ x0).setCell ⟨B, 1, none⟩ x1).setCell ⟨B, 2, none⟩ x2).setCell ⟨B, 3, none⟩ x3).setCell ⟨B, 4, none⟩ x4).rowIs B ty 5 (fun i => if i = 0 then x0 else if i = 1 then x1 else if i = 2 then x2 else if i = 3 then x3 else x4) := by
  have r := (((((hr.set 0 x0).set 1 x1).set 2 x2).set 3 x3).set 4 x4)
  have c0 := r.cell (i := 0) (by decide)
  have c1 := r.cell (i := 1) (by decide)
  have c2 := r.cell (i := 2) (by decide)
  have c3 := r.cell (i := 3) (by decide)
  have c4 := r.cell (i := 4) (by decide)
  simp at c0 c1 c2 c3 c4
  refine ⟨⟨c0, c1, c2, c3, c4⟩, (Keeps.setCell (Keeps.setCell (Keeps.setCell (Keeps.setCell (Keeps.setCell hk hB x0) hB x1) hB x2) hB x3) hB x4), (((((Turn.set (by simp) _).trans' (Turn.set (by simp) _)).trans' (Turn.set (by simp) _)).trans' (Turn.set (by simp) _)).trans' (Turn.set (by simp) _)), r.congr fun j hj => ?_⟩
  match j, hj with
  | 0, _ => simp
  | 1, _ => simp
  | 2, _ => simp
  | 3, _ => simp
  | 4, _ => simp
  | m + 5, hj => exact absurd hj (by omega)
theorem row_5 (w : World) (ty : TypeId) (x0 x1 x2 x3 x4 : Value) : (w.alloc (.cells #[x0, x1, x2, x3, x4] ty)).rowIs w.heap.size ty 5 (fun i => if i = 0 then x0 else if i = 1 then x1 else if i = 2 then x2 else if i = 3 then x3 else x4) := World.rowIs_alloc w #[x0, x1, x2, x3, x4] ty _ (fun i hi => by
  match i, hi with
  | 0, _ => rfl
  | 1, _ => rfl
  | 2, _ => rfl
  | 3, _ => rfl
  | 4, _ => rfl
  | m + 5, hi => simp at hi; omega)
set_option maxHeartbeats 2000000 in
theorem set_14 {w0 w : World} {B : Nat} {ty : TypeId} {f : Nat → Value} (hr : w.rowIs B ty 14 f) (hk : Keeps w0 w) (hB : w0.heap.size ≤ B) (x0 x1 x2 x3 x4 x5 x6 x7 x8 x9 x10 x11 x12 x13 : Value) :
    (((((((((((((((w.setCell ⟨B, 0, none⟩ x0).setCell ⟨B, 1, none⟩ x1).setCell ⟨B, 2, none⟩ x2).setCell ⟨B, 3, none⟩ x3).setCell ⟨B, 4, none⟩ x4).setCell ⟨B, 5, none⟩ x5).setCell ⟨B, 6, none⟩ x6).setCell ⟨B, 7, none⟩ x7).setCell ⟨B, 8, none⟩ x8).setCell ⟨B, 9, none⟩ x9).setCell ⟨B, 10, none⟩ x10).setCell ⟨B, 11, none⟩ x11).setCell ⟨B, 12, none⟩ x12).setCell ⟨B, 13, none⟩ x13).cell? ⟨B, 0, none⟩ = some x0 ∧ ((((((((((((((w.setCell ⟨B, 0, none⟩ x0).setCell ⟨B, 1, none⟩ x1).setCell ⟨B, 2, none⟩ x2).setCell ⟨B, 3, none⟩ x3).setCell ⟨B, 4, none⟩ x4).setCell ⟨B, 5, none⟩ x5).setCell ⟨B, 6, none⟩ x6).setCell ⟨B, 7, none⟩ x7).setCell ⟨B, 8, none⟩ x8).setCell ⟨B, 9, none⟩ x9).setCell ⟨B, 10, none⟩ x10).setCell ⟨B, 11, none⟩ x11).setCell ⟨B, 12, none⟩ x12).setCell ⟨B, 13, none⟩ x13).cell? ⟨B, 1, none⟩ = some x1 ∧ ((((((((((((((w.setCell ⟨B, 0, none⟩ x0).setCell ⟨B, 1, none⟩ x1).setCell ⟨B, 2, none⟩ x2).setCell ⟨B, 3, none⟩ x3).setCell ⟨B, 4, none⟩ x4).setCell ⟨B, 5, none⟩ x5).setCell ⟨B, 6, none⟩ x6).setCell ⟨B, 7, none⟩ x7).setCell ⟨B, 8, none⟩ x8).setCell ⟨B, 9, none⟩ x9).setCell ⟨B, 10, none⟩ x10).setCell ⟨B, 11, none⟩ x11).setCell ⟨B, 12, none⟩ x12).setCell ⟨B, 13, none⟩ x13).cell? ⟨B, 2, none⟩ = some x2 ∧ ((((((((((((((w.setCell ⟨B, 0, none⟩ x0).setCell ⟨B, 1, none⟩ x1).setCell ⟨B, 2, none⟩ x2).setCell ⟨B, 3, none⟩ x3).setCell ⟨B, 4, none⟩ x4).setCell ⟨B, 5, none⟩ x5).setCell ⟨B, 6, none⟩ x6).setCell ⟨B, 7, none⟩ x7).setCell ⟨B, 8, none⟩ x8).setCell ⟨B, 9, none⟩ x9).setCell ⟨B, 10, none⟩ x10).setCell ⟨B, 11, none⟩ x11).setCell ⟨B, 12, none⟩ x12).setCell ⟨B, 13, none⟩ x13).cell? ⟨B, 3, none⟩ = some x3 ∧ ((((((((((((((w.setCell ⟨B, 0, none⟩ x0).setCell ⟨B, 1, none⟩ x1).setCell ⟨B, 2, none⟩ x2).setCell ⟨B, 3, none⟩ x3).setCell ⟨B, 4, none⟩ x4).setCell ⟨B, 5, none⟩ x5).setCell ⟨B, 6, none⟩ x6).setCell ⟨B, 7, none⟩ x7).setCell ⟨B, 8, none⟩ x8).setCell ⟨B, 9, none⟩ x9).setCell ⟨B, 10, none⟩ x10).setCell ⟨B, 11, none⟩ x11).setCell ⟨B, 12, none⟩ x12).setCell ⟨B, 13, none⟩ x13).cell? ⟨B, 4, none⟩ = some x4 ∧ ((((((((((((((w.setCell ⟨B, 0, none⟩ x0).setCell ⟨B, 1, none⟩ x1).setCell ⟨B, 2, none⟩ x2).setCell ⟨B, 3, none⟩ x3).setCell ⟨B, 4, none⟩ x4).setCell ⟨B, 5, none⟩ x5).setCell ⟨B, 6, none⟩ x6).setCell ⟨B, 7, none⟩ x7).setCell ⟨B, 8, none⟩ x8).setCell ⟨B, 9, none⟩ x9).setCell ⟨B, 10, none⟩ x10).setCell ⟨B, 11, none⟩ x11).setCell ⟨B, 12, none⟩ x12).setCell ⟨B, 13, none⟩ x13).cell? ⟨B, 5, none⟩ = some x5 ∧ ((((((((((((((w.setCell ⟨B, 0, none⟩ x0).setCell ⟨B, 1, none⟩ x1).setCell ⟨B, 2, none⟩ x2).setCell ⟨B, 3, none⟩ x3).setCell ⟨B, 4, none⟩ x4).setCell ⟨B, 5, none⟩ x5).setCell ⟨B, 6, none⟩ x6).setCell ⟨B, 7, none⟩ x7).setCell ⟨B, 8, none⟩ x8).setCell ⟨B, 9, none⟩ x9).setCell ⟨B, 10, none⟩ x10).setCell ⟨B, 11, none⟩ x11).setCell ⟨B, 12, none⟩ x12).setCell ⟨B, 13, none⟩ x13).cell? ⟨B, 6, none⟩ = some x6 ∧ ((((((((((((((w.setCell ⟨B, 0, none⟩ x0).setCell ⟨B, 1, none⟩ x1).setCell ⟨B, 2, none⟩ x2).setCell ⟨B, 3, none⟩ x3).setCell ⟨B, 4, none⟩ x4).setCell ⟨B, 5, none⟩ x5).setCell ⟨B, 6, none⟩ x6).setCell ⟨B, 7, none⟩ x7).setCell ⟨B, 8, none⟩ x8).setCell ⟨B, 9, none⟩ x9).setCell ⟨B, 10, none⟩ x10).setCell ⟨B, 11, none⟩ x11).setCell ⟨B, 12, none⟩ x12).setCell ⟨B, 13, none⟩ x13).cell? ⟨B, 7, none⟩ = some x7 ∧ ((((((((((((((w.setCell ⟨B, 0, none⟩ x0).setCell ⟨B, 1, none⟩ x1).setCell ⟨B, 2, none⟩ x2).setCell ⟨B, 3, none⟩ x3).setCell ⟨B, 4, none⟩ x4).setCell ⟨B, 5, none⟩ x5).setCell ⟨B, 6, none⟩ x6).setCell ⟨B, 7, none⟩ x7).setCell ⟨B, 8, none⟩ x8).setCell ⟨B, 9, none⟩ x9).setCell ⟨B, 10, none⟩ x10).setCell ⟨B, 11, none⟩ x11).setCell ⟨B, 12, none⟩ x12).setCell ⟨B, 13, none⟩ x13).cell? ⟨B, 8, none⟩ = some x8 ∧ ((((((((((((((w.setCell ⟨B, 0, none⟩ x0).setCell ⟨B, 1, none⟩ x1).setCell ⟨B, 2, none⟩ x2).setCell ⟨B, 3, none⟩ x3).setCell ⟨B, 4, none⟩ x4).setCell ⟨B, 5, none⟩ x5).setCell ⟨B, 6, none⟩ x6).setCell ⟨B, 7, none⟩ x7).setCell ⟨B, 8, none⟩ x8).setCell ⟨B, 9, none⟩ x9).setCell ⟨B, 10, none⟩ x10).setCell ⟨B, 11, none⟩ x11).setCell ⟨B, 12, none⟩ x12).setCell ⟨B, 13, none⟩ x13).cell? ⟨B, 9, none⟩ = some x9 ∧ ((((((((((((((w.setCell ⟨B, 0, none⟩ x0).setCell ⟨B, 1, none⟩ x1).setCell ⟨B, 2, none⟩ x2).setCell ⟨B, 3, none⟩ x3).setCell ⟨B, 4, none⟩ x4).setCell ⟨B, 5, none⟩ x5).setCell ⟨B, 6, none⟩ x6).setCell ⟨B, 7, none⟩ x7).setCell ⟨B, 8, none⟩ x8).setCell ⟨B, 9, none⟩ x9).setCell ⟨B, 10, none⟩ x10).setCell ⟨B, 11, none⟩ x11).setCell ⟨B, 12, none⟩ x12).setCell ⟨B, 13, none⟩ x13).cell? ⟨B, 10, none⟩ = some x10 ∧ ((((((((((((((w.setCell ⟨B, 0, none⟩ x0).setCell ⟨B, 1, none⟩ x1).setCell ⟨B, 2, none⟩ x2).setCell ⟨B, 3, none⟩ x3).setCell ⟨B, 4, none⟩ x4).setCell ⟨B, 5, none⟩ x5).setCell ⟨B, 6, none⟩ x6).setCell ⟨B, 7, none⟩ x7).setCell ⟨B, 8, none⟩ x8).setCell ⟨B, 9, none⟩ x9).setCell ⟨B, 10, none⟩ x10).setCell ⟨B, 11, none⟩ x11).setCell ⟨B, 12, none⟩ x12).setCell ⟨B, 13, none⟩ x13).cell? ⟨B, 11, none⟩ = some x11 ∧ ((((((((((((((w.setCell ⟨B, 0, none⟩ x0).setCell ⟨B, 1, none⟩ x1).setCell ⟨B, 2, none⟩ x2).setCell ⟨B, 3, none⟩ x3).setCell ⟨B, 4, none⟩ x4).setCell ⟨B, 5, none⟩ x5).setCell ⟨B, 6, none⟩ x6).setCell ⟨B, 7, none⟩ x7).setCell ⟨B, 8, none⟩ x8).setCell ⟨B, 9, none⟩ x9).setCell ⟨B, 10, none⟩ x10).setCell ⟨B, 11, none⟩ x11).setCell ⟨B, 12, none⟩ x12).setCell ⟨B, 13, none⟩ x13).cell? ⟨B, 12, none⟩ = some x12 ∧ ((((((((((((((w.setCell ⟨B, 0, none⟩ x0).setCell ⟨B, 1, none⟩ x1).setCell ⟨B, 2, none⟩ x2).setCell ⟨B, 3, none⟩ x3).setCell ⟨B, 4, none⟩ x4).setCell ⟨B, 5, none⟩ x5).setCell ⟨B, 6, none⟩ x6).setCell ⟨B, 7, none⟩ x7).setCell ⟨B, 8, none⟩ x8).setCell ⟨B, 9, none⟩ x9).setCell ⟨B, 10, none⟩ x10).setCell ⟨B, 11, none⟩ x11).setCell ⟨B, 12, none⟩ x12).setCell ⟨B, 13, none⟩ x13).cell? ⟨B, 13, none⟩ = some x13) ∧ Keeps w0 ((((((((((((((w.setCell ⟨B, 0, none⟩ x0).setCell ⟨B, 1, none⟩ x1).setCell ⟨B, 2, none⟩ x2).setCell ⟨B, 3, none⟩ x3).setCell ⟨B, 4, none⟩ x4).setCell ⟨B, 5, none⟩ x5).setCell ⟨B, 6, none⟩ x6).setCell ⟨B, 7, none⟩ x7).setCell ⟨B, 8, none⟩ x8).setCell ⟨B, 9, none⟩ x9).setCell ⟨B, 10, none⟩ x10).setCell ⟨B, 11, none⟩ x11).setCell ⟨B, 12, none⟩ x12).setCell ⟨B, 13, none⟩ x13) ∧ Turn [B] w ((((((((((((((w.setCell ⟨B, 0, none⟩ x0).setCell ⟨B, 1, none⟩ x1).setCell ⟨B, 2, none⟩ x2).setCell ⟨B, 3, none⟩ x3).setCell ⟨B, 4, none⟩ x4).setCell ⟨B, 5, none⟩ x5).setCell ⟨B, 6, none⟩ x6).setCell ⟨B, 7, none⟩ x7).setCell ⟨B, 8, none⟩ x8).setCell ⟨B, 9, none⟩ x9).setCell ⟨B, 10, none⟩ x10).setCell ⟨B, 11, none⟩ x11).setCell ⟨B, 12, none⟩ x12).setCell ⟨B, 13, none⟩ x13) ∧ ((((((((((((((w.setCell ⟨B, 0, none⟩ x0).setCell ⟨B, 1, none⟩ x1).setCell ⟨B, 2, none⟩ x2).setCell ⟨B, 3, none⟩ x3).setCell ⟨B, 4, none⟩ x4).setCell ⟨B, 5, none⟩ x5).setCell ⟨B, 6, none⟩ x6).setCell ⟨B, 7, none⟩ x7).setCell ⟨B, 8, none⟩ x8).setCell ⟨B, 9, none⟩ x9).setCell ⟨B, 10, none⟩ x10).setCell ⟨B, 11, none⟩ x11).setCell ⟨B, 12, none⟩ x12).setCell ⟨B, 13, none⟩ x13).rowIs B ty 14 (fun i => if i = 0 then x0 else if i = 1 then x1 else if i = 2 then x2 else if i = 3 then x3 else if i = 4 then x4 else if i = 5 then x5 else if i = 6 then x6 else if i = 7 then x7 else if i = 8 then x8 else if i = 9 then x9 else if i = 10 then x10 else if i = 11 then x11 else if i = 12 then x12 else x13) := by
  have r := ((((((((((((((hr.set 0 x0).set 1 x1).set 2 x2).set 3 x3).set 4 x4).set 5 x5).set 6 x6).set 7 x7).set 8 x8).set 9 x9).set 10 x10).set 11 x11).set 12 x12).set 13 x13)
  have c0 := r.cell (i := 0) (by decide)
  have c1 := r.cell (i := 1) (by decide)
  have c2 := r.cell (i := 2) (by decide)
  have c3 := r.cell (i := 3) (by decide)
  have c4 := r.cell (i := 4) (by decide)
  have c5 := r.cell (i := 5) (by decide)
  have c6 := r.cell (i := 6) (by decide)
  have c7 := r.cell (i := 7) (by decide)
  have c8 := r.cell (i := 8) (by decide)
  have c9 := r.cell (i := 9) (by decide)
  have c10 := r.cell (i := 10) (by decide)
  have c11 := r.cell (i := 11) (by decide)
  have c12 := r.cell (i := 12) (by decide)
  have c13 := r.cell (i := 13) (by decide)
  simp at c0 c1 c2 c3 c4 c5 c6 c7 c8 c9 c10 c11 c12 c13
  refine ⟨⟨c0, c1, c2, c3, c4, c5, c6, c7, c8, c9, c10, c11, c12, c13⟩, (Keeps.setCell (Keeps.setCell (Keeps.setCell (Keeps.setCell (Keeps.setCell (Keeps.setCell (Keeps.setCell (Keeps.setCell (Keeps.setCell (Keeps.setCell (Keeps.setCell (Keeps.setCell (Keeps.setCell (Keeps.setCell hk hB x0) hB x1) hB x2) hB x3) hB x4) hB x5) hB x6) hB x7) hB x8) hB x9) hB x10) hB x11) hB x12) hB x13), ((((((((((((((Turn.set (by simp) _).trans' (Turn.set (by simp) _)).trans' (Turn.set (by simp) _)).trans' (Turn.set (by simp) _)).trans' (Turn.set (by simp) _)).trans' (Turn.set (by simp) _)).trans' (Turn.set (by simp) _)).trans' (Turn.set (by simp) _)).trans' (Turn.set (by simp) _)).trans' (Turn.set (by simp) _)).trans' (Turn.set (by simp) _)).trans' (Turn.set (by simp) _)).trans' (Turn.set (by simp) _)).trans' (Turn.set (by simp) _)), r.congr fun j hj => ?_⟩
  match j, hj with
  | 0, _ => simp
  | 1, _ => simp
  | 2, _ => simp
  | 3, _ => simp
  | 4, _ => simp
  | 5, _ => simp
  | 6, _ => simp
  | 7, _ => simp
  | 8, _ => simp
  | 9, _ => simp
  | 10, _ => simp
  | 11, _ => simp
  | 12, _ => simp
  | 13, _ => simp
  | m + 14, hj => exact absurd hj (by omega)
theorem row_14 (w : World) (ty : TypeId) (x0 x1 x2 x3 x4 x5 x6 x7 x8 x9 x10 x11 x12 x13 : Value) : (w.alloc (.cells #[x0, x1, x2, x3, x4, x5, x6, x7, x8, x9, x10, x11, x12, x13] ty)).rowIs w.heap.size ty 14 (fun i => if i = 0 then x0 else if i = 1 then x1 else if i = 2 then x2 else if i = 3 then x3 else if i = 4 then x4 else if i = 5 then x5 else if i = 6 then x6 else if i = 7 then x7 else if i = 8 then x8 else if i = 9 then x9 else if i = 10 then x10 else if i = 11 then x11 else if i = 12 then x12 else x13) := World.rowIs_alloc w #[x0, x1, x2, x3, x4, x5, x6, x7, x8, x9, x10, x11, x12, x13] ty _ (fun i hi => by
  match i, hi with
  | 0, _ => rfl
  | 1, _ => rfl
  | 2, _ => rfl
  | 3, _ => rfl
  | 4, _ => rfl
  | 5, _ => rfl
  | 6, _ => rfl
  | 7, _ => rfl
  | 8, _ => rfl
  | 9, _ => rfl
  | 10, _ => rfl
  | 11, _ => rfl
  | 12, _ => rfl
  | 13, _ => rfl
  | m + 14, hi => simp at hi; omega)
def stRow (D : Stp) (a : Option Addr) (c : Nat) (i : Nat) : Value := if i = 0 then .int .i64 D.k else if i = 1 then .int .i64 D.e.k else if i = 2 then .int .i64 D.e.y else if i = 3 then .int .i64 D.e.c else if i = 4 then .int .i64 D.e.t else if i = 5 then .int .i64 D.e.m else if i = 6 then .int .i64 D.e.f else if i = 7 then .bool D.e.b else if i = 8 then .slice a D.ks.length c else if i = 9 then .int .i64 D.r.lo else if i = 10 then .int .i64 D.r.hi else if i = 11 then .int .i64 D.r.st else if i = 12 then .int .i64 D.r.mi else .int .i64 D.r.ma
end Go.Proofs.YtkgpoghoilffhaaGreatDoor
