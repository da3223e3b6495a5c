/- accOfKind and TextAcc of the program. -/
import Derived.Test.YtahgibjjnfbkhaaDoorTAMath
import Derived.Test.YtahgibjjnfbkhaaDoorTextK
import Derived.Test.YtahgibjjnfbkhaaDoorShelfD
import Derived.Laws.MakeOwn
import Derived.Deep.OwnRows
namespace Go.Proofs.YtahgibjjnfbkhaaDoor
open Go.RowKit
set_option linter.unusedVariables false

def KTells (s : List UInt8) (kind : Int) (e : Ending) : Prop := ∃ k c b, KA s kind k c b ∧ e = .returned (.tuple #[accV k c, .bool b])
theorem ktells {s : List UInt8} {kind k c : Int} {b : Bool} (h : KA s kind k c b) : KTells s kind (.returned (.tuple #[accV k c, .bool b])) := ⟨k, c, b, h, rfl⟩
/-- The sentinels and the table. -/
def Env (w : World) : Prop := Tab w ∧ ∃ tS tR u1 pS pR x1, w.var? Tryd.prog "strconv.ErrSyntax" = some #[.iface tS pS] ∧ w.var? Tryd.prog "strconv.ErrRange" = some #[.iface tR pR] ∧ w.cell? ⟨0, 0, none⟩ = some (.iface u1 x1)
theorem Env.kept {w w' : World} (h : Env w) (hk : Keeps w w') : Env w' := by
  obtain ⟨h0, tS, tR, u1, pS, pR, x1, h1, h2, h3⟩ := h
  exact ⟨h0.kept hk, tS, tR, u1, pS, pR, x1, var_kept hk h1, var_kept hk h2, hk.cell h3⟩
def NTells (l : List UInt8) (e : Ending) : Prop := ∃ v b, Res l v b ∧ e = .returned (.tuple #[.int .i64 v, .bool b])
theorem ntext_impl (s : ByteArray) (w : World) (hs : s.size ≤ 1048576) (h : Env w) : Calls Tryd.prog 27 #[.string s] w fun e w' => NTells s.data.toList e ∧ Keeps w w' := by
  obtain ⟨h0, tS, tR, u1, pS, pR, x1, h1, h2, h3⟩ := h
  exact text_impl s w hs tS tR u1 pS pR x1 h1 h2 h0 h3

theorem beq_text {k c : Int} {s : ByteArray} : ((textA k c).toList == s.toList) = decide (textL k c = s.data.toList) := by
  rw [toList_data, toList_data, Bool.eq_iff_iff]
  simp [textL]

theorem Keeps.row {w w' : World} (hk : Keeps w w') {b : Nat} {t : TypeId} {n : Nat} {f : Nat → Value} (h : w.rowIs b t n f) : w'.rowIs b t n f := h.of_block (Below.block hk b h.lt)
theorem zero2 : ∀ i, i < (#[.int .i64 0, .int .i64 0] : Array Value).size → (#[.int .i64 0, .int .i64 0] : Array Value)[i]? = some ((fun _ : Nat => Value.int .i64 0) i)
  | 0, _ => rfl
  | 1, _ => rfl
  | n + 2, h => absurd h (by simp)
theorem zeroK (k : Int) : ∀ i, i < (#[.int .i64 k, .int .i64 0] : Array Value).size → (#[.int .i64 k, .int .i64 0] : Array Value)[i]? = some ((fun i : Nat => if i = 0 then Value.int .i64 k else Value.int .i64 0) i)
  | 0, _ => rfl
  | 1, _ => rfl
  | n + 2, h => absurd h (by simp)
theorem acc_out {w : World} {b : Nat} {t : TypeId} {f : Nat → Value} (r : w.rowIs b t 2 f) (k c : Int) :
    ((w.setCell ⟨b, 0, none⟩ (.int .i64 k)).setCell ⟨b, 1, none⟩ (.int .i64 c)).cell? ⟨b, 0, none⟩ = some (.int .i64 k) ∧ ((w.setCell ⟨b, 0, none⟩ (.int .i64 k)).setCell ⟨b, 1, none⟩ (.int .i64 c)).cell? ⟨b, 1, none⟩ = some (.int .i64 c) := by
  have r3 := (r.set 0 (.int .i64 k)).set 1 (.int .i64 c)
  have c0 := r3.cell (i := 0) (by decide)
  have c1 := r3.cell (i := 1) (by decide)
  simp at c0 c1
  exact ⟨c0, c1⟩

set_option maxHeartbeats 2000000 in
theorem kind_impl (kind : Int) (hk : 1 ≤ kind ∧ kind ≤ 8) (s : ByteArray) (w : World) (hs : s.size ≤ 1048576) (he : Env w) :
    Calls Tryd.prog 20 #[.int .i64 kind, .string s] w fun e w' => KTells s.data.toList kind e ∧ Keeps w w' := by
  have HN := hide (fun w1 => name_impl kind w1)
  have HP := hide (fun w1 => Tryd.strings_CutPrefix s (nameA kind) w1)
  have HC := hide (fun w1 => chan_impl kind w1)
  have HE := hide he
  clear he
  cases hp : Lib.hasPrefix s.data.toList (nameA kind).data.toList
  · rw [hp] at HP
    have HR := hide (ktells (ka_pre hp))
    clear hp hk
    generalize (⟨(Lib.trimPrefix s.data.toList (nameA kind).data.toList).toArray⟩ : ByteArray) = rest at *
    generalize nameA kind = nm at *
    go_enter Tryd.func20, Tryd.ntmps20
    go_wp2_with fail
    refine (unhide HN _).mono ?_
    rintro e w1 ⟨rfl, rfl⟩
    go_wp2_with fail
    refine (unhide HP _).mono ?_
    rintro e w1 ⟨rfl, rfl⟩
    go_wp2_with fail
    refine bodyPost_ret (v := .tuple #[accV 0 0, .bool false]) (by simp [results, Tryd.results20, go_sem]) rfl ⟨HR.out, ?_⟩
    repeat (first | refine Keeps.alloc ?_ _ | refine Keeps.setCell ?_ (by show _ ≤ _; omega) _)
    exact Keeps.refl _
  · rw [hp] at HP
    have hne := ka_ne hk hp
    have HRes := hide (fun v b (h6 : ¬ kind < 6) (hr : Res (Lib.trimPrefix s.data.toList (nameA kind).data.toList) v b) (h : textL kind v ≠ s.data.toList) => ktells (ka_great h6 hr h))
    have HYes := hide (fun v (h : textL kind v = s.data.toList) => ktells (ka_yes (kind := kind) (c := v) hne h))
    by_cases h6 : kind < 6
    · have hch : chB kind = false := by simp [chB]; omega
      rw [hch] at HC
      have HSm := hide (fun h => ktells (ka_small (s := s.data.toList) h6 h))
      have HA := hide (fun w1 (h : Tab w1) => atext_impl kind 0 w1 h)
      have HB := hide (beq_text (k := kind) (c := 0) (s := s))
      clear hp hk hne HRes hch h6
      generalize (⟨(Lib.trimPrefix s.data.toList (nameA kind).data.toList).toArray⟩ : ByteArray) = rest at *
      generalize nameA kind = nm at *
      have HKA := hide (Keeps.alloc (Keeps.alloc (Keeps.refl w) (.cells #[.int .i64 0, .int .i64 0] 24)) (.cells #[.int .i64 kind, .int .i64 0] 24))
      by_cases heq : textL kind 0 = s.data.toList
      · have HR := hide (HYes.out 0 heq)
        have hb : ((textA kind 0).toList == s.toList) = true := by rw [HB.out]; exact decide_eq_true heq
        clear heq HYes HSm HB
        generalize textA kind 0 = tx at *
        go_enter Tryd.func20, Tryd.ntmps20
        go_wp2_with fail
        refine (unhide HN _).mono ?_
        rintro e w1 ⟨rfl, rfl⟩
        go_wp2_with fail
        refine (unhide HP _).mono ?_
        rintro e w1 ⟨rfl, rfl⟩
        go_wp2_with fail
        refine (unhide HC _).mono ?_
        rintro e w1 ⟨rfl, rfl⟩
        go_wp2_with fail
        refine (unhide HA _ (HE.out.1.kept HKA.out)).mono ?_
        rintro e w2 ⟨rfl, hk2⟩
        have ho := hk2.old
        have hf := hk2.oldF
        have hz := hk2.size
        have HK2 := hide (HKA.out.trans hk2)
        have HRow := hide (Keeps.row hk2 ((World.rowIs_alloc w #[.int .i64 0, .int .i64 0] 24 (fun _ => .int .i64 0) zero2).alloc _))
        clear hk2
        go_wp2_with fail
        obtain ⟨o0, o1⟩ := acc_out HRow.out kind 0
        refine bodyPost_ret (v := .tuple #[accV kind 0, .bool true]) ?_ rfl ⟨HR.out, Keeps.setCell (Keeps.setCell HK2.out (Nat.le_refl _) _) (Nat.le_refl _) _⟩
        revert o0 o1
        clear HRow HK2
        generalize World.setCell _ _ _ = W
        intro o0 o1
        simp [results, Tryd.results20, go_sem, o0, o1]
      · have HR := hide (HSm.out heq)
        have hb : ((textA kind 0).toList == s.toList) = false := by rw [HB.out]; exact decide_eq_false heq
        clear heq HYes HSm HB
        generalize textA kind 0 = tx at *
        go_enter Tryd.func20, Tryd.ntmps20
        go_wp2_with fail
        refine (unhide HN _).mono ?_
        rintro e w1 ⟨rfl, rfl⟩
        go_wp2_with fail
        refine (unhide HP _).mono ?_
        rintro e w1 ⟨rfl, rfl⟩
        go_wp2_with fail
        refine (unhide HC _).mono ?_
        rintro e w1 ⟨rfl, rfl⟩
        go_wp2_with fail
        refine (unhide HA _ (HE.out.1.kept HKA.out)).mono ?_
        rintro e w2 ⟨rfl, hk2⟩
        have ho := hk2.old
        have hf := hk2.oldF
        have hz := hk2.size
        have HK2 := hide (HKA.out.trans hk2)
        have HRow := hide (Keeps.row hk2 ((World.rowIs_alloc w #[.int .i64 0, .int .i64 0] 24 (fun _ => .int .i64 0) zero2).alloc _))
        clear hk2
        go_wp2_with fail
        obtain ⟨o0, o1⟩ := acc_out HRow.out 0 0
        refine bodyPost_ret (v := .tuple #[accV 0 0, .bool false]) ?_ rfl ⟨HR.out, Keeps.setCell (Keeps.setCell HK2.out (Nat.le_refl _) _) (Nat.le_refl _) _⟩
        revert o0 o1
        clear HRow HK2
        generalize World.setCell _ _ _ = W
        intro o0 o1
        simp [results, Tryd.results20, go_sem, o0, o1]
    · have hch : chB kind = true := by simp [chB]; omega
      rw [hch] at HC
      have HM := hide (fun w1 (h : Env w1) => ntext_impl ⟨(Lib.trimPrefix s.data.toList (nameA kind).data.toList).toArray⟩ w1 (by
        have h1 := Lib.trimPrefix_le s.data.toList (nameA kind).data.toList
        have h2 : s.data.toList.length = s.size := by simp
        show (Lib.trimPrefix s.data.toList (nameA kind).data.toList).toArray.size ≤ _
        rw [List.size_toArray]
        omega) h)
      have HRes2 := hide (fun v b (hr : Res (Lib.trimPrefix s.data.toList (nameA kind).data.toList) v b) (h : textL kind v ≠ s.data.toList) => HRes.out v b h6 hr h)
      have HA := hide (fun v w1 (h : Tab w1) => atext_impl kind v w1 h)
      have HB := hide (fun v => beq_text (k := kind) (c := v) (s := s))
      clear hp hk hne HRes hch h6
      dsimp only at HM
      generalize (Lib.trimPrefix s.data.toList (nameA kind).data.toList) = rest at *
      generalize nameA kind = nm at *
      have HKA := hide (Keeps.alloc (Keeps.alloc (Keeps.refl w) (.cells #[.int .i64 0, .int .i64 0] 24)) (.cells #[.int .i64 kind, .int .i64 0] 24))
      go_enter Tryd.func20, Tryd.ntmps20
      go_wp2_with fail
      refine (unhide HN _).mono ?_
      rintro e w1 ⟨rfl, rfl⟩
      go_wp2_with fail
      refine (unhide HP _).mono ?_
      rintro e w1 ⟨rfl, rfl⟩
      go_wp2_with fail
      refine (unhide HC _).mono ?_
      rintro e w1 ⟨rfl, rfl⟩
      go_wp2_with fail
      refine (unhide HM _ (HE.out.kept HKA.out)).mono ?_
      rintro e w2 ⟨⟨v, bb, hr, rfl⟩, hk2⟩
      have HRv := hide (HRes2.out v bb hr)
      have HYv := hide (HYes.out v)
      have HBv := hide (HB.out v)
      have HAv := hide (fun w1 h => HA.out v w1 h)
      have ho := hk2.old
      have hf := hk2.oldF
      have hz := hk2.size
      have HK2 := hide (HKA.out.trans hk2)
      have rA0 := Keeps.row hk2 (World.rowIs_alloc (w.alloc (.cells #[.int .i64 0, .int .i64 0] 24)) #[.int .i64 kind, .int .i64 0] 24 (fun i => if i = 0 then .int .i64 kind else .int .i64 0) (zeroK kind))
      simp only [World.size_alloc] at rA0
      have HRowA := hide (rA0.set 1 (.int .i64 v))
      clear rA0
      have HRow2 := hide ((Keeps.row hk2 ((World.rowIs_alloc w #[.int .i64 0, .int .i64 0] 24 (fun _ => .int .i64 0) zero2).alloc _)).setOther (a := ⟨w.heap.size + 1, 1, none⟩) (by simp) (.int .i64 v))
      clear hk2 hr HRes2 HYes HB HA HM
      have HK3 : Hid (Keeps w (w2.setCell ⟨w.heap.size + 1, 1, none⟩ (.int .i64 v))) := HK2.out.setCell (by show _ ≤ _ + 1; omega) _
      by_cases heq : textL kind v = s.data.toList
      · have HR := hide (HYv.out heq)
        have hb : ((textA kind v).toList == s.toList) = true := by rw [HBv.out]; exact decide_eq_true heq
        clear heq HYv HBv HRv
        generalize textA kind v = tx at *
        go_wp2_with fail
        refine (unhide HAv _ (HE.out.1.kept HK3.out)).mono ?_
        rintro e w4 ⟨rfl, hk4⟩
        have HK4 := hide (HK3.out.trans hk4)
        have HRow := hide (Keeps.row hk4 HRow2.out)
        have rA := Keeps.row hk4 HRowA.out
        have q0 := rA.cell (i := 0) (by simp)
        have q1 := rA.cell (i := 1) (by simp)
        simp at q0 q1
        have f0 := HRow.out.frozen 0
        have f1 := HRow.out.frozen 1
        have z0 := HRow.out.cell (i := 0) (by decide)
        have z1 := HRow.out.cell (i := 1) (by decide)
        clear hk4 rA ho hf hz HRow2 HRowA
        go_wp2_with fail
        obtain ⟨o0, o1⟩ := acc_out HRow.out kind v
        refine bodyPost_ret (v := .tuple #[accV kind v, .bool true]) ?_ rfl ⟨HR.out, Keeps.setCell (Keeps.setCell HK4.out (Nat.le_refl _) _) (Nat.le_refl _) _⟩
        revert o0 o1
        clear HRow HK4
        generalize World.setCell _ _ _ = W
        intro o0 o1
        simp [results, Tryd.results20, go_sem, o0, o1]
      · have HR := hide (HRv.out heq)
        have hb : ((textA kind v).toList == s.toList) = false := by rw [HBv.out]; exact decide_eq_false heq
        clear heq HYv HBv HRv
        generalize textA kind v = tx at *
        go_wp2_with fail
        refine (unhide HAv _ (HE.out.1.kept HK3.out)).mono ?_
        rintro e w4 ⟨rfl, hk4⟩
        have HK4 := hide (HK3.out.trans hk4)
        have HRow := hide (Keeps.row hk4 HRow2.out)
        have rA := Keeps.row hk4 HRowA.out
        have q0 := rA.cell (i := 0) (by simp)
        have q1 := rA.cell (i := 1) (by simp)
        simp at q0 q1
        have f0 := HRow.out.frozen 0
        have f1 := HRow.out.frozen 1
        have z0 := HRow.out.cell (i := 0) (by decide)
        have z1 := HRow.out.cell (i := 1) (by decide)
        clear hk4 rA ho hf hz HRow2 HRowA
        go_wp2_with fail
        obtain ⟨o0, o1⟩ := acc_out HRow.out 0 0
        refine bodyPost_ret (v := .tuple #[accV 0 0, .bool false]) ?_ rfl ⟨HR.out, Keeps.setCell (Keeps.setCell HK4.out (Nat.le_refl _) _) (Nat.le_refl _) _⟩
        revert o0 o1
        clear HRow HK4
        generalize World.setCell _ _ _ = W
        intro o0 o1
        simp [results, Tryd.results20, go_sem, o0, o1]
end Go.Proofs.YtahgibjjnfbkhaaDoor
