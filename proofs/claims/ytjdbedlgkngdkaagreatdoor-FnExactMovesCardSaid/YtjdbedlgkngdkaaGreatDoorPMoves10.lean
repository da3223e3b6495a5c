/- Texts of the verifier, joined: MvG, MvM, MvX, Mx, PcG, BkF, Pp. -/
import Derived.Test.YtjdbedlgkngdkaaGreatDoorPMoves9
import Derived.Test.YtjdbedlgkngdkaaGreatDoorPMoves3
import Derived.OwnWalk
import Derived.Laws.OwnMore
import Derived.Laws.AppendOwnNone
import Derived.Test.YtjdbedlgkngdkaaGreatDoorPMoves4
import Derived.Deep.Cut
namespace Go.Proofs.YtjdbedlgkngdkaaGreatDoor
open Go.RowKit Go.Deep
set_option linter.unusedVariables false
set_option linter.unusedSimpArgs false
set_option maxRecDepth 10000

def Mov.v (x : Mov) : Value := .agg #[.int .i64 x.fr, .int .i64 x.to, .int .i64 x.am, .int .i64 x.pp]
theorem infoMove : (Tryz.prog.info? 71).map (fun i => (i.zero, i.size, i.bytes)) = some (some (.agg #[.int .i64 0, .int .i64 0, .int .i64 0, .int .i64 0]), 4, 32) := by kernel_rfl
theorem underMoves : Tryz.prog.underlying 31 = some (.slice 71) := by kernel_rfl
theorem eqMove_same (x : Mov) (w : World) : Calls Tryz.prog 58 #[x.v, x.v] w fun e w' => e = .returned (.bool true) ∧ Keeps w w' := by
  obtain ⟨xfr, xto, xam, xpp⟩ := x
  dsimp only [Mov.v]
  skip
  all_goals
    go_enter Tryz.func58, Tryz.ntmps58
    go_wp2_with fail
    go_ret
    exact ⟨rfl, Keeps.alloc (Keeps.alloc (Keeps.refl _) _) _⟩
set_option maxHeartbeats 4000000 in
theorem eqMoveS_k (a a' : Option Addr) (cap cap' : Nat) (xs : List Mov) (w : World) (hc : Cells w a (mvs xs)) (hc' : Cells w a' (mvs xs)) (hl : xs.length ≤ 1048576) :
    Calls Tryz.prog 23 #[.slice a xs.length cap, .slice a' xs.length cap'] w fun e w' => e = .returned (.bool true) ∧ Keeps w w' := by
  have HC := hide hc
  have HC' := hide hc'
  clear hc hc'
  go_enter Tryz.func23, Tryz.ntmps23
  go_wp2_with fail
  go_loopw [5] (fun y w1 => ∃ k : Nat, k ≤ xs.length ∧ y = .int .i64 (k : Int) ∧ Keeps w w1) (fun y _ => xs.length - (intOf y).toNat)
  case atStart => exact ⟨0, by omega, rfl, Keeps.refl _⟩
  case round =>
    obtain ⟨k, hk, rfl, hkw⟩ := hrel
    by_cases hlt : k < xs.length
    · obtain ⟨b, off, ea, c0, c1, c2, c3⟩ := mvs_at (HC.out.kept hkw) k hlt
      obtain ⟨b', off', ea', d0, d1, d2, d3⟩ := mvs_at (HC'.out.kept hkw) k hlt
      have HEA := hide ea
      have HEA' := hide ea'
      clear ea ea'
      obtain rfl := HEA.out
      obtain rfl := HEA'.out
      have HQ := hide (fun t => eqMove_same xs[k] (gr wr t))
      have g0 := gr_cell c0
      have i0 := gr_cell d0
      have g1 := gr_cell c1
      have i1 := gr_cell d1
      have g2 := gr_cell c2
      have i2 := gr_cell d2
      have g3 := gr_cell c3
      have i3 := gr_cell d3
      generalize xs[k] = x at *
      obtain ⟨xfr, xto, xam, xpp⟩ := x
      dsimp only [Mov.v] at c0 d0 g0 i0 c1 d1 g1 i1 c2 d2 g2 i2 c3 d3 g3 i3 HQ
      go_wp2_with fail
      refine region_gr (by kernel_rfl) (by kernel_rfl) ?_
      repeat (go_big_quiet_step (first | (go_at_call 58; exact gr_call (unhide HQ _))))
      refine wpQuiet_nil ?_
      intro w' hw'
      have hk' := hkw.trans (Keeps.of_gr hw')
      clear hw'
      go_wp2_with fail
      go_roundw
      case rel => exact ⟨k + 1, by omega, by go_num, hk'⟩
      case measure => simp [intOf]; omega
    · go_wp2_with fail
      go_ret
      exact ⟨rfl, hkw⟩
end Go.Proofs.YtjdbedlgkngdkaaGreatDoor
namespace Go.Proofs.YtjdbedlgkngdkaaGreatDoor
open Go.RowKit Go.Deep
set_option linter.unusedVariables false
set_option linter.unusedSimpArgs false
set_option maxRecDepth 10000

/-- One with marks from n on. -/
def markMov (n : Nat) : Mov := ⟨(n : Int), (n : Int) + 1, (n : Int) + 1 + 1, (n : Int) + 1 + 1 + 1⟩
def marksMov (n k : Nat) : List Mov := (List.range k).map fun i => markMov (n + 4 * i)
theorem marksMov_succ (n k : Nat) : marksMov n (k + 1) = marksMov n k ++ [markMov (n + 4 * k)] := by simp [marksMov, List.range_succ]
theorem marksMov_len (n k : Nat) : (marksMov n k).length = k := by simp [marksMov]
theorem mvs_set0 (A B : List Mov) (x : Mov) (n : Int) {k : Nat} (hA : A.length = k) : (mvs (A ++ x :: B)).set (k * 4) (.int .i64 n) = mvs (A ++ ⟨n, x.to, x.am, x.pp⟩ :: B) := by
  subst hA
  have hl := mvs_len A
  rw [mvs_append, mvs_append, List.set_append_right _ _ (by omega), hl]
  simp [mvs, Mov.cells]
theorem mvs_set1 (A B : List Mov) (x : Mov) (n : Int) {k : Nat} (hA : A.length = k) : (mvs (A ++ x :: B)).set (k * 4 + 1) (.int .i64 n) = mvs (A ++ ⟨x.fr, n, x.am, x.pp⟩ :: B) := by
  subst hA
  have hl := mvs_len A
  rw [mvs_append, mvs_append, List.set_append_right _ _ (by omega), hl, show A.length * 4 + 1 - A.length * 4 = 1 by omega]
  simp [mvs, Mov.cells]
theorem mvs_set2 (A B : List Mov) (x : Mov) (n : Int) {k : Nat} (hA : A.length = k) : (mvs (A ++ x :: B)).set (k * 4 + 2) (.int .i64 n) = mvs (A ++ ⟨x.fr, x.to, n, x.pp⟩ :: B) := by
  subst hA
  have hl := mvs_len A
  rw [mvs_append, mvs_append, List.set_append_right _ _ (by omega), hl, show A.length * 4 + 2 - A.length * 4 = 2 by omega]
  simp [mvs, Mov.cells]
theorem mvs_set3 (A B : List Mov) (x : Mov) (n : Int) {k : Nat} (hA : A.length = k) : (mvs (A ++ x :: B)).set (k * 4 + 3) (.int .i64 n) = mvs (A ++ ⟨x.fr, x.to, x.am, n⟩ :: B) := by
  subst hA
  have hl := mvs_len A
  rw [mvs_append, mvs_append, List.set_append_right _ _ (by omega), hl, show A.length * 4 + 3 - A.length * 4 = 3 by omega]
  simp [mvs, Mov.cells]
set_option maxHeartbeats 16000000 in
theorem markMoveS_k (a : Option Addr) (cap : Nat) (ds : List Mov) (n : Nat) (w : World) (h : Own w [(a, mvs ds)]) (hl : ds.length ≤ 1048576) (hn : n ≤ 1000000000) :
    Calls Tryz.prog 24 #[.slice a ds.length cap, .int .i64 (n : Int)] w fun e w' => e = .returned (.int .i64 ((n + 4 * ds.length : Nat) : Int)) ∧ Own w' [(a, mvs (marksMov n ds.length))] ∧ Turn (fp [(a, mvs ds)]) w w' := by
  have HO := hide h
  clear h
  go_enter Tryz.func24, Tryz.ntmps24
  go_wp2_with fail
  go_loopw [1, 5] (fun x y wr => ∃ (k z : Nat), k ≤ ds.length ∧ Hid (n + 4 * k = z) ∧ x = .int .i64 (z : Int) ∧ y = .int .i64 (k : Int) ∧ Hid (Own wr [(a, mvs (marksMov n k ++ ds.drop k))]) ∧ Hid (Turn (fp [(a, mvs ds)]) w wr)) (fun _ y _ => ds.length - (intOf y).toNat)
  case atStart => exact ⟨0, n, by omega, by show _ = _; simp, rfl, rfl, by show Own _ _; simpa [marksMov] using HO.out, Turn.refl _ _⟩
  case round =>
    obtain ⟨k, z, hk, HZ, rfl, rfl, HO0, HT⟩ := hrel
    by_cases hlt : k < ds.length
    · have hz : z ≤ 1200000000 := by have := HZ.out; omega
      have HDr : Hid (ds.drop k = ds[k] :: ds.drop (k + 1)) := List.drop_eq_getElem_cons hlt
      have HLA : Hid ((marksMov n k).length = k) := marksMov_len n k
      have HTk : Hid (marksMov n (k + 1) ++ ds.drop (k + 1) = marksMov n k ++ Mov.mk ((z : Int)) ((z : Int) + 1) ((z : Int) + 1 + 1) ((z : Int) + 1 + 1 + 1) :: ds.drop (k + 1)) := by
        show _ = _
        rw [marksMov_succ, ← HZ.out, List.append_assoc]; rfl
      have HZn : Hid (n + 4 * (k + 1) = z + 4) := by show _ = _; have := HZ.out; omega
      have HFE : Hid (fp [(a, mvs (marksMov n k ++ ds.drop k))] = fp [(a, mvs ds)]) := by
        show _ = _
        rw [fp_one, fp_one]
        exact fpS_len (by rw [mvs_len, mvs_len, List.length_append, HLA.out, List.length_drop]; congr 1; omega)
      rw [HDr.out] at HO0 HFE
      generalize ds[k] = c at *
      obtain ⟨efr, eto, eam, epp⟩ := c
      generalize marksMov n k = A at *
      generalize hB : ds.drop (k + 1) = B at *
      have HBB := hide hB
      clear hB HZ
      have hcl : Cells wr a (mvs (A ++ Mov.mk efr eto eam epp :: B)) := HO0.out.mem (a, mvs (A ++ Mov.mk efr eto eam epp :: B)) (by simp)
      have hkl : k < (A ++ Mov.mk efr eto eam epp :: B).length := by have := HLA.out; simp; omega
      obtain ⟨b, off, ea, c0, c1, c2, c3⟩ := mvs_at hcl k hkl
      subst ea
      have he : (A ++ Mov.mk efr eto eam epp :: B)[k] = Mov.mk efr eto eam epp := by
        rw [List.getElem_append_right (by have := HLA.out; omega)]
        simp [HLA.out]
      rw [he] at c0 c1 c2 c3
      dsimp only at c0 c1 c2 c3
      have hne0 : mvs (A ++ Mov.mk efr eto eam epp :: B) ≠ [] := fun e => by
        have := mvs_len (A ++ Mov.mk efr eto eam epp :: B)
        rw [e] at this
        simp at this
      have hfp : fp [((some (⟨b, off, none⟩ : Addr)), mvs (A ++ Mov.mk efr eto eam epp :: B))] = [b] := by rw [fp_one, fpS_some hne0]
      have f0 : ∀ o, wr.frozen? ⟨b, o, none⟩ = false := HO0.out.free b (by rw [hfp]; simp)
      have z0 := f0 (off + k * 4)
      have z1 := f0 (off + k * 4 + 1)
      have z2 := f0 (off + k * 4 + 2)
      have z3 := f0 (off + k * 4 + 3)
      have HO1 : Hid (Own (wr.setCell ⟨b, off + k * 4, none⟩ (.int .i64 ((z : Int)))) [(some ⟨b, off, none⟩, mvs (A ++ Mov.mk ((z : Int)) eto eam epp :: B))]) := by
        have h1 := own_set HO0.out (k * 4) (.int .i64 ((z : Int))) (by rw [mvs_len]; have := HLA.out; simp; omega)
        rw [mvs_set0 A B _ _ HLA.out] at h1
        skip
        exact h1
      have HO2 : Hid (Own ((wr.setCell ⟨b, off + k * 4, none⟩ (.int .i64 ((z : Int)))).setCell ⟨b, off + k * 4 + 1, none⟩ (.int .i64 ((z : Int) + 1))) [(some ⟨b, off, none⟩, mvs (A ++ Mov.mk ((z : Int)) ((z : Int) + 1) eam epp :: B))]) := by
        have h1 := own_set HO1.out (k * 4 + 1) (.int .i64 ((z : Int) + 1)) (by rw [mvs_len]; have := HLA.out; simp; omega)
        rw [mvs_set1 A B _ _ HLA.out] at h1
        rw [← Nat.add_assoc] at h1
        exact h1
      have HO3 : Hid (Own (((wr.setCell ⟨b, off + k * 4, none⟩ (.int .i64 ((z : Int)))).setCell ⟨b, off + k * 4 + 1, none⟩ (.int .i64 ((z : Int) + 1))).setCell ⟨b, off + k * 4 + 2, none⟩ (.int .i64 ((z : Int) + 1 + 1))) [(some ⟨b, off, none⟩, mvs (A ++ Mov.mk ((z : Int)) ((z : Int) + 1) ((z : Int) + 1 + 1) epp :: B))]) := by
        have h1 := own_set HO2.out (k * 4 + 2) (.int .i64 ((z : Int) + 1 + 1)) (by rw [mvs_len]; have := HLA.out; simp; omega)
        rw [mvs_set2 A B _ _ HLA.out] at h1
        rw [← Nat.add_assoc] at h1
        exact h1
      have HO4 : Hid (Own ((((wr.setCell ⟨b, off + k * 4, none⟩ (.int .i64 ((z : Int)))).setCell ⟨b, off + k * 4 + 1, none⟩ (.int .i64 ((z : Int) + 1))).setCell ⟨b, off + k * 4 + 2, none⟩ (.int .i64 ((z : Int) + 1 + 1))).setCell ⟨b, off + k * 4 + 3, none⟩ (.int .i64 ((z : Int) + 1 + 1 + 1))) [(some ⟨b, off, none⟩, mvs (A ++ Mov.mk ((z : Int)) ((z : Int) + 1) ((z : Int) + 1 + 1) ((z : Int) + 1 + 1 + 1) :: B))]) := by
        have h1 := own_set HO3.out (k * 4 + 3) (.int .i64 ((z : Int) + 1 + 1 + 1)) (by rw [mvs_len]; have := HLA.out; simp; omega)
        rw [mvs_set3 A B _ _ HLA.out] at h1
        rw [← Nat.add_assoc] at h1
        exact h1
      have d1 : (wr.setCell ⟨b, off + k * 4, none⟩ (.int .i64 ((z : Int)))).cell? ⟨b, off + k * 4 + 1, none⟩ = some (.int .i64 eto) := by
        rw [World.cell?_setCell_other _ _ _ _ (by simp)]; exact c1
      have d2 : ((wr.setCell ⟨b, off + k * 4, none⟩ (.int .i64 ((z : Int)))).setCell ⟨b, off + k * 4 + 1, none⟩ (.int .i64 ((z : Int) + 1))).cell? ⟨b, off + k * 4 + 2, none⟩ = some (.int .i64 eam) := by
        rw [World.cell?_setCell_other _ _ _ _ (by simp), World.cell?_setCell_other _ _ _ _ (by simp)]; exact c2
      have d3 : (((wr.setCell ⟨b, off + k * 4, none⟩ (.int .i64 ((z : Int)))).setCell ⟨b, off + k * 4 + 1, none⟩ (.int .i64 ((z : Int) + 1))).setCell ⟨b, off + k * 4 + 2, none⟩ (.int .i64 ((z : Int) + 1 + 1))).cell? ⟨b, off + k * 4 + 3, none⟩ = some (.int .i64 epp) := by
        rw [World.cell?_setCell_other _ _ _ _ (by simp), World.cell?_setCell_other _ _ _ _ (by simp), World.cell?_setCell_other _ _ _ _ (by simp)]; exact c3
      have HTw : Hid (Turn (fp [((some (⟨b, off, none⟩ : Addr)), mvs ds)]) w ((((wr.setCell ⟨b, off + k * 4, none⟩ (.int .i64 ((z : Int)))).setCell ⟨b, off + k * 4 + 1, none⟩ (.int .i64 ((z : Int) + 1))).setCell ⟨b, off + k * 4 + 2, none⟩ (.int .i64 ((z : Int) + 1 + 1))).setCell ⟨b, off + k * 4 + 3, none⟩ (.int .i64 ((z : Int) + 1 + 1 + 1)))) := by
        have h2 : Turn [b] wr ((((wr.setCell ⟨b, off + k * 4, none⟩ (.int .i64 ((z : Int)))).setCell ⟨b, off + k * 4 + 1, none⟩ (.int .i64 ((z : Int) + 1))).setCell ⟨b, off + k * 4 + 2, none⟩ (.int .i64 ((z : Int) + 1 + 1))).setCell ⟨b, off + k * 4 + 3, none⟩ (.int .i64 ((z : Int) + 1 + 1 + 1))) := ((((Turn.set (by simp) _).trans' (Turn.set (by simp) _)).trans' (Turn.set (by simp) _)).trans' (Turn.set (by simp) _))
        rw [← HFE.out, hfp] at HT ⊢
        exact HT.out.trans' h2
      clear HO0 HO1 HO2 HO3 hcl he f0 HT HFE hfp
      go_wp2_with fail
      go_roundw
      case rel => exact ⟨k + 1, z + 4, by omega, HZn, congrArg (Value.int .i64) (by omega), by go_num, (by show Own _ _; rw [HBB.out, HTk.out]; exact HO4.out), HTw⟩
      case measure => simp [intOf]; omega
    · have e : k = ds.length := by omega
      subst e
      have HZ2 := hide HZ.out
      go_wp2_with fail
      go_ret
      have h2 := HO0.out
      rw [List.drop_length, List.append_nil] at h2
      exact ⟨by rw [HZ2.out]; rfl, h2, HT.out⟩
set_option maxHeartbeats 8000000 in
theorem heldMoveS_k (a : Option Addr) (cap : Nat) (len n : Nat) (w : World) (hc : Cells w a (mvs (marksMov n len))) (hl : len ≤ 1048576) (hn : n ≤ 1000000000) :
    Calls Tryz.prog 25 #[.slice a len cap, .int .i64 (n : Int)] w fun e w' => e = .returned (.int .i64 ((n + 4 * len : Nat) : Int)) ∧ w' = w := by
  have HC := hide hc
  clear hc
  go_enter Tryz.func25, Tryz.ntmps25
  go_wp2_with fail
  go_loop [1, 5] (fun x y => ∃ (k z : Nat), k ≤ len ∧ Hid (n + 4 * k = z) ∧ x = .int .i64 (z : Int) ∧ y = .int .i64 (k : Int)) (fun _ y => len - (intOf y).toNat)
  case atStart => exact ⟨0, n, by omega, by show _ = _; simp, rfl, rfl⟩
  case round =>
    obtain ⟨k, z, hk, HZ, rfl, rfl⟩ := hrel
    by_cases hlt : k < len
    · have hz : z ≤ 1200000000 := by have := HZ.out; omega
      have HZn : Hid (n + 4 * (k + 1) = z + 4) := by show _ = _; have := HZ.out; omega
      obtain ⟨b, off, ea, c0, c1, c2, c3⟩ := mvs_at HC.out k (by rw [marksMov_len]; exact hlt)
      have e : (marksMov n len)[k]'(by rw [marksMov_len]; exact hlt) = markMov z := by simp [marksMov, HZ.out]
      rw [e] at c0 c1 c2 c3
      dsimp only [markMov] at c0 c1 c2 c3
      have HEA := hide ea
      clear ea
      obtain rfl := HEA.out
      clear e HZ
      skip
      all_goals
        go_wp2_with fail
        go_round
        case rel => exact ⟨k + 1, z + 4, by omega, HZn, congrArg (Value.int .i64) (by omega), by go_num⟩
        case measure => simp [intOf]; omega
    · have e : k = len := by omega
      subst e
      have HZ2 := hide HZ.out
      go_wp2_with fail
      go_ret
      exact ⟨congrArg (fun y : Int => Ending.returned (Value.int .i64 y)) (show ((z : Nat) : Int) = _ by have := HZ2.out; omega), rfl⟩
end Go.Proofs.YtjdbedlgkngdkaaGreatDoor
namespace Go.Proofs.YtjdbedlgkngdkaaGreatDoor
open Go.RowKit Go.Deep
set_option linter.unusedVariables false
set_option linter.unusedSimpArgs false
set_option maxRecDepth 10000

/-- A list of Move of one's own. -/
abbrev OwnsMove (w : World) (base : Nat) (v : Value) (L : List Mov) : Prop := w.ownsRow base 71 4 v L.length (mvs L)
theorem cells_Move {L : List Mov} : mvs L = [] ↔ L = [] := by
  constructor
  · intro h
    have := mvs_len L
    rw [h] at this
    simp only [List.length_nil] at this
    exact List.length_eq_zero_iff.1 (by omega)
  · rintro rfl; rfl
theorem cell_one_Move {L : List Mov} {u : Value} (h : u ∈ mvs L) : u.oneCell' = true := by
  unfold mvs at h
  obtain ⟨x, _, hx⟩ := List.mem_flatMap.1 h
  simp only [Mov.cells, List.mem_cons, List.mem_nil_iff, or_false] at hx
  rcases hx with rfl | rfl | rfl | rfl <;> rfl
/-- append to a list of one's own, whatever list is appended. -/
theorem app_Move {ops : Array Oper} {rest : List Oper} {o : Oper} {a : Act} {Q : Exit → Act → World → Prop} {wr : World} (hgd : o.guard = none) (s x : Operand)
    (ho : o.op = .call { callee := .builtin .append, args := #[s, x], argTypes := #[31, 31] }) (base : Nat) (v : Value) (L M : List Mov) (hs : a.eval s = v) (xa : Option Addr) (c : Nat)
    (hx : a.eval x = .slice xa M.length c) (hM : Cells wr xa (mvs M)) (hn : xa = none → c = 0) (hown : OwnsMove wr base v L) (hl : L.length + M.length ≤ 4194304) (hbase : base ≤ wr.heap.size)
    (h : ∀ v' w', OwnsMove w' base v' (L ++ M) → wr.grownBy w' v.ownBlock → (v ≠ .slice none 0 0 → v' ≠ .slice none 0 0) → wpList Tryz.prog ops Q rest (a.put o.dst v') w') :
    wpList Tryz.prog ops Q (o :: rest) a wr := by
  have hI := infoMove
  cases hi : Tryz.prog.info? 71 with
  | none => rw [hi] at hI; simp at hI
  | some i =>
    rw [hi] at hI
    simp at hI
    obtain ⟨hz, hsz, hby⟩ := hI
    cases xa with
    | none =>
      obtain rfl := hn rfl
      have hM0 : M = [] := by
        rcases hM with hM | ⟨_, _, e, _⟩
        · exact cells_Move.1 hM
        · cases e
      subst hM0
      refine wpList_append_own_none hgd s x 31 ho base 71 i 4 underMoves hi v L.length (mvs L) hs hown hx ?_
      exact h v wr (by simpa using hown) ⟨rfl, rfl, rfl, Nat.le_refl _, fun _ _ _ => rfl⟩ (fun h => h)
    | some p =>
      refine wpList_append_own _ hgd s x 31 ho base 71 i _ 4 32 underMoves hi hz hsz hby rfl (by decide) v L.length (mvs L) hs hown p M.length c (mvs M) hx (by rw [mvs_len]) ?_ (fun u hu => cell_one_Move hu) ?_ ?_ hbase ?_
      · intro j u hj
        rcases hM with hM | ⟨b, off, e, hM⟩
        · rw [hM] at hj; simp at hj
        · obtain rfl := Option.some.inj e
          obtain ⟨hj', e'⟩ := List.getElem?_eq_some_iff.1 hj
          have := hM j hj'
          rw [e'] at this
          rw [← this, addr_at]
      · simp only [maxLen]; omega
      · omega
      · intro v' w' h1 h2 h3
        exact h v' w' (by unfold OwnsMove; rw [mvs_append, List.length_append]; exact h1) h2 (fun hn he => hn (h3.1 he).1)
end Go.Proofs.YtjdbedlgkngdkaaGreatDoor
namespace Go.Proofs.YtjdbedlgkngdkaaGreatDoor
open Go.RowKit Go.Deep
set_option linter.unusedVariables false
set_option linter.unusedSimpArgs false
set_option maxRecDepth 10000

noncomputable def movOk (B : Bk) (lo hi gain : Int) (L : List Prc) : Bool := planB B lo hi gain L && chOk (planN B lo hi gain L) (planV B lo hi gain L)
noncomputable def movF (B : Bk) (lo hi gain : Int) (L : List Prc) : List Int := chV (planN B lo hi gain L) (planV B lo hi gain L)
noncomputable def movV (B : Bk) (lo hi gain : Int) (L : List Prc) : List Mov := if movOk B lo hi gain L = true then movesTo L (movF B lo hi gain L) ((planV B lo hi gain L).length - L.length) L.length else []
theorem mov_no {B : Bk} {lo hi gain : Int} {L : List Prc} (h : movOk B lo hi gain L = false) : movV B lo hi gain L = [] := by simp [movV, h]
theorem mov_yes {B : Bk} {lo hi gain : Int} {L : List Prc} (h : movOk B lo hi gain L = true) : movV B lo hi gain L = movesTo L (movF B lo hi gain L) ((planV B lo hi gain L).length - L.length) L.length := by simp [movV, h]
theorem movV_len (B : Bk) (lo hi gain : Int) (L : List Prc) : (movV B lo hi gain L).length ≤ L.length := by
  unfold movV
  split
  · exact movesTo_len _ _ _ _
  · simp
theorem mov_len {B : Bk} {lo hi gain : Int} {L : List Prc} (h1 : planB B lo hi gain L = true) (h2 : chOk (planN B lo hi gain L) (planV B lo hi gain L) = true) : (movF B lo hi gain L).length = (planV B lo hi gain L).length ∧ L.length ≤ (planV B lo hi gain L).length ∧ L.length ≤ 20 := by
  refine ⟨(flowB_true (cheap_best h2).1).2.1, ?_, ?_⟩
  · rw [(plan_yes h1).2]
    exact (plan_len h1).2
  · simp only [planB, Bool.and_eq_true] at h1
    exact (prices_true h1.1.1).2.1
theorem bornM {W w : World} {base : Nat} {v : Value} {L : List Mov} (h : OwnsMove w base v L) (hb : W.heap.size ≤ base) : ∃ a c, v = .slice a L.length c ∧ (a = none → c = 0) ∧ Born W w [(a, mvs L)] := by
  obtain ⟨a, cap, hv, hl, _, hn, ho, hb'⟩ := Own.of_owns h
  exact ⟨a, cap, hv, hn, ho, fun b hx => Nat.le_trans hb (hb' b hx)⟩
theorem one_Move (W : World) (y : Mov) : Cells (W.alloc (.cells #[.int .i64 y.fr, .int .i64 y.to, .int .i64 y.am, .int .i64 y.pp] 71)) (some ⟨W.heap.size, 0, none⟩) (mvs [y]) := Or.inr ⟨W.heap.size, 0, rfl, fun j hj => by
  have hj' : j < 4 := by have h4 := mvs_len [y]; rw [h4] at hj; simpa using hj
  rcases (show j = 0 ∨ j = 1 ∨ j = 2 ∨ j = 3 by omega) with rfl | rfl | rfl | rfl <;> simp [mvs, Mov.cells]⟩
theorem ret_mv {v v' : Value} {b b' : Bool} (h : v = v') (h' : b = b') : Ending.returned (.tuple #[v, .bool b]) = .returned (.tuple #[v', .bool b']) := by rw [h, h']
theorem OwnsMove.kept' {w w' : World} {base : Nat} {v : Value} {L : List Mov} (h : OwnsMove w base v L) (hk : Keeps w w') : OwnsMove w' base v L := by
  refine ⟨h.1, ?_⟩
  rcases h.2 with h2 | ⟨g, cap, cur, e, h3, h4, h5⟩
  · exact .inl h2
  · exact .inr ⟨g, cap, cur, e, h3, by rw [Below.block hk g (h.lt g (by rw [e]; rfl)).2]; exact h4, h5⟩
end Go.Proofs.YtjdbedlgkngdkaaGreatDoor
namespace Go.Proofs.YtjdbedlgkngdkaaGreatDoor
open Go.RowKit Go.Deep
set_option linter.unusedVariables false
set_option linter.unusedSimpArgs false
set_option maxRecDepth 10000

def Prc.v (x : Prc) : Value := .agg #[.int .i64 x.fr, .int .i64 x.to, .int .i64 x.pp]
theorem toPrice_k (x : Prc) (w : World) : Calls Tryz.prog 47 #[x.v] w fun e w' => e = .returned x.v ∧ Keeps w w' := by
  obtain ⟨xfr, xto, xpp⟩ := x
  dsimp only [Prc.v]
  go_enter Tryz.func47, Tryz.ntmps47
  go_wp2_with fail
  refine bodyPost_ret (v := .agg #[.int .i64 xfr, .int .i64 xto, .int .i64 xpp]) (by simp [results, Tryz.results47, go_sem]) rfl ⟨rfl, ?_⟩
  repeat (first | exact Keeps.refl _ | refine Keeps.alloc ?_ _ | refine Keeps.setCell ?_ (by simp) _)
theorem szPriceS_k (a : Option Addr) (len cap : Nat) (left : Int) (w : World) (hl : len ≤ 9223372036854775807) (h0 : 0 ≤ left) (h1 : left ≤ 1048576) :
    Calls Tryz.prog 12 #[.slice a len cap, .int .i64 left] w fun e w' => e = .returned (.int .i64 (if (len : Int) ≤ left then left - len else -1)) ∧ w' = w := by
  by_cases h : (len : Int) ≤ left
  · rw [if_pos h]
    go_enter Tryz.func12, Tryz.ntmps12
    go_wp2_with fail
    go_ret
    exact ⟨rfl, rfl⟩
  · rw [if_neg h]
    go_enter Tryz.func12, Tryz.ntmps12
    go_wp2_with fail
    go_ret
    exact ⟨rfl, rfl⟩
theorem infoPrice : (Tryz.prog.info? 69).map (fun i => (i.zero, i.size, i.bytes)) = some (some (.agg #[.int .i64 0, .int .i64 0, .int .i64 0]), 3, 24) := by kernel_rfl
theorem underPrices : Tryz.prog.underlying 28 = some (.slice 69) := by kernel_rfl
theorem make_Prices (n : Nat) (hn : n ≤ 1048576) (w : World) : (Instr.makeSlice 28 (.int .i64 (n : Int)) (.int .i64 (n : Int))).run Tryz.prog w = .ok (.slice (some ⟨w.heap.size, 0, none⟩) n n) (w.alloc (.cells (madeCells #[.int .i64 0, .int .i64 0, .int .i64 0] (n * 3)) 69)) := by
  have hI := infoPrice
  cases hi : Tryz.prog.info? 69 with
  | none => rw [hi] at hI; simp at hI
  | some i =>
    rw [hi] at hI
    simp at hI
    obtain ⟨hz, hs, hb⟩ := hI
    have h := run_make (P := Tryz.prog) w 28 69 i _ underPrices hi hz .i64 .i64 n n (by omega) (Int.le_refl _) (by rw [hb]; omega) (by omega)
    rw [hs] at h
    simpa [Value.cells] using h
/-- The row of the new list while it is filled. -/
def rowPrice (L : List Prc) (k : Nat) : Nat → Value := fun j => if j < k * 3 then (pcs L).getD j (.int .i64 0) else (#[.int .i64 0, .int .i64 0, .int .i64 0] : Array Value)[j % 3]!
theorem made_Price (L : List Prc) (w : World) (m : Nat) (t : TypeId) : (w.alloc (.cells (madeCells #[.int .i64 0, .int .i64 0, .int .i64 0] m) t)).rowIs w.heap.size t m (rowPrice L 0) := by
  have h := World.rowIs_alloc w (madeCells #[.int .i64 0, .int .i64 0, .int .i64 0] m) t (rowPrice L 0) (by
    intro i hi
    rw [size_madeCells] at hi
    simp only [madeCells, Array.getElem?_map, Array.getElem?_range]
    rw [if_pos hi]
    simp [rowPrice])
  rw [size_madeCells] at h
  exact h
theorem rowPrice_step (L : List Prc) (k : Nat) (h : k < L.length) (j : Nat) : (if j = k * 3 + 2 then (.int .i64 L[k].pp : Value) else if j = k * 3 + 1 then (.int .i64 L[k].to : Value) else if j = k * 3 then (.int .i64 L[k].fr : Value) else rowPrice L k j) = rowPrice L (k + 1) j := by
  have hL := pcs_len L
  have hk := Nat.mul_le_mul_right 3 (show k + 1 ≤ L.length from h)
  have ha := fun r (hr : r < 3) => flatMap_at (f := Prc.cells) (sz := 3) (fun _ => rfl) L k h r hr
  unfold rowPrice
  by_cases h2 : j = k * 3 + 2
  · subst h2
    (try simp only [if_true])
    (try rw [if_pos rfl])
    rw [if_pos (by omega), List.getD_eq_getElem?_getD]
    have e := ha 2 (by decide)
    skip
    unfold pcs
    rw [e]; rfl
  rw [if_neg h2]
  by_cases h1 : j = k * 3 + 1
  · subst h1
    (try simp only [if_true])
    (try rw [if_pos rfl])
    rw [if_pos (by omega), List.getD_eq_getElem?_getD]
    have e := ha 1 (by decide)
    skip
    unfold pcs
    rw [e]; rfl
  rw [if_neg h1]
  by_cases h0 : j = k * 3
  · subst h0
    (try simp only [if_true])
    (try rw [if_pos rfl])
    rw [if_pos (by omega), List.getD_eq_getElem?_getD]
    have e := ha 0 (by decide)
    simp only [Nat.add_zero] at e
    unfold pcs
    rw [e]; rfl
  rw [if_neg h0]
  by_cases hlt : j < k * 3
  · rw [if_pos hlt, if_pos (by omega)]
  · rw [if_neg hlt, if_neg (by omega)]
theorem rowPrice_end (L : List Prc) (j : Nat) (hj : j < (pcs L).length) : rowPrice L L.length j = (pcs L)[j] := by
  have hL := pcs_len L
  unfold rowPrice
  rw [if_pos (by omega), List.getD_eq_getElem?_getD, List.getElem?_eq_getElem hj]
  rfl
set_option maxHeartbeats 2000000 in
theorem toPriceS_k (a : Option Addr) (cap : Nat) (L : List Prc) (w : World) (hc : Cells w a (pcs L)) (hl : L.length ≤ 1048576) :
    Calls Tryz.prog 15 #[.slice a L.length cap] w fun e w' => ∃ b, e = .returned (.slice (some ⟨b, 0, none⟩) L.length L.length) ∧ Born w w' [(some ⟨b, 0, none⟩, pcs L)] ∧ Keeps w w' := by
  have HC := hide hc
  clear hc
  have hmk := make_Prices L.length hl
  have HR := hide (made_Price L w (L.length * 3) 69)
  have HKA := hide (Keeps.alloc (Keeps.refl w) (.cells (madeCells #[.int .i64 0, .int .i64 0, .int .i64 0] (L.length * 3)) 69))
  go_enter Tryz.func15, Tryz.ntmps15
  go_wp2_with fail
  clear hmk
  go_loopw [4] (fun y w1 => ∃ k : Nat, k ≤ L.length ∧ y = .int .i64 (k : Int) ∧ w1.rowIs w.heap.size 69 (L.length * 3) (rowPrice L k) ∧ Keeps w w1) (fun y _ => L.length - (intOf y).toNat)
  case atStart => exact ⟨0, by omega, rfl, HR.out, HKA.out⟩
  case round =>
    obtain ⟨k, hk, rfl, hr, hkw⟩ := hrel
    clear HR HKA
    by_cases hlt : k < L.length
    · obtain ⟨b, off, ea, c0, c1, c2⟩ := pcs_at (HC.out.kept hkw) k hlt
      subst ea
      have HQ := hide (fun w1 => toPrice_k L[k] w1)
      have HS := hide (rowPrice_step L k hlt)
      have HRR := hide hr
      have HKW := hide hkw
      have hkz := Nat.mul_le_mul_right 3 (show k + 1 ≤ L.length from hlt)
      clear hr hkw
      generalize L[k] = x at *
      obtain ⟨xfr, xto, xpp⟩ := x
      dsimp only [Prc.v] at *
      go_wp2_with fail
      refine (unhide HQ _).mono ?_
      rintro e w2 ⟨rfl, hk2⟩
      have r2 := hk2.rowK HRR.out
      have d0 := r2.cell (i := k * 3) (by omega)
      have f0 := r2.frozen (k * 3)
      have d1 := r2.cell (i := k * 3 + 1) (by omega)
      have f1 := r2.frozen (k * 3 + 1)
      have d2 := r2.cell (i := k * 3 + 2) (by omega)
      have f2 := r2.frozen (k * 3 + 2)
      have HR2 := hide r2
      have HK2 := hide (HKW.out.trans hk2)
      clear r2 hk2
      go_wp2_with fail
      go_roundw
      case rel => exact ⟨k + 1, by omega, by go_num, ((((HR2.out.set (k * 3) (.int .i64 xfr)).set (k * 3 + 1) (.int .i64 xto)).set (k * 3 + 2) (.int .i64 xpp))).congr (fun j _ => HS.out j), (Keeps.setCell (Keeps.setCell (Keeps.setCell HK2.out (Nat.le_refl _) _) (Nat.le_refl _) _) (Nat.le_refl _) _)⟩
      case measure => simp [intOf]; omega
    · have e : k = L.length := by omega
      subst e
      go_wp2_with fail
      go_ret
      exact ⟨_, rfl, born_row hr (pcs L) (by rw [pcs_len]; exact Nat.le_refl _) (fun j hj => rowPrice_end L j hj) (Nat.le_refl _), hkw⟩
theorem eqPrice_same (x : Prc) (w : World) : Calls Tryz.prog 52 #[x.v, x.v] w fun e w' => e = .returned (.bool true) ∧ Keeps w w' := by
  obtain ⟨xfr, xto, xpp⟩ := x
  dsimp only [Prc.v]
  skip
  all_goals
    go_enter Tryz.func52, Tryz.ntmps52
    go_wp2_with fail
    go_ret
    exact ⟨rfl, Keeps.alloc (Keeps.alloc (Keeps.refl _) _) _⟩
set_option maxHeartbeats 4000000 in
theorem eqPriceS_k (a a' : Option Addr) (cap cap' : Nat) (xs : List Prc) (w : World) (hc : Cells w a (pcs xs)) (hc' : Cells w a' (pcs xs)) (hl : xs.length ≤ 1048576) :
    Calls Tryz.prog 18 #[.slice a xs.length cap, .slice a' xs.length cap'] w fun e w' => e = .returned (.bool true) ∧ Keeps w w' := by
  have HC := hide hc
  have HC' := hide hc'
  clear hc hc'
  go_enter Tryz.func18, Tryz.ntmps18
  go_wp2_with fail
  go_loopw [5] (fun y w1 => ∃ k : Nat, k ≤ xs.length ∧ y = .int .i64 (k : Int) ∧ Keeps w w1) (fun y _ => xs.length - (intOf y).toNat)
  case atStart => exact ⟨0, by omega, rfl, Keeps.refl _⟩
  case round =>
    obtain ⟨k, hk, rfl, hkw⟩ := hrel
    by_cases hlt : k < xs.length
    · obtain ⟨b, off, ea, c0, c1, c2⟩ := pcs_at (HC.out.kept hkw) k hlt
      obtain ⟨b', off', ea', d0, d1, d2⟩ := pcs_at (HC'.out.kept hkw) k hlt
      have HEA := hide ea
      have HEA' := hide ea'
      clear ea ea'
      obtain rfl := HEA.out
      obtain rfl := HEA'.out
      have HQ := hide (fun t => eqPrice_same xs[k] (gr wr t))
      have g0 := gr_cell c0
      have i0 := gr_cell d0
      have g1 := gr_cell c1
      have i1 := gr_cell d1
      have g2 := gr_cell c2
      have i2 := gr_cell d2
      generalize xs[k] = x at *
      obtain ⟨xfr, xto, xpp⟩ := x
      dsimp only [Prc.v] at c0 d0 g0 i0 c1 d1 g1 i1 c2 d2 g2 i2 HQ
      go_wp2_with fail
      refine region_gr (by kernel_rfl) (by kernel_rfl) ?_
      repeat (go_big_quiet_step (first | (go_at_call 52; exact gr_call (unhide HQ _))))
      refine wpQuiet_nil ?_
      intro w' hw'
      have hk' := hkw.trans (Keeps.of_gr hw')
      clear hw'
      go_wp2_with fail
      go_roundw
      case rel => exact ⟨k + 1, by omega, by go_num, hk'⟩
      case measure => simp [intOf]; omega
    · go_wp2_with fail
      go_ret
      exact ⟨rfl, hkw⟩
end Go.Proofs.YtjdbedlgkngdkaaGreatDoor
namespace Go.Proofs.YtjdbedlgkngdkaaGreatDoor
open Go.RowKit Go.Deep
set_option linter.unusedVariables false
set_option linter.unusedSimpArgs false
set_option maxRecDepth 10000

theorem small_of {B : Bk} (h1 : B.Hs.length ≤ 60) (h2 : B.R.length ≤ 20) (h3 : B.Hs.all (htB B.C) = true) (h4 : B.R.all (crB B.C) = true) : Small B := by
  refine ⟨fun h hh => ?_, fun c hc => ?_, h1, h2⟩
  · have := List.all_eq_true.1 h3 h hh
    simp only [htB, posB, amtB, Bool.and_eq_true, decide_eq_true_eq] at this
    omega
  · have := List.all_eq_true.1 h4 c hc
    simp only [crB, posB, amtB, Bool.and_eq_true, decide_eq_true_eq] at this
    omega
theorem bookB_def (B : Bk) : bookB B = (amtB B.tk && (amtB B.wa && (posB B.nx && (decide (B.C.length ≤ 20) && (decide (B.Hs.length ≤ 60) && (decide (B.R.length ≤ 20) && (keysB (keysL B) && (B.Hs.all (htB B.C) && (B.R.all (crB B.C) && (idsB B.C && B.C.all (chanB B))))))))))) := by
  unfold bookB headB underB
  cases amtB B.tk <;> cases amtB B.wa <;> cases posB B.nx <;> cases decide (B.C.length ≤ 20) <;> cases decide (B.Hs.length ≤ 60) <;> cases decide (B.R.length ≤ 20) <;> cases keysB (keysL B) <;> cases B.Hs.all (htB B.C) <;> cases B.R.all (crB B.C) <;> cases idsB B.C <;> simp
set_option maxHeartbeats 4000000 in
theorem bookok_impl (B : Bo) (w : World) (hm : Mem w B.segs) (hl : B.len) : Calls Tryz.prog 68 #[B.v] w fun e w' => e = .returned (.bool (bookB B.d)) ∧ Keeps w w' := by
  have HV := hide (bookB_def B.d)
  have H1 := hide (fun w' (hk : Keeps w w') => keys_impl B w' (hm.kept hk) hl)
  have H2 := hide (fun w' (hk : Keeps w w') => htlcs_impl B w' (hm.kept hk) hl)
  have H3 := hide (fun w' (hk : Keeps w w') => circles_impl B w' (hm.kept hk) hl)
  have H4 := hide (fun w' (hk : Keeps w w') => ids_impl B.ca B.cc B.C w' (Bo.memC (hm.kept hk)) hl.1)
  have H5 := hide (fun w' (hk : Keeps w w') => channels_impl B w' (hm.kept hk) hl)
  have H6 := hide (small_of (B := B.d))
  obtain ⟨tk, nx, wa, ca, cc, C, ha, hc, Hs, ra, rc, R⟩ := B
  have HCC := hide (fun w' (hk : Keeps w w') => Bo.memC (hm.kept hk))
  have HCH := hide (fun w' (hk : Keeps w w') => Bo.memH (hm.kept hk))
  have HCR := hide (fun w' (hk : Keeps w w') => Bo.memR (hm.kept hk))
  have HL := hide hl
  have HBA := hide (book_box ⟨tk, nx, wa, ca, cc, C, ha, hc, Hs, ra, rc, R⟩ w 27)
  have HKA := hide (Keeps.alloc (Keeps.refl w) (.cells #[.int .i64 tk, .int .i64 nx, .int .i64 wa, .slice ca C.length cc, .slice ha Hs.length hc, .slice ra R.length rc] 27))
  dsimp only [Bo.d, Bo.v] at *
  clear hm hl
  go_enter Tryz.func68, Tryz.ntmps68
  go_wp2_with fail
  obtain ⟨l1, l2, l3⟩ := HL.out
  dsimp only at l1 l2 l3
  generalize hW : w.alloc (.cells #[.int .i64 tk, .int .i64 nx, .int .i64 wa, .slice ca C.length cc, .slice ha Hs.length hc, .slice ra R.length rc] 27) = W0 at *
  clear hW
  have HKc := hide (Keeps.refl W0)
  refine (amt_impl tk _).mono ?_
  rintro e w1 ⟨rfl, hk⟩
  replace HKc := hide (HKc.out.trans hk)
  clear hk
  obtain ⟨e0, e1, e2, e3, e4, e5⟩ := HBA.out.kept HKc.out
  dsimp only at e0 e1 e2 e3 e4 e5
  cases hb0 : amtB tk
  · go_wp2_with fail
    go_ret
    exact ⟨ret_b (by rw [HV.out]; simp [hb0]), HKA.out.trans HKc.out⟩
  go_wp2_with fail
  refine (amt_impl wa _).mono ?_
  rintro e w2 ⟨rfl, hk⟩
  replace HKc := hide (HKc.out.trans hk)
  clear hk
  clear e0 e1 e2 e3 e4 e5
  obtain ⟨e0, e1, e2, e3, e4, e5⟩ := HBA.out.kept HKc.out
  dsimp only at e0 e1 e2 e3 e4 e5
  cases hb1 : amtB wa
  · go_wp2_with fail
    go_ret
    exact ⟨ret_b (by rw [HV.out]; simp [hb0, hb1]), HKA.out.trans HKc.out⟩
  go_wp2_with fail
  refine (pos_impl nx _).mono ?_
  rintro e w3 ⟨rfl, hk⟩
  replace HKc := hide (HKc.out.trans hk)
  clear hk
  clear e0 e1 e2 e3 e4 e5
  obtain ⟨e0, e1, e2, e3, e4, e5⟩ := HBA.out.kept HKc.out
  dsimp only at e0 e1 e2 e3 e4 e5
  cases hb2 : posB nx
  · go_wp2_with fail
    go_ret
    exact ⟨ret_b (by rw [HV.out]; simp [hb0, hb1, hb2]), HKA.out.trans HKc.out⟩
  by_cases hn0 : C.length ≤ 20
  rotate_left
  · have hn0d := hide hn0
    go_wp2_with fail
    go_ret
    exact ⟨ret_b (by rw [HV.out]; simp [hb0, hb1, hb2, hn0d.out]), HKA.out.trans HKc.out⟩
  have hn0d := hide hn0
  by_cases hn1 : Hs.length ≤ 60
  rotate_left
  · have hn1d := hide hn1
    go_wp2_with fail
    go_ret
    exact ⟨ret_b (by rw [HV.out]; simp [hb0, hb1, hb2, hn0d.out, hn1d.out]), HKA.out.trans HKc.out⟩
  have hn1d := hide hn1
  by_cases hn2 : R.length ≤ 20
  rotate_left
  · have hn2d := hide hn2
    go_wp2_with fail
    go_ret
    exact ⟨ret_b (by rw [HV.out]; simp [hb0, hb1, hb2, hn0d.out, hn1d.out, hn2d.out]), HKA.out.trans HKc.out⟩
  have hn2d := hide hn2
  go_wp2_with fail
  refine (unhide H1 w3 (HKA.out.trans HKc.out) hn1d.out hn2d.out).mono ?_
  rintro e w4 ⟨rfl, hk⟩
  replace HKc := hide (HKc.out.trans hk)
  clear hk e0 e1 e2 e3 e4 e5
  obtain ⟨e0, e1, e2, e3, e4, e5⟩ := HBA.out.kept HKc.out
  dsimp only at e0 e1 e2 e3 e4 e5
  cases hc0 : keysB (keysL ⟨tk, nx, wa, C, Hs, R⟩)
  · go_wp2_with fail
    go_ret
    exact ⟨ret_b (by rw [HV.out]; simp [hb0, hb1, hb2, hn0d.out, hn1d.out, hn2d.out, hc0]), HKA.out.trans HKc.out⟩
  go_wp2_with fail
  refine (unhide H2 w4 (HKA.out.trans HKc.out)).mono ?_
  rintro e w5 ⟨rfl, hk⟩
  replace HKc := hide (HKc.out.trans hk)
  clear hk e0 e1 e2 e3 e4 e5
  obtain ⟨e0, e1, e2, e3, e4, e5⟩ := HBA.out.kept HKc.out
  dsimp only at e0 e1 e2 e3 e4 e5
  cases hc1 : Hs.all (htB C)
  · go_wp2_with fail
    go_ret
    exact ⟨ret_b (by rw [HV.out]; simp [hb0, hb1, hb2, hn0d.out, hn1d.out, hn2d.out, hc0, hc1]), HKA.out.trans HKc.out⟩
  go_wp2_with fail
  refine (unhide H3 w5 (HKA.out.trans HKc.out)).mono ?_
  rintro e w6 ⟨rfl, hk⟩
  replace HKc := hide (HKc.out.trans hk)
  clear hk e0 e1 e2 e3 e4 e5
  obtain ⟨e0, e1, e2, e3, e4, e5⟩ := HBA.out.kept HKc.out
  dsimp only at e0 e1 e2 e3 e4 e5
  cases hc2 : R.all (crB C)
  · go_wp2_with fail
    go_ret
    exact ⟨ret_b (by rw [HV.out]; simp [hb0, hb1, hb2, hn0d.out, hn1d.out, hn2d.out, hc0, hc1, hc2]), HKA.out.trans HKc.out⟩
  go_wp2_with fail
  refine (unhide H4 w6 (HKA.out.trans HKc.out)).mono ?_
  rintro e w7 ⟨rfl, hk⟩
  replace HKc := hide (HKc.out.trans hk)
  clear hk e0 e1 e2 e3 e4 e5
  obtain ⟨e0, e1, e2, e3, e4, e5⟩ := HBA.out.kept HKc.out
  dsimp only at e0 e1 e2 e3 e4 e5
  cases hc3 : idsB C
  · go_wp2_with fail
    go_ret
    exact ⟨ret_b (by rw [HV.out]; simp [hb0, hb1, hb2, hn0d.out, hn1d.out, hn2d.out, hc0, hc1, hc2, hc3]), HKA.out.trans HKc.out⟩
  go_wp2_with fail
  refine (unhide H5 w7 (HKA.out.trans HKc.out) (H6.out hn1d.out hn2d.out hc1 hc2)).mono ?_
  rintro e w8 ⟨rfl, hk⟩
  replace HKc := hide (HKc.out.trans hk)
  clear hk e0 e1 e2 e3 e4 e5
  obtain ⟨e0, e1, e2, e3, e4, e5⟩ := HBA.out.kept HKc.out
  dsimp only at e0 e1 e2 e3 e4 e5
  go_wp2_with fail
  go_ret
  exact ⟨ret_b (by rw [HV.out]; simp [hb0, hb1, hb2, hn0d.out, hn1d.out, hn2d.out, hc0, hc1, hc2, hc3]), HKA.out.trans HKc.out⟩
end Go.Proofs.YtjdbedlgkngdkaaGreatDoor
namespace Go.Proofs.YtjdbedlgkngdkaaGreatDoor
open Go.RowKit Go.Deep
set_option linter.unusedVariables false
set_option linter.unusedSimpArgs false
set_option maxRecDepth 10000

theorem rowc3 (w : World) (v0 v1 v2 : Value) (t : TypeId) : ∀ w', Keeps (w.alloc (.cells #[v0, v1, v2] t)) w' → w'.cell? ⟨w.heap.size, 0, none⟩ = some v0 ∧ w'.cell? ⟨w.heap.size, 1, none⟩ = some v1 ∧ w'.cell? ⟨w.heap.size, 2, none⟩ = some v2 := by
  intro w' hk
  have hB : (w.alloc (.cells #[v0, v1, v2] t)).heap[w.heap.size]? = some (.cells #[v0, v1, v2] t (0, 0)) := blk_alloc_new w _
  revert hB hk
  generalize w.alloc (.cells #[v0, v1, v2] t) = W
  intro hk hB
  refine ⟨?_, ?_, ?_⟩ <;> (refine hk.cell ?_; simp [World.cell?, hB])
theorem Cells.ahead {w : World} {a : Option Addr} {xs ys : List Value} (h : Cells w a (xs ++ ys)) : Cells w a xs := by
  rcases h with h | ⟨b, off, e, h⟩
  · exact Or.inl (List.append_eq_nil_iff.1 h).1
  · refine Or.inr ⟨b, off, e, fun j hj => ?_⟩
    rw [h j (by rw [List.length_append]; omega), List.getElem_append_left hj]
theorem pcs_take {w : World} {a : Option Addr} {L : List Prc} (h : Cells w a (pcs L)) (k : Nat) : Cells w a (pcs (L.take k)) := by
  have e : pcs L = pcs (L.take k) ++ pcs (L.drop k) := by rw [← pcs_append, List.take_append_drop]
  rw [e] at h
  exact h.ahead
theorem same_impl (p q : Prc) (w : World) : Calls Tryz.prog 71 #[p.v, q.v] w fun e w' => e = .returned (.bool (sameP p q)) ∧ Keeps w w' := by
  obtain ⟨pf, pt, pp⟩ := p
  obtain ⟨qf, qt, qp⟩ := q
  dsimp only [Prc.v]
  by_cases h1 : pf = qf
  · subst h1
    by_cases h2 : pt = qt
    · subst h2
      go_enter Tryz.func71, Tryz.ntmps71
      go_wp2_with fail
      go_ret
      exact ⟨ret_b (by simp [sameP]), Keeps.alloc (Keeps.alloc (Keeps.refl _) _) _⟩
    · have h2' : (pt == qt) = false := by simpa using h2
      go_enter Tryz.func71, Tryz.ntmps71
      go_wp2_with fail
      go_ret
      exact ⟨ret_b (by simp [sameP, h2]), Keeps.alloc (Keeps.alloc (Keeps.refl _) _) _⟩
  · have h1' : (pf == qf) = false := by simpa using h1
    go_enter Tryz.func71, Tryz.ntmps71
    go_wp2_with fail
    go_ret
    exact ⟨ret_b (by simp [sameP, h1]), Keeps.alloc (Keeps.alloc (Keeps.refl _) _) _⟩
theorem any_first {L : List Prc} {p : Prc} {k : Nat} (hk : k < L.length) (h : sameP p L[k] = true) : L.any (sameP p) = true := List.any_eq_true.2 ⟨_, List.getElem_mem hk, h⟩
theorem any_none {L : List Prc} {p : Prc} (h : ∀ j (hj : j < L.length), sameP p L[j] = false) : L.any (sameP p) = false := by
  rw [List.any_eq_false]
  intro x hx
  obtain ⟨j, hj, rfl⟩ := List.getElem_of_mem hx
  simp [h j hj]
set_option maxHeartbeats 2000000 in
theorem index_same (p : Prc) (a : Option Addr) (cap : Nat) (L : List Prc) (w : World) (hc : Cells w a (pcs L)) (hl : L.length ≤ 1048576) :
    Calls Tryz.prog 109 #[.slice a L.length cap, .func (Fn.func 71) #[p.v] #[]] w fun e w' => ∃ r : Int, e = .returned (.int .i64 r) ∧ Hid (decide (0 ≤ r) = L.any (sameP p)) ∧ Keeps w w' := by
  have HC := hide (fun w' (hk : Keeps w w') => hc.kept hk)
  clear hc
  go_enter Tryz.func109, Tryz.ntmps109
  go_wp2_with fail
  go_loopw [8] (fun y wr => ∃ k : Nat, k ≤ L.length ∧ y = .int .i64 (k : Int) ∧ Hid (∀ j (hj : j < L.length), j < k → sameP p L[j] = false) ∧ Hid (Keeps w wr)) (fun y _ => L.length - (intOf y).toNat)
  case atStart => exact ⟨0, by omega, rfl, fun j hj h => absurd h (by omega), Keeps.refl _⟩
  case round =>
    obtain ⟨k, hk, rfl, HG, HKr⟩ := hrel
    by_cases hlt : k < L.length
    · obtain ⟨b, off, ea, c0, c1, c2⟩ := pcs_at (unhide HC _ HKr.out) k hlt
      subst ea
      have HQ := hide (same_impl p L[k])
      have HF : Hid (sameP p L[k] = true → L.any (sameP p) = true) := fun h => any_first hlt h
      have HG2 : Hid (sameP p L[k] = false → ∀ j (hj : j < L.length), j < k + 1 → sameP p L[j] = false) := fun h j hj h' => by
        by_cases e : j = k
        · subst e; exact h
        · exact HG.out j hj (by omega)
      generalize L[k] = x at *
      obtain ⟨xfr, xto, xpp⟩ := x
      dsimp only [Prc.v] at *
      go_wp2_with fail
      refine (unhide HQ _).mono ?_
      rintro e w2 ⟨rfl, hk2⟩
      have HK2 := hide (HKr.out.trans hk2)
      clear hk2 c0 c1 c2
      cases hs : sameP p ⟨xfr, xto, xpp⟩
      · have HG3 := hide (HG2.out hs)
        go_wp2_with fail
        go_roundw
        case rel => exact ⟨k + 1, by omega, by go_num, HG3.out, HK2.out⟩
        case measure => simp [intOf]; omega
      · have HF2 := hide (HF.out hs)
        go_wp2_with fail
        go_ret
        exact ⟨(k : Int), rfl, by show _ = _; rw [HF2.out]; simp, HK2.out⟩
    · have HN : Hid (L.any (sameP p) = false) := any_none (fun j hj => HG.out j hj (by omega))
      go_wp2_with fail
      go_ret
      exact ⟨-1, rfl, by show _ = _; rw [HN.out]; rfl, HKr.out⟩
theorem contains_same (p : Prc) (a : Option Addr) (cap : Nat) (L : List Prc) (w : World) (hc : Cells w a (pcs L)) (hl : L.length ≤ 1048576) :
    Calls Tryz.prog 70 #[.slice a L.length cap, .func (Fn.func 71) #[p.v] #[]] w fun e w' => e = .returned (.bool (L.any (sameP p))) ∧ Keeps w w' := by
  have HI := hide (index_same p a cap L w hc hl)
  clear hc
  generalize p.v = pv at *
  go_enter Tryz.func70, Tryz.ntmps70
  go_wp2_with fail
  refine (unhide HI).mono ?_
  rintro e w2 ⟨r, rfl, hr, hk2⟩
  go_wp2_with fail
  go_ret
  exact ⟨ret_b (by rw [← hr.out]), hk2⟩
set_option maxHeartbeats 8000000 in
theorem prices_impl (B : Bo) (a : Option Addr) (cap : Nat) (L : List Prc) (w : World) (hm : Mem w B.segs) (hl : B.len) (hp : Cells w a (pcs L)) (hlp : L.length ≤ 1048576) (hcp : L.length ≤ cap) :
    Calls Tryz.prog 30 #[B.v, .slice a L.length cap] w fun e w' => e = .returned (.bool (pricesB B.d L)) ∧ Keeps w w' := by
  have HBO := hide (fun w' (hk : Keeps w w') => bookok_impl B w' (hm.kept hk) hl)
  have HCC := hide (fun w' (hk : Keeps w w') => Bo.memC (hm.kept hk))
  have HPP := hide (fun w' (hk : Keeps w w') => hp.kept hk)
  have HL := hide hl
  obtain ⟨tk, nx, wa, ca, cc, C, ha, hc, Hs, ra, rc, R⟩ := B
  have HBA := hide (book_box ⟨tk, nx, wa, ca, cc, C, ha, hc, Hs, ra, rc, R⟩ w 27)
  have HKA := hide (Keeps.alloc (Keeps.refl w) (.cells #[.int .i64 tk, .int .i64 nx, .int .i64 wa, .slice ca C.length cc, .slice ha Hs.length hc, .slice ra R.length rc] 27))
  dsimp only [Bo.v] at *
  clear hm hl hp
  obtain ⟨bd, hbd⟩ : ∃ bd, bd = Bo.d ⟨tk, nx, wa, ca, cc, C, ha, hc, Hs, ra, rc, R⟩ := ⟨_, rfl⟩
  have HBD : Hid (bd.C = C) := by show _ = _; rw [hbd]; rfl
  rw [← hbd] at HBO ⊢
  clear hbd
  cases hb : bookB bd
  · have HR := hide (prices_book (L := L) hb)
    go_enter Tryz.func30, Tryz.ntmps30
    go_wp2_with fail
    refine (unhide HBO _ HKA.out).mono ?_
    rintro e w1 ⟨rfl, hk1⟩
    rw [hb]
    go_wp2_with fail
    go_ret
    exact ⟨ret_b HR.out.symm, HKA.out.trans hk1⟩
  by_cases h20 : 20 < L.length
  · have HR := hide (prices_len (B := bd) h20)
    go_enter Tryz.func30, Tryz.ntmps30
    go_wp2_with fail
    refine (unhide HBO _ HKA.out).mono ?_
    rintro e w1 ⟨rfl, hk1⟩
    rw [hb]
    go_wp2_with fail
    go_ret
    exact ⟨ret_b HR.out.symm, HKA.out.trans hk1⟩
  have HBT := hide hb
  go_enter Tryz.func30, Tryz.ntmps30
  go_wp2_with fail
  refine (unhide HBO _ HKA.out).mono ?_
  rintro e w1 ⟨rfl, hk1⟩
  rw [hb]
  clear hb HBO
  generalize w.alloc (.cells #[.int .i64 tk, .int .i64 nx, .int .i64 wa, .slice ca C.length cc, .slice ha Hs.length hc, .slice ra R.length rc] 27) = W0 at *
  go_wp2_with fail
  go_loopw [17] (fun y wr => ∃ k : Nat, k ≤ L.length ∧ y = .int .i64 (k : Int) ∧ Hid (∀ j, j < L.length → j < k → prAt bd.C L j = true) ∧ Hid (Keeps W0 wr)) (fun y _ => L.length - (intOf y).toNat)
  case atStart => exact ⟨0, by omega, rfl, fun j hj h => absurd h (by omega), hk1⟩
  case round =>
    clear hk1
    obtain ⟨k, hk, rfl, HG, HKr⟩ := hrel
    by_cases hlt : k < L.length
    · obtain ⟨b, off, ea, c0, c1, c2⟩ := pcs_at (unhide HPP _ (HKA.out.trans HKr.out)) k hlt
      subst ea
      have HAT := hide (prAt_at (C := bd.C) hlt)
      have HNO : Hid (prAt bd.C L k = false → pricesB bd L = false) := fun h => prices_no hlt h
      have HY : Hid (prAt bd.C L k = true → ∀ j, j < L.length → j < k + 1 → prAt bd.C L j = true) := fun h j hj h' => by
        by_cases e : j = k
        · subst e; exact h
        · exact HG.out j hj (by omega)
      rw [HBD.out] at HAT HNO HY
      have HQ3 := hide (fun w1 (hk : Keeps w w1) => contains_same L[k] (some ⟨b, off, none⟩) cap (L.take k) w1 (pcs_take (unhide HPP w1 hk) k) (by rw [List.length_take]; omega))
      have hmin : min k L.length = k := by omega
      rw [List.length_take, hmin] at HQ3
      clear hmin
      generalize (L.take k) = LT at *
      generalize L[k] = x at *
      obtain ⟨xfr, xto, xpp⟩ := x
      dsimp only [Prc.v] at *
      have HA := hide (rowc3 wr (.int .i64 xfr) (.int .i64 xto) (.int .i64 xpp) 69)
      have HK1 := hide (HKr.out.trans (Keeps.alloc (Keeps.refl wr) (.cells #[.int .i64 xfr, .int .i64 xto, .int .i64 xpp] 69)))
      go_upto_region 6 with fail
      generalize hV : wr.heap.size = V at *
      generalize wr.alloc (.cells #[.int .i64 xfr, .int .i64 xto, .int .i64 xpp] 69) = W1 at *
      obtain ⟨d0, d1, d2⟩ := unhide HA W1 (Keeps.refl _)
      have g0 := gr_cell d0
      have g1 := gr_cell d1
      have g2 := gr_cell d2
      have q3 := (HBA.out.kept HK1.out).2.2.2.1
      dsimp only at q3
      have HQ1 := hide (fun t => two_impl w.heap.size ca cc C xfr xto (gr W1 t) (gr_cell q3 t) (unhide HCC _ (HKA.out.trans (HK1.out.trans (gr_keeps W1 t)))) HL.out.1)
      have HQ2 := hide (fun t => ppm_impl xpp (gr W1 t))
      replace HQ3 := hide (fun t => HQ3.out (gr W1 t) (HKA.out.trans (HK1.out.trans (gr_keeps W1 t))))
      have hk0 : (0 : Int) ≤ (k : Int) := by omega
      have hkc : (k : Int) ≤ (cap : Int) := by omega
      clear c0 c1 c2 d0 d1 d2 q3 hV
      obtain ⟨r1, hr1⟩ : ∃ r, r = twoB C xfr xto := ⟨_, rfl⟩
      obtain ⟨r2, hr2⟩ : ∃ r, r = ppmB xpp := ⟨_, rfl⟩
      obtain ⟨r3, hr3⟩ : ∃ r, r = LT.any (sameP ⟨xfr, xto, xpp⟩) := ⟨_, rfl⟩
      rw [← hr1] at HQ1 HAT
      rw [← hr2] at HQ2 HAT
      rw [← hr3] at HQ3 HAT
      clear hr1 hr2 hr3
      cases r1 <;> cases r2 <;> cases r3
      all_goals
        refine region_gr (by kernel_rfl) (by kernel_rfl) ?_
        repeat (go_big_quiet_step (first | (go_at_call 69; exact gr_call (unhide HQ1 _)) | (go_at_call 32; exact gr_call (unhide HQ2 _)) | (go_at_call 70; exact gr_call (unhide HQ3 _))))
        refine wpQuiet_nil ?_
        intro w' hw'
        have HK2 := hide (HK1.out.trans (Keeps.of_gr hw'))
        clear hw' g0 g1 g2
        go_wp2_with fail
        first
          | (go_ret
             exact ⟨ret_b (HNO.out (by rw [HAT.out]; rfl)).symm, HKA.out.trans HK2.out⟩)
          | (go_roundw
             case rel => exact ⟨k + 1, by omega, by go_num, (by rw [HBD.out]; exact HY.out (by rw [HAT.out]; rfl)), HK2.out⟩
             case measure => simp [intOf]; omega)
          | (trace_state; sorry)
    · have HR : Hid (pricesB bd L = true) := prices_yes HBT.out (by omega) (fun j hj => HG.out j hj (by omega))
      go_wp2_with fail
      go_ret
      exact ⟨ret_b HR.out.symm, HKA.out.trans HKr.out⟩
end Go.Proofs.YtjdbedlgkngdkaaGreatDoor
