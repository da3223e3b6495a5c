/- Lists of lines that a call makes by append: the model's l02Add. -/
import Derived.Test.YtecjjkgdgmjgmaaBals
import Derived.OwnWalk
import Derived.Laws.OwnMore
namespace Go.Proofs.Ytecjjkgdgmjgmaa
open Go.RowKit
set_option linter.unusedVariables false

theorem flat_snoc (M : List Ln) (y : Ln) : flat (M ++ [y]) = flat M ++ [.int .i64 y.k, .int .i64 y.c, .int .i64 y.a] := by
  simp [flat, Ln.cells]
theorem app_line {ops : Array Oper} {rest : List Oper} {o : Oper} {a : Act} {Q : Exit → Act → World → Prop} {wr W0 : World} (hgd : o.guard = none) (s x : Operand)
    (ho : o.op = .call { callee := .builtin .append, args := #[s, x], argTypes := #[23, 23] }) (base : Nat) (v : Value) (M : List Ln) (y : Ln) (hs : a.eval s = v)
    (hx : a.eval x = .slice (some ⟨wr.heap.size, 0, none⟩) 1 1) (hown : wr.ownsRow base 35 3 v M.length (flat M)) (hM : M.length ≤ 4194304) (hb0 : W0.heap.size ≤ base) (hbase : base ≤ wr.heap.size) (hk : Keeps W0 wr)
    (h : ∀ v' w', w'.ownsRow base 35 3 v' (M ++ [y]).length (flat (M ++ [y])) → Keeps W0 w' → (∀ p u, wr.cell? p = some u → (∀ k, v.ownBlock = some k → k ≠ p.block) → w'.cell? p = some u) → wpList Try.prog ops Q rest (a.put o.dst v') w') :
    wpList Try.prog ops Q (o :: rest) a (wr.alloc (.cells #[.int .i64 y.k, .int .i64 y.c, .int .i64 y.a] 35)) := by
  have hI := infoLine
  cases hi : Try.prog.info? 35 with
  | none => rw [hi] at hI; simp at hI
  | some i =>
    rw [hi] at hI
    simp at hI
    obtain ⟨hz, hsz, hby⟩ := hI
    refine wpList_append_own _ hgd s x 23 ho base 35 i _ 3 24 underLines hi hz hsz hby rfl (by decide) v M.length (flat M) hs (hown.alloc _) ⟨wr.heap.size, 0, none⟩ 1 1 [.int .i64 y.k, .int .i64 y.c, .int .i64 y.a] hx rfl ?_ ?_ ?_ ?_ ?_ ?_
    · intro j u hj
      match j, hj with
      | 0, hj => simp at hj; subst hj; simp [Addr.add]
      | 1, hj => simp at hj; subst hj; simp [Addr.add]
      | 2, hj => simp at hj; subst hj; simp [Addr.add]
      | n + 3, hj => simp at hj
    · intro u hu
      simp at hu
      rcases hu with rfl | rfl | rfl <;> rfl
    · simp only [maxLen]; omega
    · omega
    · simp; omega
    · intro v' w' h1 h2 h3
      refine h v' w' ?_ ?_ ?_
      · rw [flat_snoc, List.length_append]; exact h1
      · refine Below.grown (Keeps.alloc hk _) h2 ?_ ?_
        · have := hk.size; simp; omega
        · intro k hk'
          have := (hown.lt k hk').1
          omega
      · intro p u hp hne
        refine h2.cell ((Keeps.alloc (Keeps.refl wr) _).cell hp) (fun e => hne p.block e.symm rfl)

theorem Keeps.owns {w w' : World} (hk : Keeps w w') {base n : Nat} {e : TypeId} {sz : Nat} {v : Value} {xs : List Value} (h : w.ownsRow base e sz v n xs) : w'.ownsRow base e sz v n xs := by
  refine ⟨h.1, ?_⟩
  rcases h.2 with h' | ⟨g, cap, cur, rfl, hb, hg, rest⟩
  · exact .inl h'
  · refine .inr ⟨g, cap, cur, rfl, hb, ?_, rest⟩
    rw [Below.block hk g (Array.getElem?_eq_some_iff.1 hg).1]; exact hg
theorem owns_mono {w : World} {base base' n : Nat} {e : TypeId} {sz : Nat} {v : Value} {xs : List Value} (h : w.ownsRow base e sz v n xs) (hb : base' ≤ base) : w.ownsRow base' e sz v n xs := by
  refine ⟨h.1, ?_⟩
  rcases h.2 with h' | ⟨g, cap, cur, rfl, hb', rest⟩
  · exact .inl h'
  · exact .inr ⟨g, cap, cur, rfl, by omega, rest⟩
/-- An own list of lines: where it lies. -/
theorem own_cells {w : World} {base : Nat} {v : Value} {M : List Ln} (h : w.ownsRow base 35 3 v M.length (flat M)) :
    ∃ (a : Option Addr) (cap : Nat), v = .slice a M.length cap ∧ Cells w a (flat M) := by
  rcases h.2 with ⟨rfl, h'⟩ | ⟨g, cap, cur, rfl, hb, hg, hn, _, hsz, ht⟩
  · have : M = [] := List.length_eq_zero_iff.1 h'
    subst this
    exact ⟨none, 0, rfl, Cells.nil _ _⟩
  · refine ⟨_, cap, rfl, Or.inr ⟨g, 0, rfl, fun j hj => ?_⟩⟩
    rw [Nat.zero_add]
    have h1 : w.cell? ⟨g, j, none⟩ = cur[j]? := by simp [World.cell?, hg]
    rw [h1, ← List.getElem?_eq_getElem hj, ← ht, List.getElem?_take]
    rw [flat_length] at hj
    rw [if_pos (by omega)]
    simp

/-- A line added to a list in order; done: it is in already. -/
def addG (x : Ln) : Bool → List Ln → List Ln
  | true, L => L
  | false, [] => [x]
  | false, y :: L => if lessB y.k y.c x.k x.c = true then y :: addG x false L else if y.k = x.k ∧ y.c = x.c then (if y.a + x.a = 0 then L else ⟨y.k, y.c, y.a + x.a⟩ :: L) else x :: y :: L
theorem addG_true (x : Ln) (L : List Ln) : addG x true L = L := by cases L <;> rfl

set_option maxHeartbeats 4000000 in
theorem add_spec (a : Option Addr) (cap : Nat) (L : List Ln) (x : Ln) (w : World) (hc : Cells w a (flat L)) (hl : L.length ≤ 1048576) (hx0 : -1152921504606846976 ≤ x.a) (hx1 : x.a ≤ 1152921504606846976)
    (hy : ∀ n (h : n < L.length), -1152921504606846976 ≤ L[n].a ∧ L[n].a ≤ 1152921504606846976) :
    Calls Try.prog 46 #[.slice a L.length cap, lineV x] w fun e w' => ∃ v, e = .returned v ∧ w'.ownsRow w.heap.size 35 3 v (addG x false L).length (flat (addG x false L)) ∧ Keeps w w' := by
  obtain ⟨xk, xc, xa⟩ := x
  dsimp only at hx0 hx1
  have HKA := hide (Keeps.alloc (Keeps.refl w) (.cells #[.int .i64 xk, .int .i64 xc, .int .i64 xa] 35))
  have HC := hide (hc.kept HKA.out)
  have HD : Hid (∀ w', Keeps (w.alloc (.cells #[.int .i64 xk, .int .i64 xc, .int .i64 xa] 35)) w' → w'.cell? ⟨w.heap.size, 0, none⟩ = some (.int .i64 xk) ∧ w'.cell? ⟨w.heap.size, 1, none⟩ = some (.int .i64 xc) ∧ w'.cell? ⟨w.heap.size, 2, none⟩ = some (.int .i64 xa)) :=
    fun w' hk => ⟨hk.cell (by simp), hk.cell (by simp), hk.cell (by simp)⟩
  have HY := hide hy
  have HO0 := hide (World.ownsRow_made (base := w.heap.size + 1) (e := 35) (size := 3) (w.alloc (.cells #[.int .i64 xk, .int .i64 xc, .int .i64 xa] 35)) #[] 0 (by simp) (by decide) rfl)
  clear hc hy
  go_enter Try.func46, Try.ntmps46
  go_wp2_with fail
  go_loopw [5, 6, 12] (fun v d i wr => ∃ (n : Nat) (dn : Bool) (M : List Ln), n ≤ L.length ∧ M.length ≤ 2 * n ∧ i = .int .i64 (n : Int) ∧ d = .bool dn ∧ Hid (wr.ownsRow (w.heap.size + 1) 35 3 v M.length (flat M)) ∧ Hid (M ++ addG (Ln.mk xk xc xa) dn (L.drop n) = addG (Ln.mk xk xc xa) false L) ∧ Hid (Keeps (w.alloc (.cells #[.int .i64 xk, .int .i64 xc, .int .i64 xa] 35)) wr)) (fun _ _ i _ => L.length - (intOf i).toNat)
  case atStart => exact ⟨0, false, [], by omega, by simp, rfl, rfl, by show World.ownsRow _ _ _ _ _ _ _; simpa [flat] using HO0.out, by show _ = _; simp, Keeps.alloc (Keeps.refl _) _⟩
  case round =>
    obtain ⟨n, dn, M, hn, hM, rfl, rfl, HO, HE, HK⟩ := hrel
    have hz : w.heap.size + 1 ≤ wr.heap.size := by have := HK.out.size; simpa using this
    by_cases hlt : n < L.length
    · obtain ⟨b, off, ea, c0, c1, c2⟩ := cells_at (HC.out.kept HK.out) n hlt
      subst ea
      obtain ⟨y0, y1⟩ := HY.out n hlt
      have HDr : Hid (L.drop n = L[n] :: L.drop (n + 1)) := List.drop_eq_getElem_cons hlt
      clear HC HY HO0
      generalize L[n] = y at *
      obtain ⟨yk, yc, ya⟩ := y
      dsimp only at c0 c1 c2 y0 y1
      have HK1 := hide (Keeps.alloc HK.out (.cells #[.int .i64 yk, .int .i64 yc, .int .i64 ya] 35))
      obtain ⟨x0, x1, x2⟩ := HD.out _ HK1.out
      have HO1 := hide (HO.out.alloc (.cells #[.int .i64 yk, .int .i64 yc, .int .i64 ya] 35))
      have HQ := hide (fun w1 => less_k yk yc xk xc w1)
      have HB : Hid (∀ k, u5.ownBlock = some k → k ≠ wr.heap.size) := fun k hk => by have := (HO.out.lt k hk).2; omega
      cases dn
      · cases hq : lessB yk yc xk xc
        · rw [hq] at HQ
          have HL := hide hq
          clear hq
          go_wp2_with fail
          refine (unhide HQ _).mono ?_
          rintro e w2 ⟨rfl, hk2⟩
          have HK2 := hide (HK1.out.trans hk2)
          have HO2 := hide (hk2.owns HO1.out)
          have e0 := hk2.cell (p := ⟨wr.heap.size, 0, none⟩) (v := .int .i64 yk) (by simp)
          have e1 := hk2.cell (p := ⟨wr.heap.size, 1, none⟩) (v := .int .i64 yc) (by simp)
          have e2 := hk2.cell (p := ⟨wr.heap.size, 2, none⟩) (v := .int .i64 ya) (by simp)
          obtain ⟨z0, z1, z2⟩ := HD.out _ HK2.out
          have hz2 : wr.heap.size + 1 ≤ w2.heap.size := by have := hk2.size; simpa using this
          clear hk2 c0 c1 c2 x0 x1 x2 HQ
          by_cases h1 : yk = xk
          · subst h1
            by_cases h2 : yc = xc
            · subst h2
              by_cases h3 : ya + xa = 0
              · have HN : Hid (M ++ addG (Ln.mk yk yc xa) true (L.drop (n + 1)) = addG (Ln.mk yk yc xa) false L) := by
                  show _ = _
                  rw [← HE.out, HDr.out, addG_true]
                  simp only [addG]
                  rw [if_neg (by rw [HL.out]; decide), if_pos (by simp), if_pos h3]
                go_wp2_with fail
                go_roundw
                case rel => exact ⟨n + 1, true, M, by omega, by omega, by go_num, rfl, HO2, HN, HK2⟩
                case measure => simp [intOf]; omega
              · have HN : Hid ((M ++ [Ln.mk yk yc (ya + xa)]) ++ addG (Ln.mk yk yc xa) true (L.drop (n + 1)) = addG (Ln.mk yk yc xa) false L) := by
                  show _ = _
                  rw [← HE.out, HDr.out, addG_true]
                  simp only [addG]
                  rw [if_neg (by rw [HL.out]; decide), if_pos (by simp), if_neg h3]; simp
                go_wp2_with (at_builtin; refine app_line (W0 := w.alloc (.cells #[.int .i64 yk, .int .i64 yc, .int .i64 xa] 35)) (wr := w2) rfl (.tmp 41) (.tmp 50) rfl (w.heap.size + 1) u5 M (Ln.mk yk yc (ya + xa)) rfl rfl HO2.out (by first | omega | (simp; omega)) (by simp) (by omega) HK2.out ?_; intro v' w' ho' hk' hce; have e0' := hce _ _ e0 HB.out; have e1' := hce _ _ e1 HB.out; have e2' := hce _ _ e2 HB.out; obtain ⟨z0', z1', z2'⟩ := HD.out _ hk'; clear hce)
                go_roundw
                case rel => exact ⟨n + 1, true, M ++ [Ln.mk yk yc (ya + xa)], by omega, by simp; omega, by go_num, rfl, ho', HN, hk'⟩
                case measure => simp [intOf]; omega
            · have HN : Hid (((M ++ [(Ln.mk yk xc xa)]) ++ [(Ln.mk yk yc ya)]) ++ addG (Ln.mk yk xc xa) true (L.drop (n + 1)) = addG (Ln.mk yk xc xa) false L) := by
                show _ = _
                rw [← HE.out, HDr.out, addG_true]
                simp only [addG]
                rw [if_neg (by rw [HL.out]; decide), if_neg (fun h => h2 h.2)]; simp
              go_wp2_with (first
                | (at_builtin; refine app_line (W0 := w.alloc (.cells #[.int .i64 yk, .int .i64 xc, .int .i64 xa] 35)) (wr := w2) rfl (.tmp 31) (.tmp 33) rfl (w.heap.size + 1) u5 M (Ln.mk yk xc xa) rfl rfl HO2.out (by first | omega | (simp; omega)) (by simp) (by omega) HK2.out ?_; intro v' w' ho' hk' hce; have e0' := hce _ _ e0 HB.out; have e1' := hce _ _ e1 HB.out; have e2' := hce _ _ e2 HB.out; obtain ⟨z0', z1', z2'⟩ := HD.out _ hk'; clear hce)
                | (at_builtin; refine app_line (W0 := w.alloc (.cells #[.int .i64 yk, .int .i64 xc, .int .i64 xa] 35)) (wr := w') rfl (.tmp 57) (.tmp 59) rfl (w.heap.size + 1) v' (M ++ [(Ln.mk yk xc xa)]) (Ln.mk yk yc ya) rfl rfl ho' (by first | omega | (simp; omega)) (by simp) (by have := hk'.size; simp at this; omega) hk' ?_; intro v3 w3 ho3 hk3 _))
              go_roundw
              case rel => exact ⟨n + 1, true, (M ++ [(Ln.mk yk xc xa)]) ++ [(Ln.mk yk yc ya)], by omega, by simp; omega, by go_num, rfl, ho3, HN, hk3⟩
              case measure => simp [intOf]; omega
          · have HN : Hid (((M ++ [(Ln.mk xk xc xa)]) ++ [(Ln.mk yk yc ya)]) ++ addG (Ln.mk xk xc xa) true (L.drop (n + 1)) = addG (Ln.mk xk xc xa) false L) := by
              show _ = _
              rw [← HE.out, HDr.out, addG_true]
              simp only [addG]
              rw [if_neg (by rw [HL.out]; decide), if_neg (fun h => h1 h.1)]; simp
            go_wp2_with (first
              | (at_builtin; refine app_line (W0 := w.alloc (.cells #[.int .i64 xk, .int .i64 xc, .int .i64 xa] 35)) (wr := w2) rfl (.tmp 31) (.tmp 33) rfl (w.heap.size + 1) u5 M (Ln.mk xk xc xa) rfl rfl HO2.out (by first | omega | (simp; omega)) (by simp) (by omega) HK2.out ?_; intro v' w' ho' hk' hce; have e0' := hce _ _ e0 HB.out; have e1' := hce _ _ e1 HB.out; have e2' := hce _ _ e2 HB.out; obtain ⟨z0', z1', z2'⟩ := HD.out _ hk'; clear hce)
              | (at_builtin; refine app_line (W0 := w.alloc (.cells #[.int .i64 xk, .int .i64 xc, .int .i64 xa] 35)) (wr := w') rfl (.tmp 57) (.tmp 59) rfl (w.heap.size + 1) v' (M ++ [(Ln.mk xk xc xa)]) (Ln.mk yk yc ya) rfl rfl ho' (by first | omega | (simp; omega)) (by simp) (by have := hk'.size; simp at this; omega) hk' ?_; intro v3 w3 ho3 hk3 _))
            go_roundw
            case rel => exact ⟨n + 1, true, (M ++ [(Ln.mk xk xc xa)]) ++ [(Ln.mk yk yc ya)], by omega, by simp; omega, by go_num, rfl, ho3, HN, hk3⟩
            case measure => simp [intOf]; omega
        · have HN : Hid ((M ++ [(Ln.mk yk yc ya)]) ++ addG (Ln.mk xk xc xa) false (L.drop (n + 1)) = addG (Ln.mk xk xc xa) false L) := by
            show _ = _
            rw [← HE.out, HDr.out]
            simp only [addG]
            rw [if_pos hq]; simp
          rw [hq] at HQ
          clear hq
          go_wp2_with fail
          refine (unhide HQ _).mono ?_
          rintro e w2 ⟨rfl, hk2⟩
          have HK2 := hide (HK1.out.trans hk2)
          have HO2 := hide (hk2.owns HO1.out)
          have e0 := hk2.cell (p := ⟨wr.heap.size, 0, none⟩) (v := .int .i64 yk) (by simp)
          have e1 := hk2.cell (p := ⟨wr.heap.size, 1, none⟩) (v := .int .i64 yc) (by simp)
          have e2 := hk2.cell (p := ⟨wr.heap.size, 2, none⟩) (v := .int .i64 ya) (by simp)
          have hz2 : wr.heap.size + 1 ≤ w2.heap.size := by have := hk2.size; simpa using this
          clear hk2 c0 c1 c2 x0 x1 x2 HQ
          go_wp2_with (at_builtin; refine app_line (W0 := w.alloc (.cells #[.int .i64 xk, .int .i64 xc, .int .i64 xa] 35)) (wr := w2) rfl (.tmp 57) (.tmp 59) rfl (w.heap.size + 1) u5 M (Ln.mk yk yc ya) rfl rfl HO2.out (by first | omega | (simp; omega)) (by simp) (by omega) HK2.out ?_; intro v' w' ho' hk' hce; clear hce)
          go_roundw
          case rel => exact ⟨n + 1, false, M ++ [(Ln.mk yk yc ya)], by omega, by simp; omega, by go_num, rfl, ho', HN, hk'⟩
          case measure => simp [intOf]; omega
      · have HN : Hid ((M ++ [(Ln.mk yk yc ya)]) ++ addG (Ln.mk xk xc xa) true (L.drop (n + 1)) = addG (Ln.mk xk xc xa) false L) := by
          show _ = _
          rw [← HE.out, HDr.out, addG_true, addG_true]; simp
        clear HQ
        go_wp2_with (at_builtin; refine app_line (W0 := w.alloc (.cells #[.int .i64 xk, .int .i64 xc, .int .i64 xa] 35)) (wr := wr.alloc (.cells #[.int .i64 yk, .int .i64 yc, .int .i64 ya] 35)) rfl (.tmp 57) (.tmp 59) rfl (w.heap.size + 1) u5 M (Ln.mk yk yc ya) rfl (by simp; rfl) HO1.out (by first | omega | (simp; omega)) (by simp) (by simp; omega) HK1.out ?_; intro v' w' ho' hk' hce; clear hce)
        go_roundw
        case rel => exact ⟨n + 1, true, M ++ [(Ln.mk yk yc ya)], by omega, by simp; omega, by go_num, rfl, ho', HN, hk'⟩
        case measure => simp [intOf]; omega
    · have e : n = L.length := by omega
      obtain ⟨x0, x1, x2⟩ := HD.out _ HK.out
      cases dn
      · have HN : Hid (M ++ [(Ln.mk xk xc xa)] = addG (Ln.mk xk xc xa) false L) := by show _ = _; rw [← HE.out, e, List.drop_length]; rfl
        clear e
        go_wp2_with (at_builtin; refine app_line (W0 := w.alloc (.cells #[.int .i64 xk, .int .i64 xc, .int .i64 xa] 35)) (wr := wr) rfl (.tmp 64) (.tmp 66) rfl (w.heap.size + 1) u5 M (Ln.mk xk xc xa) rfl rfl HO.out (by first | omega | (simp; omega)) (by simp) (by omega) HK.out ?_; intro v' w' ho' hk' hce; clear hce)
        go_ret
        exact ⟨_, rfl, by rw [← HN.out]; exact owns_mono ho' (by omega), HKA.out.trans hk'⟩
      · have HN : Hid (M = addG (Ln.mk xk xc xa) false L) := by show _ = _; rw [← HE.out, e, List.drop_length, addG_true]; simp
        clear e
        go_wp2_with fail
        go_ret
        exact ⟨_, rfl, by rw [← HN.out]; exact owns_mono HO.out (by omega), HKA.out.trans HK.out⟩
end Go.Proofs.Ytecjjkgdgmjgmaa
