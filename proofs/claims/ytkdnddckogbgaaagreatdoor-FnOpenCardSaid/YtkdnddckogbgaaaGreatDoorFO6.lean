/- Texts of the verifier, joined: L3C, L3D. -/
import Derived.Test.YtkdnddckogbgaaaGreatDoorFO5
import Derived.Deep.RegionLaw
namespace Go.Proofs.YtkdnddckogbgaaaGreatDoor
open Go.RowKit Go.Deep
set_option linter.unusedVariables false
set_option maxRecDepth 10000
attribute [local go_sem ↓] Go.wp_at_zero Go.wp_at_succ

theorem step_append_run {P : Program} {w : World} {ops : Array Oper} {o : Oper} {a : Act} {K : Act → World → Prop} {Q : Exit → Act → World → Prop} {E : Prop} (hgd : o.guard = none) (s x : Operand) (t tn : TypeId)
    (ho : o.op = .call { callee := .builtin .append, args := #[s, x], argTypes := #[t, tn] }) (vs vx : Value) (hs : a.eval s = vs) (hx : a.eval x = vx)
    (v' : Value) (w' : World) (hr : (Builtin.append_ #[t, tn] o.type #[vs, vx]).run P w = .ok v' w') (h : K (a.put o.dst v') w') : if Region.wanted o (yielded ops a.tmps) = true then Oper.wp P o a w K Q else E := by
  have hw : Region.wanted o (yielded ops a.tmps) = true := by simp [Region.wanted, hgd]
  rw [if_pos hw]
  exact Lib.wp_append_run w s x t tn ho vs vx hs hx v' w' hr h
theorem run_bys (w : World) (xa : Option Addr) (xc : Nat) (xL : List UInt8) (ty : TypeId) (hc : Cells w xa (bys xL)) (hn : xa = none → xc = 0) (hl : xL.length ≤ 4194304) :
    ∃ (a' : Option Addr) (c' : Nat) (w' : World), (Builtin.append_ #[22, 22] ty #[.slice (some ⟨w.heap.size, 0, none⟩) 0 0, .slice xa xL.length xc]).run Tryz.prog (w.alloc (.cells #[] 5)) = .ok (.slice a' xL.length c') w' ∧ ((a' = none → c' = 0) ∧ xL.length ≤ c') ∧ Born w w' [(a', bys xL)] ∧ Keeps w w' := by
  have hown := World.ownsRow_made (base := w.heap.size) (e := 5) (size := 1) w #[] 0 (Nat.le_refl _) (by decide) rfl
  have hka := Keeps.alloc (Keeps.refl w) (.cells #[] 5)
  have hI := infoByte
  cases hi : Tryz.prog.info? 5 with
  | none => rw [hi] at hI; simp at hI
  | some i =>
    rw [hi] at hI
    simp at hI
    obtain ⟨hz, hsz, hby⟩ := hI
    cases xa with
    | none =>
      obtain rfl := hn rfl
      have hM0 : xL = [] := by
        rcases hc with hM | ⟨_, _, e, _⟩
        · exact bys_nil.1 hM
        · cases e
      subst hM0
      refine ⟨some ⟨w.heap.size, 0, none⟩, 0, _, run_append_owned_none (P := Tryz.prog) (w := w.alloc (.cells #[] 5)) w.heap.size 22 ty 5 i 1 underBytes hi _ 0 [] hown, ⟨(fun e => nomatch e), Nat.le_refl _⟩, ?_, hka⟩
      obtain ⟨a', c', e, _, hb⟩ := Born.of_owns hown
      injection e with e1 e2 e3
      subst e1
      exact hb
    | some p =>
      obtain ⟨v', w', h1, h2, h3, _⟩ := run_append_own (P := Tryz.prog) (w.alloc (.cells #[] 5)) w.heap.size 22 ty 5 i _ 1 1 underBytes hi hz hsz hby rfl (by decide) (.slice (some ⟨w.heap.size, 0, none⟩) 0 0) 0 [] hown p xL.length xc (bys xL) (by simp [bys_length]) (src_at (hc.kept hka)) (fun u hu => one_cells hu) (by simp only [maxLen]; omega) (by omega) (by simp)
      rw [List.nil_append, Nat.zero_add] at h2
      obtain ⟨a', c', rfl, hn', hb⟩ := Born.of_owns h2
      exact ⟨a', c', w', h1, hn', hb, Keeps.grown hka h3 (fun k hk => (hown.lt k hk).1)⟩
theorem room_turn {w w' : World} {b n : Nat} {fs : List Nat} (h : Room w b n) (ht : Turn fs w w') (hb : b ∉ fs) (hl : b < w.heap.size) : Room w' b n :=
  ⟨fun j hj => by obtain ⟨u, hu⟩ := h.cell j hj; exact ⟨u, ht.cell hb hu⟩, fun o => by rw [World.frozen?_of_block (w := w) (a := ⟨b, o, none⟩) (ht.block b hl hb)]; exact h.free o⟩
section
variable {α : Type} {T : TypeId} {sz : Nat} {f : α → List Value} {sg : α → Seg} {w0 w : World} {v : Value} {nb : List α}
/-- All of the list lies behind block O. -/
def Past (O : Nat) (v : Value) (S : List Seg) : Prop := (∀ g, v.ownBlock = some g → O < g) ∧ ∀ b ∈ fp S, O < b
theorem LG.set {O j : Nat} {u : Value} (h : LG T sz f sg w0 w v nb) (hp : Past O v (nb.map sg)) (hO : w0.heap.size ≤ O) : LG T sz f sg w0 (w.setCell ⟨O, j, none⟩ u) v nb := by
  have ht : Turn [O] w (w.setCell ⟨O, j, none⟩ u) := Turn.set (by simp) _
  refine ⟨?_, h.inner.turn ht (fun b hb hx => ?_), h.apart, ht.keeps h.keeps (fun b hb => by simp at hb; omega)⟩
  · refine ⟨h.row.1, ?_⟩
    rcases h.row.2 with h' | ⟨g, cap, cur, rfl, hb, hg, rest⟩
    · exact .inl h'
    · refine .inr ⟨g, cap, cur, rfl, hb, ?_, rest⟩
      have := hp.1 g rfl
      rw [blk_setCell_other _ _ _ _ (by show g ≠ O; omega)]; exact hg
  · have := hp.2 b hb
    simp at hx
    omega
theorem LG.turned {w' : World} {fs : List Nat} (h : LG T sz f sg w0 w v nb) (ht : Turn fs w w') (h1 : ∀ g, v.ownBlock = some g → g ∉ fs) (h2 : ∀ b ∈ fp (nb.map sg), b ∉ fs) (h3 : ∀ b ∈ fs, w0.heap.size ≤ b) : LG T sz f sg w0 w' v nb := by
  refine ⟨⟨h.row.1, ?_⟩, h.inner.turn ht h2, h.apart, ht.keeps h.keeps h3⟩
  rcases h.row.2 with h' | ⟨g, cap, cur, rfl, hb, hg, rest⟩
  · exact .inl h'
  · refine .inr ⟨g, cap, cur, rfl, hb, ?_, rest⟩
    rw [ht.block g (Array.getElem?_eq_some_iff.1 hg).1 (h1 g rfl)]; exact hg
theorem LG.set' {O j : Nat} {u : Value} (h : LG T sz f sg w0 w v nb) (hO : w0.heap.size ≤ O) (h1 : ∀ g, v.ownBlock = some g → O < g) (h2 : ∀ b ∈ fp (nb.map sg), O < b) : LG T sz f sg w0 (w.setCell ⟨O, j, none⟩ u) v nb := h.set ⟨h1, h2⟩ hO
theorem Past.snoc {O : Nat} {v' : Value} {x : α} {n m : Nat} (h : Past O v (nb.map sg)) (hx : ∀ b ∈ fp [sg x], n ≤ b) (hn : O < n) (hm : O < m) (hv : v'.ownBlock = v.ownBlock ∨ v'.ownBlock = some m) : Past O v' ((nb ++ [x]).map sg) := by
  refine ⟨fun g hg => ?_, fun b hb => ?_⟩
  · rcases hv with hv | hv
    · exact h.1 g (by rw [← hv]; exact hg)
    · rw [hv] at hg; have := Option.some.inj hg; omega
  · rw [List.map_append, fp_append] at hb
    rcases List.mem_append.1 hb with hb | hb
    · exact h.2 b hb
    · have := hx b hb; omega
end
end Go.Proofs.YtkdnddckogbgaaaGreatDoor
namespace Go.Proofs.YtkdnddckogbgaaaGreatDoor
open Go.RowKit Go.Deep
set_option linter.unusedVariables false
set_option maxRecDepth 10000
attribute [local go_sem ↓] Go.wp_at_zero Go.wp_at_succ

/-- What l03Copy answers: two lists of its own, the writes behind the cells. -/
def CopyRes (w w' : World) (v1 v2 : Value) (cs : List Bs) (ds : List Wr) : Prop := ∃ (nb : List Bs) (nw : List Wr) (O : Nat), nb.map Bs.L = cs.map Bs.L ∧ nw.map Wr.key = ds.map Wr.key ∧ (∀ b ∈ nb, b.fit) ∧ (∀ x ∈ nw, x.b.fit) ∧
  LG 93 1 Bs.cells Bs.seg w w' v1 nb ∧ LG 86 2 Wr.cells Wr.seg w w' v2 nw ∧ Past O v2 (nw.map Wr.seg) ∧ (∀ g, v1.ownBlock = some g → g ≤ O) ∧ (∀ b ∈ fp (nb.map Bs.seg), b ≤ O)
set_option maxHeartbeats 8000000 in
theorem copy_spec (ca : Option Addr) (cc : Nat) (cs : List Bs) (da : Option Addr) (dc : Nat) (ds : List Wr) (w : World) (hm : Mem w (dsk ca cs da ds)) (h : DOk cs ds) :
    Calls Tryz.prog 77 #[dskV ca cs.length cc da ds.length dc] w fun e w' => ∃ v1 v2, e = .returned (.agg #[v1, v2]) ∧ CopyRes w w' v1 v2 cs ds ∧ Keeps w w' := by
  have HKA := hide (Keeps.alloc (Keeps.alloc (Keeps.alloc (Keeps.refl w) (.cells #[.slice ca cs.length cc, .slice da ds.length dc] 26)) (.cells #[.slice none 0 0, .slice none 0 0] 26)) (.cells #[.slice none 0 0, .slice none 0 0] 26))
  have HM := hide hm
  have HDO := hide h
  have hcl := h.c
  have hdl := h.d
  have HRR := hide (Room.of_row ((row_new (w.alloc (.cells #[.slice ca cs.length cc, .slice da ds.length dc] 26)) #[.slice none 0 0, .slice none 0 0] 26).alloc (.cells #[.slice none 0 0, .slice none 0 0] 26)))
  have HRO := hide (Room.of_row (row_new ((w.alloc (.cells #[.slice ca cs.length cc, .slice da ds.length dc] 26)).alloc (.cells #[.slice none 0 0, .slice none 0 0] 26)) #[.slice none 0 0, .slice none 0 0] 26))
  rw [World.size_alloc] at HRR
  rw [World.size_alloc, World.size_alloc] at HRO
  have HC0 : Hid ((((w.alloc (.cells #[.slice ca cs.length cc, .slice da ds.length dc] 26)).alloc (.cells #[.slice none 0 0, .slice none 0 0] 26)).alloc (.cells #[.slice none 0 0, .slice none 0 0] 26)).cell? ⟨w.heap.size, 1, none⟩ = some (.slice da ds.length dc)) := Keeps.cell (w := w.alloc (.cells #[.slice ca cs.length cc, .slice da ds.length dc] 26)) (Keeps.alloc (Keeps.alloc (Keeps.refl _) _) _) (by simp)
  have HO0 : Hid ((((w.alloc (.cells #[.slice ca cs.length cc, .slice da ds.length dc] 26)).alloc (.cells #[.slice none 0 0, .slice none 0 0] 26)).alloc (.cells #[.slice none 0 0, .slice none 0 0] 26)).cell? ⟨w.heap.size + 1 + 1, 0, none⟩ = some (.slice none 0 0)) := by
    have h := (row_new ((w.alloc (.cells #[.slice ca cs.length cc, .slice da ds.length dc] 26)).alloc (.cells #[.slice none 0 0, .slice none 0 0] 26)) #[.slice none 0 0, .slice none 0 0] 26).cell (i := 0) (by decide)
    rw [World.size_alloc, World.size_alloc] at h
    exact h
  have HO1 : Hid ((((w.alloc (.cells #[.slice ca cs.length cc, .slice da ds.length dc] 26)).alloc (.cells #[.slice none 0 0, .slice none 0 0] 26)).alloc (.cells #[.slice none 0 0, .slice none 0 0] 26)).cell? ⟨w.heap.size + 1 + 1, 1, none⟩ = some (.slice none 0 0)) := by
    have h := (row_new ((w.alloc (.cells #[.slice ca cs.length cc, .slice da ds.length dc] 26)).alloc (.cells #[.slice none 0 0, .slice none 0 0] 26)) #[.slice none 0 0, .slice none 0 0] 26).cell (i := 1) (by decide)
    rw [World.size_alloc, World.size_alloc] at h
    exact h
  have HZ : Hid ((((w.alloc (.cells #[.slice ca cs.length cc, .slice da ds.length dc] 26)).alloc (.cells #[.slice none 0 0, .slice none 0 0] 26)).alloc (.cells #[.slice none 0 0, .slice none 0 0] 26)).heap.size = w.heap.size + 1 + 1 + 1) := by show _ = _; rw [World.size_alloc, World.size_alloc, World.size_alloc]
  clear hm h
  go_enter Tryz.func77, Tryz.ntmps77
  go_wp2_with fail
  generalize hW : ((w.alloc (.cells #[.slice ca cs.length cc, .slice da ds.length dc] 26)).alloc (.cells #[.slice none 0 0, .slice none 0 0] 26)).alloc (.cells #[.slice none 0 0, .slice none 0 0] 26) = W at *
  clear hW
  go_loopw [12] (fun y wr => ∃ (k : Nat) (nb : List Bs) (x : Value), k ≤ cs.length ∧ nb.length = k ∧ y = .int .i64 (k : Int) ∧ Hid (wr.cell? ⟨w.heap.size + 1 + 1, 0, none⟩ = some x) ∧ Hid (wr.cell? ⟨w.heap.size + 1 + 1, 1, none⟩ = some (.slice none 0 0)) ∧ Hid (wr.cell? ⟨w.heap.size, 1, none⟩ = some (.slice da ds.length dc)) ∧ Hid (Room wr (w.heap.size + 1) 2) ∧ Hid (Room wr (w.heap.size + 1 + 1) 2) ∧ w.heap.size + 1 + 1 < wr.heap.size ∧ Hid (nb.map Bs.L = (cs.take k).map Bs.L) ∧ Hid (∀ b ∈ nb, b.fit) ∧ Hid (LG 93 1 Bs.cells Bs.seg w wr x nb) ∧ Hid (Past (w.heap.size + 1 + 1) x (nb.map Bs.seg))) (fun y _ => cs.length - (intOf y).toNat)
  case atStart => exact ⟨0, [], .slice none 0 0, by omega, rfl, rfl, HO0, HO1, HC0, HRR, HRO, by have := HZ.out; omega, rfl, fun b hb => absurd hb (by simp), LG.nil _ _ _ _ (World.ownsRow_nil _ _ _ _) HKA.out, ⟨fun g hg => by simp [Value.ownBlock] at hg, fun b hb => by simp [fp] at hb⟩⟩
  case round =>
    clear HO0 HO1 HC0 HRR HRO
    obtain ⟨k, nb, x, hk, rfl, rfl, HX0, HX1, HXD, HRr, HRo, hz, HE, HNb, HG, HP⟩ := hrel
    by_cases hlt : nb.length < cs.length
    · have HK := hide HG.out.keeps
      obtain ⟨b, off, ea, c0⟩ := cell1 ((dsk_mem HM.out).1.kept HK.out) nb.length hlt
      subst ea
      have HMk : Hid (Cells wr cs[nb.length].a (bys cs[nb.length].L)) := (mem_seg (dsk_mem HM.out).2.1 nb.length hlt).kept HK.out
      have HTk : Hid (cs[nb.length].L.length ≤ 4194304) := Nat.le_trans (tot_le (List.getElem_mem hlt)) (Nat.le_trans HDO.out.tc (by decide))
      have HNk := hide (HDO.out.nc _ (List.getElem_mem hlt)).1
      have HDk : Hid ((cs.take (nb.length + 1)).map Bs.L = (cs.take nb.length).map Bs.L ++ [cs[nb.length].L]) := by show _ = _; rw [List.take_succ_eq_append_getElem hlt, List.map_append]; rfl
      generalize cs[nb.length] = c at *
      obtain ⟨xa, xc, xL⟩ := c
      dsimp only [Bs.v] at c0 HMk HTk HNk HDk
      have HKa := hide (Keeps.alloc (Keeps.refl wr) (.cells #[.slice xa xL.length xc] 93))
      have HcB : Hid ((wr.alloc (.cells #[.slice xa xL.length xc] 93)).cell? ⟨wr.heap.size, 0, none⟩ = some (.slice xa xL.length xc)) := by show _ = _; simp
      have HVz : Hid ((wr.alloc (.cells #[.slice xa xL.length xc] 93)).heap.size = wr.heap.size + 1) := by show _ = _; rw [World.size_alloc]
      obtain ⟨ax, cx, rfl, _⟩ := HG.out.cells
      go_wp2_with fail
      generalize hV : wr.alloc (.cells #[.slice xa xL.length xc] 93) = V at *
      clear hV
      have hkd : Keeps V V.drew := (Keeps.refl V).drew
      obtain ⟨a1, c1, w1, hr1, hn1, hb1, hk1⟩ := run_bys V.drew xa xc xL 22 ((HMk.out.kept HKa.out).kept hkd) HNk.out HTk.out
      have HK1 := hide (HKa.out.trans (hkd.trans hk1))
      have hb1' : Born wr w1 [(a1, bys xL)] := hb1.old (HKa.out.trans hkd)
      obtain ⟨v2, w2, hr2, ho2, hg2, hv2⟩ := run_cell w1 w.heap.size (.slice ax nb.length cx) nb.length (ccells nb) (.slice a1 xL.length c1) rfl 23 (owns_kept HK1.out HG.out.row) (by omega) (HK.out.trans HK1.out).size
      have HS2 := hide (HG.out.snoc HK1.out (x := Bs.mk a1 c1 xL) hb1'.toOwn hb1'.new hg2 ho2 hv2)
      have hz1 : wr.heap.size < w1.heap.size := by have := HKa.out.size; have := HVz.out; have := (hkd.trans hk1).size; omega
      have HP2 := hide (HP.out.snoc (x := Bs.mk a1 c1 xL) (v' := v2) (n := wr.heap.size) (m := (w1.alloc (.cells #[.slice a1 xL.length c1] 93)).heap.size) hb1'.new (by omega) (by simp; omega) hv2)
      obtain ⟨a2, c2, rfl, _⟩ := HS2.out.cells
      have hlen : (nb ++ [Bs.mk a1 c1 xL]).length = nb.length + 1 := by simp
      rw [hlen] at hr2 HS2 HP2
      have HTu : Hid (Turn (Value.ownBlock (.slice ax nb.length cx)).toList wr w2) := by
        refine ((Turn.of_keeps (HK1.out.trans (Keeps.alloc (Keeps.refl w1) (.cells #[.slice a1 xL.length c1] 93))) _).trans' (Turn.of_grown hg2 (fun k hk' => by rw [hk']; simp)))
      have HNo : Hid (∀ b, b ≤ w.heap.size + 1 + 1 → b ∉ (Value.ownBlock (.slice ax nb.length cx)).toList) := fun b hb hx => by
        have h1 : Value.ownBlock (.slice ax nb.length cx) = some b := by simpa using hx
        have := HP.out.1 b h1
        omega
      have HRo2 : Hid (Room w2 (w.heap.size + 1 + 1) 2) := room_turn HRo.out HTu.out (HNo.out _ (Nat.le_refl _)) hz
      have HRr2 : Hid (Room w2 (w.heap.size + 1) 2) := room_turn HRr.out HTu.out (HNo.out _ (by omega)) (by omega)
      have HX1' := hide (HTu.out.cell (p := ⟨w.heap.size + 1 + 1, 1, none⟩) (HNo.out _ (Nat.le_refl _)) HX1.out)
      have HXD' := hide (HTu.out.cell (p := ⟨w.heap.size, 1, none⟩) (HNo.out _ (by show w.heap.size ≤ _; omega)) HXD.out)
      have HR1 := hide hr1
      have HN1 := hide hn1
      have HR2 := hide hr2
      have s0 := HKa.out.cell HX0.out
      have s1 := HcB.out
      have s2 := HK1.out.cell HX0.out
      have s3 := (hkd.trans hk1).cell HcB.out
      have l0 : w.heap.size + 1 + 1 < V.heap.size := by have := HVz.out; omega
      have l1 : wr.heap.size < V.heap.size := by have := HVz.out; omega
      have l2 : w.heap.size + 1 + 1 < w1.heap.size := by omega
      have s4 := HTu.out.cell (p := ⟨w.heap.size + 1 + 1, 0, none⟩) (HNo.out _ (Nat.le_refl _)) HX0.out
      have s5 := HRo2.out.free 0
      have s6 : w2.cell? ⟨wr.heap.size, 0, none⟩ = some (.slice xa xL.length xc) := by
        refine (Turn.of_grown hg2 (fs := (Value.ownBlock (.slice ax nb.length cx)).toList) (fun k hk' => by rw [hk']; simp)).cell (p := ⟨wr.heap.size, 0, none⟩) (fun hx => ?_) ((Keeps.alloc (Keeps.refl w1) (.cells #[.slice a1 xL.length c1] 93)).cell s3)
        have h1 : Value.ownBlock (.slice ax nb.length cx) = some wr.heap.size := by simpa using hx
        have := (HG.out.row.lt _ h1).2
        omega
      have l3 : w.heap.size + 1 + 1 < w2.heap.size := lt_of_cell s4
      clear hr1 hr2 hn1 hb1 hk1 hb1' ho2 hg2 hv2 hkd
      go_region_law (first
          | (refine step_append_run (by rfl) (.tmp 18) (.tmp 20) _ _ (by rfl) _ _ (by rfl) (by rfl) (.slice a1 xL.length c1) w1 HR1.out ?_)
          | (refine step_append_run (by rfl) (.tmp 17) (.tmp 23) _ _ (by rfl) _ _ (by rfl) (by rfl) _ w2 HR2.out ?_))
      all_goals
        go_wp2_with fail
        go_roundw
        case rel =>
          refine ⟨nb.length + 1, nb ++ [Bs.mk a1 c1 xL], .slice a2 (nb.length + 1) c2, by omega, by simp, by go_num, World.cell?_setCell_same _ _ _ s4, ?_, ?_, ?_, HRo2.out.set _ _, ?_, ?_, ?_, HS2.out.set HP2.out (by omega), HP2⟩
          · show _ = _
            rw [World.cell?_setCell_other _ _ _ _ (by simp)]; exact HX1'.out
          · show _ = _
            rw [World.cell?_setCell_other _ _ _ _ (by simp)]; exact HXD'.out
          · exact room_turn HRr2.out (Turn.set (fs := [w.heap.size + 1 + 1]) (by simp) _) (by simp) (by omega)
          · simp [World.setCell]; omega
          · show _ = _
            rw [HDk.out, ← HE.out]; simp
          · intro b hb
            rcases List.mem_append.1 hb with hb | hb
            · exact HNb.out b hb
            · rw [List.mem_singleton.1 hb]; exact HN1.out
        case measure => simp [intOf]; omega
    · have e : nb.length = cs.length := by omega
      have HEc : Hid (nb.map Bs.L = cs.map Bs.L) := by show _ = _; rw [HE.out, e, List.take_length]
      have d1 := HXD.out
      have HGc := HG
      have HPc := HP
      have HNc := HNb
      have HXc := HX0
      have HKr := hide HG.out.keeps
      have HO2 : Hid (∃ O2, O2 + 1 = wr.heap.size) := ⟨wr.heap.size - 1, by omega⟩
      obtain ⟨O2, hO2⟩ := HO2.out
      have HOO := hide hO2
      have HZ2 := hide hz
      have HXs := HX1
      have HRrs := HRr
      have HRos := HRo
      clear e HE hO2
      go_wp2_with fail
      go_loopw [30] (fun y wq => ∃ (k : Nat) (nw : List Wr) (x2 : Value), k ≤ ds.length ∧ nw.length = k ∧ y = .int .i64 (k : Int) ∧ Hid (wq.cell? ⟨w.heap.size + 1 + 1, 0, none⟩ = some x) ∧ Hid (wq.cell? ⟨w.heap.size + 1 + 1, 1, none⟩ = some x2) ∧ Hid (Room wq (w.heap.size + 1) 2) ∧ Hid (Room wq (w.heap.size + 1 + 1) 2) ∧ O2 < wq.heap.size ∧ Hid (nw.map Wr.key = (ds.take k).map Wr.key) ∧ Hid (∀ x ∈ nw, x.b.fit) ∧ Hid (LG 93 1 Bs.cells Bs.seg w wq x nb) ∧ Hid (LG 86 2 Wr.cells Wr.seg w wq x2 nw) ∧ Hid (Past O2 x2 (nw.map Wr.seg))) (fun y _ => ds.length - (intOf y).toNat)
      case atStart => exact ⟨0, [], .slice none 0 0, by omega, rfl, rfl, HXc, HXs, HRrs, HRos, by have := HOO.out; omega, rfl, fun b hb => absurd hb (by simp), HGc, LG.nil _ _ _ _ (World.ownsRow_nil _ _ _ _) HKr.out, ⟨fun g hg => by simp [Value.ownBlock] at hg, fun b hb => by simp [fp] at hb⟩⟩
      case round =>
        have HOr : Hid (w.heap.size + 1 + 1 ≤ O2) := by show _ ≤ _; have := HOO.out; have := HZ2.out; omega
        have HCb : Hid ((∀ g, x.ownBlock = some g → g ≤ O2) ∧ (∀ b ∈ fp (nb.map Bs.seg), b ≤ O2)) := ⟨fun g hg => by have := (HGc.out.row.lt g hg).2; have := HOO.out; omega, fun b hb => by have := HGc.out.inner.mem.lt b hb; have := HOO.out; omega⟩
        clear HX0 HX1 HXD HRr HRo hz HNb HG HP HXc HXs HRrs HRos HGc HKr HO2 HOO HZ2 d1 hk
        obtain ⟨k, nw, x2, hk, rfl, rfl, HX0, HX1, HRr, HRo, hz, HE, HNb, HG1, HG, HP⟩ := hrel
        have hOr := HOr.out
        by_cases hlt : nw.length < ds.length
        · have HK := hide HG.out.keeps
          obtain ⟨b, off, ea, c0, c1'⟩ := cell2 ((dsk_mem HM.out).2.2.1.kept HK.out) nw.length hlt
          subst ea
          have HMk : Hid (Cells wr ds[nw.length].b.a (bys ds[nw.length].b.L)) := (mem_segW (dsk_mem HM.out).2.2.2 nw.length hlt).kept HK.out
          have HTk : Hid (ds[nw.length].b.L.length ≤ 4194304) := Nat.le_trans (totW_le (List.getElem_mem hlt)) (Nat.le_trans HDO.out.td (by decide))
          have HNk := hide (HDO.out.nd _ (List.getElem_mem hlt)).1
          have HDk : Hid ((ds.take (nw.length + 1)).map Wr.key = (ds.take nw.length).map Wr.key ++ [ds[nw.length].key]) := by show _ = _; rw [List.take_succ_eq_append_getElem hlt, List.map_append]; rfl
          generalize ds[nw.length] = c at *
          obtain ⟨xi, xa, xc, xL⟩ := c
          dsimp only [Bs.v] at c0 c1' HMk HTk HNk HDk
          have HKa := hide (Keeps.alloc (Keeps.refl wr) (.cells #[.int .i64 xi, .slice xa xL.length xc] 86))
          have HcA : Hid ((wr.alloc (.cells #[.int .i64 xi, .slice xa xL.length xc] 86)).cell? ⟨wr.heap.size, 0, none⟩ = some (.int .i64 xi)) := by show _ = _; simp
          have HcB : Hid ((wr.alloc (.cells #[.int .i64 xi, .slice xa xL.length xc] 86)).cell? ⟨wr.heap.size, 1, none⟩ = some (.slice xa xL.length xc)) := by show _ = _; simp
          have HVz : Hid ((wr.alloc (.cells #[.int .i64 xi, .slice xa xL.length xc] 86)).heap.size = wr.heap.size + 1) := by show _ = _; rw [World.size_alloc]
          obtain ⟨ax, cx, rfl, _⟩ := HG.out.writes
          go_wp2_with fail
          generalize hV : wr.alloc (.cells #[.int .i64 xi, .slice xa xL.length xc] 86) = V at *
          clear hV
          have hkd : Keeps V V.drew := (Keeps.refl V).drew
          obtain ⟨a1, c1, w1, hr1, hn1, hb1, hk1⟩ := run_bys V.drew xa xc xL 22 ((HMk.out.kept HKa.out).kept hkd) HNk.out HTk.out
          have HK1 := hide (HKa.out.trans (hkd.trans hk1))
          have hb1' : Born wr w1 [(a1, bys xL)] := hb1.old (HKa.out.trans hkd)
          obtain ⟨v2, w2, hr2, ho2, hg2, hv2⟩ := run_write w1 w.heap.size (.slice ax nw.length cx) nw.length (wcells nw) (.int .i64 xi) (.slice a1 xL.length c1) rfl rfl 24 (owns_kept HK1.out HG.out.row) (by omega) (HK.out.trans HK1.out).size
          have HS2 := hide (HG.out.snoc HK1.out (x := Wr.mk xi (Bs.mk a1 c1 xL)) hb1'.toOwn hb1'.new hg2 ho2 hv2)
          have hz1 : wr.heap.size < w1.heap.size := by have := HKa.out.size; have := HVz.out; have := (hkd.trans hk1).size; omega
          have HP2 := hide (HP.out.snoc (x := Wr.mk xi (Bs.mk a1 c1 xL)) (v' := v2) (n := wr.heap.size) (m := (w1.alloc (.cells #[.int .i64 xi, .slice a1 xL.length c1] 86)).heap.size) hb1'.new (by omega) (by simp; omega) hv2)
          obtain ⟨a2, c2, rfl, _⟩ := HS2.out.writes
          have hlen : (nw ++ [Wr.mk xi (Bs.mk a1 c1 xL)]).length = nw.length + 1 := by simp
          rw [hlen] at hr2 HS2 HP2
          have HTu : Hid (Turn (Value.ownBlock (.slice ax nw.length cx)).toList wr w2) := by
            refine ((Turn.of_keeps (HK1.out.trans (Keeps.alloc (Keeps.refl w1) (.cells #[.int .i64 xi, .slice a1 xL.length c1] 86))) _).trans' (Turn.of_grown hg2 (fun k hk' => by rw [hk']; simp)))
          have HNo : Hid (∀ b, b ≤ O2 → b ∉ (Value.ownBlock (.slice ax nw.length cx)).toList) := fun b hb hx => by
            have h1 : Value.ownBlock (.slice ax nw.length cx) = some b := by simpa using hx
            have := HP.out.1 b h1
            omega
          have HRo2 : Hid (Room w2 (w.heap.size + 1 + 1) 2) := room_turn HRo.out HTu.out (HNo.out _ hOr) (by omega)
          have HRr2 : Hid (Room w2 (w.heap.size + 1) 2) := room_turn HRr.out HTu.out (HNo.out _ (by omega)) (by omega)
          have HX0' := hide (HTu.out.cell (p := ⟨w.heap.size + 1 + 1, 0, none⟩) (HNo.out _ hOr) HX0.out)
          have HG1' : Hid (LG 93 1 Bs.cells Bs.seg w w2 x nb) := HG1.out.turned HTu.out (fun g hg => HNo.out g (HCb.out.1 g hg)) (fun b hb => HNo.out b (HCb.out.2 b hb)) (fun b hb => by
            have h1 : Value.ownBlock (.slice ax nw.length cx) = some b := by simpa using hb
            have := HP.out.1 b h1
            omega)
          have HPO : Hid (Past (w.heap.size + 1 + 1) (.slice a2 (nw.length + 1) c2) ((nw ++ [Wr.mk xi (Bs.mk a1 c1 xL)]).map Wr.seg)) := ⟨fun g hg => by have := HP2.out.1 g hg; omega, fun b hb => by have := HP2.out.2 b hb; omega⟩
          have HR1 := hide hr1
          have HN1 := hide hn1
          have HR2 := hide hr2
          have s0 := HKa.out.cell HX1.out
          have s1 := HcA.out
          have s1b := HcB.out
          have s2 := HK1.out.cell HX1.out
          have s3 := (hkd.trans hk1).cell HcA.out
          have s3b := (hkd.trans hk1).cell HcB.out
          have l0 : w.heap.size + 1 + 1 < V.heap.size := by have := HVz.out; omega
          have l1 : wr.heap.size < V.heap.size := by have := HVz.out; omega
          have l2 : w.heap.size + 1 + 1 < w1.heap.size := by omega
          have s4 := HTu.out.cell (p := ⟨w.heap.size + 1 + 1, 1, none⟩) (HNo.out _ hOr) HX1.out
          have s5 := HRo2.out.free 1
          have l4 := HTu.out.size
          have l3 : w.heap.size + 1 + 1 < w2.heap.size := lt_of_cell s4
          clear hr1 hr2 hn1 hb1 hk1 hb1' ho2 hg2 hv2 hkd
          go_region_law (first
            | (refine step_append_run (by rfl) (.tmp 38) (.tmp 40) _ _ (by rfl) _ _ (by rfl) (by rfl) (.slice a1 xL.length c1) w1 HR1.out ?_)
            | (refine step_append_run (by rfl) (.tmp 35) (.tmp 43) _ _ (by rfl) _ _ (by rfl) (by rfl) _ w2 HR2.out ?_))
          all_goals
            go_wp2_with fail
            go_roundw
            case rel =>
              refine ⟨nw.length + 1, nw ++ [Wr.mk xi (Bs.mk a1 c1 xL)], .slice a2 (nw.length + 1) c2, by omega, by simp, by go_num, ?_, World.cell?_setCell_same _ _ _ s4, ?_, HRo2.out.set _ _, ?_, ?_, ?_, HG1'.out.set' (by omega) (fun g hg => by have := HPc.out.1 g hg; omega) (fun b hb => by have := HPc.out.2 b hb; omega), HS2.out.set HPO.out (by omega), HP2⟩
              · show _ = _
                rw [World.cell?_setCell_other _ _ _ _ (by simp)]; exact HX0'.out
              · exact room_turn HRr2.out (Turn.set (fs := [w.heap.size + 1 + 1]) (by simp) _) (by simp) (by omega)
              · simp [World.setCell]; omega
              · show _ = _
                rw [HDk.out, ← HE.out]; simp [Wr.key]
              · intro b hb
                rcases List.mem_append.1 hb with hb | hb
                · exact HNb.out b hb
                · rw [List.mem_singleton.1 hb]; exact HN1.out
            case measure => simp [intOf]; omega
        · have e : nw.length = ds.length := by omega
          have HEd : Hid (nw.map Wr.key = ds.map Wr.key) := by show _ = _; rw [HE.out, e, List.take_length]
          obtain ⟨ax1, cx1, rfl, _⟩ := HG1.out.cells
          obtain ⟨ax, cx, rfl, _⟩ := HG.out.writes
          have s0 := HX0.out
          have s1 := HX1.out
          obtain ⟨y0, r0⟩ := HRr.out.cell 0 (by decide)
          obtain ⟨y1, r1⟩ := HRr.out.cell 1 (by decide)
          have f0 := HRr.out.free 0
          have f1 := HRr.out.free 1
          clear e
          go_wp2_with fail
          have e1 : ((wr.setCell ⟨w.heap.size + 1, 0, none⟩ (.slice ax1 nb.length cx1)).setCell ⟨w.heap.size + 1, 1, none⟩ (.slice ax nw.length cx)).cell? ⟨w.heap.size + 1, 1, none⟩ = some (.slice ax nw.length cx) :=
            World.cell?_setCell_same _ _ _ (by rw [World.cell?_setCell_other _ _ _ _ (by simp)]; exact r1)
          have e0 : ((wr.setCell ⟨w.heap.size + 1, 0, none⟩ (.slice ax1 nb.length cx1)).setCell ⟨w.heap.size + 1, 1, none⟩ (.slice ax nw.length cx)).cell? ⟨w.heap.size + 1, 0, none⟩ = some (.slice ax1 nb.length cx1) := by
            rw [World.cell?_setCell_other _ _ _ _ (by simp)]; exact World.cell?_setCell_same _ _ _ r0
          have HS : Hid (Turn [w.heap.size + 1] wr ((wr.setCell ⟨w.heap.size + 1, 0, none⟩ (.slice ax1 nb.length cx1)).setCell ⟨w.heap.size + 1, 1, none⟩ (.slice ax nw.length cx))) := (Turn.set (by simp) _).trans' (Turn.set (by simp) _)
          clear r0 r1 f0 f1 s0 s1
          revert e0 e1 HS
          generalize World.setCell _ _ _ = W'
          intro e0 e1 HS
          have hR : ∀ b ∈ [w.heap.size + 1], w.heap.size ≤ b := fun b hb => by simp at hb; omega
          refine bodyPost_ret (v := .agg #[.slice ax1 nb.length cx1, .slice ax nw.length cx]) ?_ rfl ⟨_, _, rfl, ⟨nb, nw, O2, HEc.out, HEd.out, HNc.out, HNb.out, ?_, ?_, HP.out, HCb.out.1, HCb.out.2⟩, HS.out.keeps HG.out.keeps hR⟩
          · simp [results, Tryz.results77, go_sem, e0, e1]
          · exact HG1.out.turned HS.out (fun g hg hx => by have := HPc.out.1 g hg; simp at hx; omega) (fun b hb hx => by have := HPc.out.2 b hb; simp at hx; omega) hR
          · exact HG.out.turned HS.out (fun g hg hx => by have := HP.out.1 g hg; simp at hx; omega) (fun b hb hx => by have := HP.out.2 b hb; simp at hx; omega) hR
end Go.Proofs.YtkdnddckogbgaaaGreatDoor
