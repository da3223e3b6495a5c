/- Texts of the verifier, joined: DCi, Int0, CpW, DWr, DCs. -/
import Derived.Test.YtkdnddckogbgaaaGreatDoorFO3
import Derived.Test.YtkdnddckogbgaaaGreatDoorFO1
import Derived.Deep.DrawnRows
namespace Go.Proofs.YtkdnddckogbgaaaGreatDoor
open Go.RowKit Go.Deep
set_option linter.unusedVariables false
set_option maxRecDepth 10000

set_option maxHeartbeats 1000000 in
theorem filled_row (a : Option Addr) (cap : Nat) (L : List UInt8) (w : World) (hc : Cells w a (bys L)) (hl : L.length ≤ 4194304) :
    Calls Tryz.prog 85 #[.slice a L.length cap] w fun e w' => e = .returned (.slice (some ⟨w.heap.size, 0, none⟩) 128 128) ∧ w'.heap[w.heap.size]? = some (.cells (bys (fillL L)).toArray 5 (0, 0)) ∧ Keeps w w' := by
  have hmk := make_128
  have HKA := hide (Keeps.alloc (Keeps.refl w) (.cells (madeCells #[.int .u8 0] 128) 5))
  have HC := hide (hc.kept HKA.out)
  have HB : Hid ((w.alloc (.cells (madeCells #[.int .u8 0] 128) 5)).heap[w.heap.size]? = some (.cells (bys (List.replicate 128 0)).toArray 5 (0, 0))) := by
    show _ = _
    rw [← made_zeros]; exact blk_alloc_new w _
  have HL : Hid ((bys (L.take 128)).length = Nat.min L.length 128) := by show _ = _; rw [bys_length, List.length_take, Nat.min_comm]
  have HP : Hid (0 < (bys (L.take 128)).length → some (⟨w.heap.size, 0, none⟩ : Addr) = some ⟨w.heap.size, 0, none⟩ ∧ ∃ ad, a = some ad ∧ ∀ j v, (bys (L.take 128))[j]? = some v → (w.alloc (.cells (madeCells #[.int .u8 0] 128) 5)).cell? (ad.add j) = some v) := by
    intro hp
    refine ⟨rfl, ?_⟩
    have hc' := HC.out
    rcases hc' with h | ⟨b, off, e, h⟩
    · rw [bys_nil] at h; subst h; simp [bys] at hp
    · refine ⟨_, e, fun j v hj => src_at (HC.out.elim (fun h => by rw [bys_nil] at h; subst h; simp [bys] at hp) (fun _ => by rw [← e]; exact HC.out)) j v ?_⟩
      rw [bys_take] at hj
      rw [List.getElem?_take] at hj
      split at hj
      · exact hj
      · cases hj
  have HF : Hid (0 + (bys (L.take 128)).length ≤ (bys (List.replicate 128 (0 : UInt8))).length) := by show _ ≤ _; rw [HL.out, bys_length, List.length_replicate, Nat.zero_add]; exact Nat.min_le_right _ _
  clear hc hl
  go_enter Tryz.func85, Tryz.ntmps85
  go_wp2_with (refine wpList_copy_splice (by rfl) (.tmp 5) (.tmp 6) 22 22 (by rfl) 5 underBytes size_byte (some ⟨w.heap.size, 0, none⟩) a 128 128 L.length cap (by rfl) (by rfl) w.heap.size 0 (bys (List.replicate 128 0)) 5 HB.out (bys (L.take 128)) HL.out HP.out HF.out (fun v hv => one_cells hv) w.heap.size w HKA.out (Nat.le_refl _) ?_; intro w1 hg hb)
  go_ret
  have hg' := hg.out
  rw [splice_fill] at hg'
  exact ⟨rfl, hg', hb⟩

theorem splice_take (cur new : List UInt8) (n : Nat) (hn : n ≤ new.length) : splice (bys cur) 0 (bys (new.take n)) = bys (new.take n ++ cur.drop n) := by
  rw [splice_zero, bys_append, bys_length, List.length_take, Nat.min_eq_left hn]
  simp [bys]
theorem landM_zero (C : List (List UInt8)) (x : Int × List UInt8) : landM C x 0 = C := rfl
/-- The list of cells as the walk has it. -/
theorem LG.slice {w0 w : World} {v : Value} {nb : List Bs} (h : LG 93 1 Bs.cells Bs.seg w0 w v nb) {p : Nat} (hp : p < nb.length) :
    ∃ (g cap : Nat), v = .slice (some ⟨g, 0, none⟩) nb.length cap ∧ v.ownBlock = some g ∧ w.cell? ⟨g, p, none⟩ = some nb[p].v ∧ (∀ o, w.frozen? ⟨g, o, none⟩ = false) ∧ w0.heap.size ≤ g ∧ g < w.heap.size := by
  rcases h.row.2 with ⟨_, h0⟩ | ⟨g, cap, cur, rfl, hb, hg, hn, hm, hs, ht⟩
  · omega
  · obtain ⟨a, c, e, _, hbo⟩ := h.cells
    injection e with e1 e2 e3
    subst e1
    have hc : Cells w (some ⟨g, 0, none⟩) (ccells nb) := hbo.mem _ (List.mem_cons_self ..)
    obtain ⟨b, off, e, c0⟩ := cell1 hc p hp
    have e' := Option.some.inj e
    injection e' with e4 e5
    subst e4 e5
    rw [Nat.zero_add] at c0
    refine ⟨g, cap, rfl, by simp [Value.ownBlock], c0, fun o => by simp [World.frozen?, hg], hb, lt_of_cell c0⟩
set_option maxHeartbeats 4000000 in
theorem land_k (w0 w : World) (v : Value) (nb : List Bs) (HG : LG 93 1 Bs.cells Bs.seg w0 w v nb) (p : Nat) (hp : p < nb.length) (xb xo : Nat) (xc : Nat) (xL : List UInt8) (hx : Cells w (some ⟨xb, xo, none⟩) (bys xL)) (hxl : xL.length = 128) (hxc : 128 ≤ xc) (n : Nat) (hn : n ≤ 128) (hL : nb[p].L.length = 0 ∨ nb[p].L.length = 128) (hcl : nb.length ≤ 1048576) (hfit : ∀ b ∈ nb, b.fit) :
    Calls Tryz.prog 47 #[v, .agg #[.int .i64 (p : Int), .slice (some ⟨xb, xo, none⟩) 128 xc], .int .i64 (n : Int)] w fun e w' => e = .returned (.tuple #[]) ∧ ∃ nb', nb'.map Bs.L = landM (nb.map Bs.L) ((p : Int), xL) n ∧ (∀ b ∈ nb', b.fit) ∧ LG 93 1 Bs.cells Bs.seg w0 w' v nb' ∧ (∀ gb, v.ownBlock = some gb → Turn [gb] w w') := by
  have hka := Keeps.alloc (Keeps.refl w) (.cells #[.int .i64 (p : Int), .slice (some ⟨xb, xo, none⟩) 128 xc] 86)
  have HLG := hide (HG.kept hka)
  have HF := hide hfit
  have HKA := hide hka
  by_cases h0 : n = 0
  · subst h0
    clear HG hx hxl hxc hL hfit hka
    go_enter Tryz.func47, Tryz.ntmps47
    go_wp2_with fail
    refine bodyPost_ret (v := .tuple #[]) (by simp [results, Tryz.results47]) rfl ⟨rfl, nb, by rw [landM_zero], HF.out, HLG.out, fun gb _ => Turn.of_keeps HKA.out _⟩
  · have hne : ((n : Int) == 0) = false := by rw [beq_eq_false_iff_ne]; omega
    obtain ⟨g, cap, hv, hgb, c0, f0, hg0, hg1⟩ := HG.slice hp
    have hsz : (w.alloc (.cells #[.int .i64 (p : Int), .slice (some ⟨xb, xo, none⟩) 128 xc] 86)).heap.size = w.heap.size + 1 := by rw [World.size_alloc]
    have HI : Hid (Cells (w.alloc (.cells #[.int .i64 (p : Int), .slice (some ⟨xb, xo, none⟩) 128 xc] 86)) nb[p].a (bys nb[p].L)) := (HG.inner.mem nb[p].seg (List.mem_map.2 ⟨nb[p], List.getElem_mem hp, rfl⟩)).kept hka
    have HFL := hide (filled_row nb[p].a nb[p].cap nb[p].L _ HI.out (by omega))
    have HX := hide (hx.kept hka)
    have HQ : Hid (Keeps w (w.alloc (.cells #[.int .i64 (p : Int), .slice (some ⟨xb, xo, none⟩) 128 xc] 86))) := hka
    have HLB := hide hL
    have HXL := hide hxl
    have HGB := hide hgb
    have HSZ := hide hsz
    have cA := hka.cell c0
    have fA : (w.alloc (.cells #[.int .i64 (p : Int), .slice (some ⟨xb, xo, none⟩) 128 xc] 86)).frozen? ⟨g, p, none⟩ = false := by rw [hka.oldF _ _ hg1]; exact f0 p
    have hn1 : (n : Int) ≤ 128 := by omega
    have hn2 : (0 : Int) ≤ (n : Int) := by omega
    have hn3 : (n : Int) ≤ (xc : Int) := by omega
    have hpI : (p : Int) < (nb.length : Int) := by omega
    have e1 : nb[p].v = .slice nb[p].a nb[p].L.length nb[p].cap := rfl
    rw [e1] at cA
    subst hv
    clear HG hx hxl hxc hL hfit hka hgb hsz c0 f0 e1 h0
    go_enter Tryz.func47, Tryz.ntmps47
    go_wp2_with fail
    refine (unhide HFL).mono ?_
    rintro e w2 ⟨rfl, hblk, hk2⟩
    rw [fill_full HLB.out] at hblk
    have HB2 := hide hblk
    have HK2 := hide hk2
    have d1 := hk2.cell (p := ⟨w.heap.size, 1, none⟩) (v := .slice (some ⟨xb, xo, none⟩) 128 xc) (by simp)
    have HFB : Hid ((bys (fullL nb[p].L)).length = 128) := by
      show _ = _
      rw [bys_length]
      unfold fullL
      split
      · simp
      · rename_i hne
        rcases HLB.out with h | h
        · exact absurd (List.length_eq_zero_iff.1 h) hne
        · exact h
    rw [HSZ.out] at hblk
    obtain ⟨w3, hcp, hg3, hb3⟩ : ∃ w3, (Builtin.copy_ #[22, 22] 3 #[.slice (some ⟨w.heap.size + 1, 0, none⟩) 128 128, .slice (some ⟨xb, xo, none⟩) n xc]).run Tryz.prog w2 = .ok (goInt (bys (xL.take n)).length) w3 ∧ w3.heap[w.heap.size + 1]? = some (.cells (bys (xL.take n ++ (fullL nb[p].L).drop n)).toArray 5 (0, 0)) ∧ Keeps (w.alloc (.cells #[.int .i64 (p : Int), .slice (some ⟨xb, xo, none⟩) 128 xc] 86)) w3 := by
      have hcs : (bys (xL.take n)).length = Nat.min n 128 := by rw [bys_length, List.length_take, HXL.out]
      have hfb : 0 + (bys (xL.take n)).length ≤ (bys (fullL nb[p].L)).toArray.size := by
        have := HFB.out
        rw [hcs, List.size_toArray, this, Nat.zero_add]; exact Nat.min_le_right _ _
      refine ⟨_, run_copy_row (P := Tryz.prog) w2 22 22 3 5 (w.heap.size + 1) 0 128 128 ⟨xb, xo, none⟩ n xc (bys (fullL nb[p].L)).toArray 5 (bys (xL.take n)) underBytes size_byte hblk hcs (fun j v hj => src_at (HX.out.kept HK2.out) j v ?_) hfb (fun v hv => one_cells hv), ?_, ?_⟩
      · rw [bys_take, List.getElem?_take] at hj
        split at hj
        · exact hj
        · cases hj
      · rw [setRow_heap w2 (w.heap.size + 1) _ _ 5 _ hblk]
        congr 2
        have e := splice_take (fullL nb[p].L) xL n (by rw [HXL.out]; omega)
        unfold splice at e
        simp only [Nat.zero_add, List.take_zero, List.nil_append] at e
        rw [← e]
        simp
      · have h := HK2.out
        unfold Keeps at h ⊢
        exact below_setRow h (by rw [HSZ.out]; exact Nat.le_refl _) _
    have HG3 := hide hg3
    have HK3 := hide hb3
    have hLG3 : LG 93 1 Bs.cells Bs.seg w0 w3 (.slice (some ⟨g, 0, none⟩) nb.length cap) nb := HLG.out.kept hb3
    have HL3 := hide hLG3
    have c3 := hb3.cell cA
    have f3 : w3.frozen? ⟨g, p, none⟩ = false := by rw [hb3.oldF _ _ (by rw [HSZ.out]; omega)]; exact fA
    have d0 := hb3.cell (p := ⟨w.heap.size, 0, none⟩) (v := .int .i64 (p : Int)) (by simp)
    clear hblk hk2 hg3 hb3 hLG3 cA fA HFL
    go_wp2_with fail
    go_end0
    have hll : (landL nb[p].L xL n).length = 128 := landL_len HLB.out HXL.out hn
    have hx : Own w3 [(⟨some ⟨w.heap.size + 1, 0, none⟩, 128, landL nb[p].L xL n⟩ : Bs).seg] := by
      have ho := own_row (w := w3) (base := 0) (g := w.heap.size + 1) (n := 128) (L := landL nb[p].L xL n) (Nat.zero_le _) hll HG3.out
      obtain ⟨a', c', e, _, _, _, hown, _⟩ := Own.of_owns ho
      injection e with e1 e2 e3
      subst e1
      exact hown
    have hfp : ∀ b ∈ fp [(⟨some ⟨w.heap.size + 1, 0, none⟩, 128, landL nb[p].L xL n⟩ : Bs).seg], b = w.heap.size + 1 := fun b hb => by
      rw [show (⟨some ⟨w.heap.size + 1, 0, none⟩, 128, landL nb[p].L xL n⟩ : Bs).seg = (some ⟨w.heap.size + 1, 0, none⟩, bys (landL nb[p].L xL n)) from rfl, fp_one, fpS_some (fun e => by rw [bys_nil] at e; rw [e] at hll; simp at hll)] at hb
      simpa using hb
    have hin : ∀ b ∈ fp (nb.map Bs.seg), b < w.heap.size + 1 := fun b hb => by
      have := HLG.out.inner.mem.lt b hb
      rw [HSZ.out] at this
      exact this
    have hu := HL3.out.upd hp HGB.out hx (fun b hb => by
      have e := hfp b hb
      refine ⟨by omega, by omega, fun hm => ?_⟩
      have := hin b hm
      omega)
    refine ⟨rfl, nb.set p ⟨some ⟨w.heap.size + 1, 0, none⟩, 128, landL nb[p].L xL n⟩, ?_, ?_, ?_, ?_⟩
    · have hn0 : ¬ n = 0 := fun e => by rw [e] at hne; simp at hne
      unfold landM
      rw [if_neg hn0, List.map_set]
      simp only [Int.toNat_natCast]
      rw [List.getD_eq_getElem?_getD, List.getElem?_map, List.getElem?_eq_getElem hp]
      rfl
    · intro b hb
      rcases List.mem_or_eq_of_mem_set hb with hb | rfl
      · exact HF.out b hb
      · exact ⟨(fun e => by cases e), (by rw [hll]; exact Nat.le_refl _)⟩
    · rw [show (⟨some ⟨w.heap.size + 1, 0, none⟩, 128, landL nb[p].L xL n⟩ : Bs).v = .slice (some ⟨w.heap.size + 1, 0, none⟩) 128 128 from by unfold Bs.v; rw [hll]] at hu
      exact hu
    · intro gb hgb
      have e : gb = g := by rw [HGB.out] at hgb; exact (Option.some.inj hgb).symm
      subst e
      exact (Turn.of_keeps (HKA.out.trans HK3.out) [gb]).trans' (Turn.set (by simp) _)
end Go.Proofs.YtkdnddckogbgaaaGreatDoor
namespace Go.Proofs.YtkdnddckogbgaaaGreatDoor
open Go.RowKit Go.Deep
set_option linter.unusedVariables false
set_option maxRecDepth 10000

def its (K : List Int) : List Value := K.map fun k => .int .i64 k
theorem its_length (K : List Int) : (its K).length = K.length := by simp [its]
theorem its_at {w : World} {a : Option Addr} {K : List Int} (h : Cells w a (its K)) (i : Nat) (hi : i < K.length) : ∃ b off, a = some ⟨b, off, none⟩ ∧ w.cell? ⟨b, off + i, none⟩ = some (.int .i64 K[i]) := by
  rcases h with h | ⟨b, off, e, h⟩
  · have : K = [] := by simpa [its] using h
    subst this; simp at hi
  · refine ⟨b, off, e, ?_⟩
    rw [h i (by rw [its_length]; exact hi)]
    simp [its]
theorem its_append (K M : List Int) : its (K ++ M) = its K ++ its M := by simp [its]
theorem infoInt : (Tryz.prog.info? 3).map (fun i => (i.zero, i.size, i.bytes)) = some (some (.int .i64 0), 1, 8) := by kernel_rfl
theorem underInts : Tryz.prog.underlying 83 = some (.slice 3) := by kernel_rfl
abbrev OwnsI (w : World) (base : Nat) (v : Value) (L : List Int) : Prop := w.ownsRow base 3 1 v L.length (its L)
/-- append of a list of numbers to one of the call's own. -/
theorem app_its {ops : Array Oper} {rest : List Oper} {o : Oper} {a : Act} {Q : Exit → Act → World → Prop} {wr : World} (hgd : o.guard = none) (s x : Operand)
    (ho : o.op = .call { callee := .builtin .append, args := #[s, x], argTypes := #[83, 83] }) (base : Nat) (v : Value) (L M : List Int) (hs : a.eval s = v) (p : Addr) (c : Nat)
    (hx : a.eval x = .slice (some p) M.length c) (hM : ∀ j u, (its M)[j]? = some u → wr.cell? (p.add j) = some u) (hown : OwnsI wr base v L) (hl : L.length + M.length ≤ 1048576) (hbase : base ≤ wr.heap.size)
    (h : ∀ v' w', OwnsI w' base v' (L ++ M) → wr.grownBy w' v.ownBlock → (v ≠ .slice none 0 0 → v' ≠ .slice none 0 0) → wpList Tryz.prog ops Q rest (a.put o.dst v') w') :
    wpList Tryz.prog ops Q (o :: rest) a wr := by
  have hI := infoInt
  cases hi : Tryz.prog.info? 3 with
  | none => rw [hi] at hI; simp at hI
  | some i =>
    rw [hi] at hI
    simp at hI
    obtain ⟨hz, hsz, hby⟩ := hI
    refine wpList_append_own _ hgd s x 83 ho base 3 i _ 1 8 underInts hi hz hsz hby rfl (by decide) v L.length (its L) hs hown p M.length c (its M) hx (by simp [its_length]) hM (fun u hu => ?_) ?_ ?_ hbase ?_
    · unfold its at hu
      obtain ⟨k, _, rfl⟩ := List.mem_map.1 hu
      rfl
    · simp only [maxLen]; omega
    · omega
    · intro v' w' h1 h2 h3
      exact h v' w' (by unfold OwnsI; rw [its_append, List.length_append]; exact h1) h2 (fun hn he => hn (h3.1 he).1)
end Go.Proofs.YtkdnddckogbgaaaGreatDoor
namespace Go.Proofs.YtkdnddckogbgaaaGreatDoor
open Go.RowKit Go.Deep
set_option linter.unusedVariables false
set_option maxRecDepth 10000
attribute [local go_sem ↓] Go.wp_at_zero Go.wp_at_succ

set_option maxHeartbeats 2000000 in
theorem copyWrite_k (i : Int) (a : Option Addr) (cap : Nat) (L : List UInt8) (w : World) (hc : Cells w a (bys L)) (hn : a = none → cap = 0) (hl : L.length ≤ 4194304) :
    Calls Tryz.prog 106 #[.agg #[.int .i64 i, .slice a L.length cap]] w fun e w' => ∃ a1 c1, e = .returned (.agg #[.int .i64 i, .slice a1 L.length c1]) ∧ ((a1 = none → c1 = 0) ∧ L.length ≤ c1) ∧ Born w w' [(a1, bys L)] ∧ Keeps w w' := by
  have HKA := hide (Keeps.alloc (Keeps.alloc (Keeps.refl w) (.cells #[.int .i64 i, .slice a L.length cap] 86)) (.cells #[.int .i64 0, .slice none 0 0] 86))
  have HR := hide (row_new (w.alloc (.cells #[.int .i64 i, .slice a L.length cap] 86)) #[.int .i64 0, .slice none 0 0] 86)
  have HZ : Hid ((w.alloc (.cells #[.int .i64 i, .slice a L.length cap] 86)).heap.size = w.heap.size + 1) := by show _ = _; rw [World.size_alloc]
  have HZ2 : Hid (((w.alloc (.cells #[.int .i64 i, .slice a L.length cap] 86)).alloc (.cells #[.int .i64 0, .slice none 0 0] 86)).heap.size = w.heap.size + 1 + 1) := by show _ = _; rw [World.size_alloc, World.size_alloc]
  have HD : Hid (∀ w', Keeps ((w.alloc (.cells #[.int .i64 i, .slice a L.length cap] 86)).alloc (.cells #[.int .i64 0, .slice none 0 0] 86)) w' → w'.cell? ⟨w.heap.size, 0, none⟩ = some (.int .i64 i) ∧ w'.cell? ⟨w.heap.size, 1, none⟩ = some (.slice a L.length cap)) :=
    fun w' hk => ⟨hk.cell (by simp), hk.cell (by simp)⟩
  have HC := hide (hc.kept HKA.out)
  have HCl : Hid (∀ w', Keeps ((w.alloc (.cells #[.int .i64 i, .slice a L.length cap] 86)).alloc (.cells #[.int .i64 0, .slice none 0 0] 86)) w' → Calls Tryz.prog 84 #[.slice a L.length cap] w' fun e w'' => ∃ v, e = .returned v ∧ OwnsB w'' w'.heap.size v L ∧ Keeps w' w'') :=
    fun w' hk => clone_k a cap L w' (HC.out.kept hk) hn hl
  rw [HZ.out] at HR
  clear hc hn hl
  go_enter Tryz.func106, Tryz.ntmps106
  go_wp2_with fail
  generalize (w.alloc (.cells #[.int .i64 i, .slice a L.length cap] 86)).alloc (.cells #[.int .i64 0, .slice none 0 0] 86) = W0 at *
  obtain ⟨d0, d1⟩ := HD.out _ (Keeps.refl _)
  have r0 := HR.out.cell (i := 0) (by decide)
  have r1 := HR.out.cell (i := 1) (by decide)
  have f0 := HR.out.frozen 0
  have f1 := HR.out.frozen 1
  simp at r0 r1
  go_region_held3 (fun w' => w'.cell? ⟨w.heap.size, 0, none⟩ = some (.int .i64 i) ∧ w'.cell? ⟨w.heap.size, 1, none⟩ = some (.slice a L.length cap)) (go_keep)
    (first
      | (go_at_call 84
         refine (unhide HCl _ ((Keeps.refl W0).drew)).mono ?_
         rintro x w1 ⟨v1, rfl, ho1, hk1⟩
         have hk2 := ((Keeps.refl W0).drew).trans hk1
         have HK1 := hide hk2
         have HR1 := hide (hk2.row HR.out)
         obtain ⟨a1, c1, rfl, hn1, hb1⟩ := Born.of_owns (w := W0) ho1
         have HB1 := hide hb1
         have HN1 := hide hn1
         clear d0 d1 r0 r1 f0 f1
         obtain ⟨d0, d1⟩ := HD.out _ hk2
         have r0 := HR1.out.cell (i := 0) (by decide)
         have r1 := HR1.out.cell (i := 1) (by decide)
         have f0 := HR1.out.frozen 0
         have f1 := HR1.out.frozen 1
         simp at r0 r1
         clear hk1 hk2 ho1 hb1 hn1))
  go_wp2_with fail
  have r3 := (HR1.out.set 0 (.int .i64 i)).set 1 (.slice a1 L.length c1)
  have e0 := r3.cell (i := 0) (by decide)
  have e1 := r3.cell (i := 1) (by decide)
  simp at e0 e1
  have HS : Hid (Turn [w.heap.size + 1] w1 ((w1.setCell ⟨w.heap.size + 1, 0, none⟩ (.int .i64 i)).setCell ⟨w.heap.size + 1, 1, none⟩ (.slice a1 L.length c1))) := (Turn.set (by simp) _).trans' (Turn.set (by simp) _)
  clear r3 r0 r1 f0 f1 d0 d1
  revert e0 e1 HS
  generalize World.setCell _ _ _ = W
  intro e0 e1 HS
  refine bodyPost_ret (v := .agg #[.int .i64 i, .slice a1 L.length c1]) ?_ rfl ⟨a1, c1, rfl, HN1.out, ?_, ?_⟩
  · simp [results, Tryz.results106, go_sem, e0, e1]
  · refine (HB1.out.turn HS.out ?_).old HKA.out
    intro b hb hx
    have := HB1.out.new b hb
    have := HZ2.out
    simp at hx
    omega
  · refine HS.out.keeps (HKA.out.trans HK1.out) ?_
    intro b hb
    simp at hb
    omega
end Go.Proofs.YtkdnddckogbgaaaGreatDoor
namespace Go.Proofs.YtkdnddckogbgaaaGreatDoor
open Go.RowKit Go.Deep
set_option linter.unusedVariables false
set_option maxRecDepth 10000

theorem sum_le (l : List Nat) (c : Nat) (h : ∀ x ∈ l, x ≤ c) : l.sum ≤ c * l.length := by
  induction l with
  | nil => simp
  | cons x t ih =>
    have h1 := h x (List.mem_cons_self ..)
    have h2 := ih (fun y hy => h y (List.mem_cons_of_mem _ hy))
    simp only [List.sum_cons, List.length_cons, Nat.mul_add]
    omega
theorem dokM_DOk {cs : List Bs} {ds : List Wr} (h : dokM (dat cs ds) = true) (nc : ∀ b ∈ cs, b.fit) (nd : ∀ x ∈ ds, x.b.fit) : DOk cs ds := by
  obtain ⟨h1, h2, h3⟩ := dokM_len h
  have e1 : (dat cs ds).cells.length = cs.length := by simp [dat]
  have e2 : (dat cs ds).dirty.length = ds.length := by simp [dat]
  refine ⟨by omega, by omega, ?_, ?_, nc, nd⟩
  · have := sum_le (cs.map fun b => b.L.length) 128 (fun x hx => by
      obtain ⟨b, hb, rfl⟩ := List.mem_map.1 hx
      have := dokM_cell h (L := b.L) (List.mem_map.2 ⟨b, hb, rfl⟩)
      omega)
    rw [List.length_map] at this
    show (cs.map fun b => b.L.length).sum ≤ _
    omega
  · have := sum_le (ds.map fun b => b.b.L.length) 128 (fun x hx => by
      obtain ⟨b, hb, rfl⟩ := List.mem_map.1 hx
      have := dokM_dirty h (x := b.key) (List.mem_map.2 ⟨b, hb, rfl⟩)
      have : b.b.L.length = 128 := this.2.2
      omega)
    rw [List.length_map] at this
    show (ds.map fun b => b.b.L.length).sum ≤ _
    omega
def writeB (m : DkM) (i : Int) (L : List UInt8) : Bool := dokM m && decide (m.dirty.length < 600) && (decide (0 ≤ i) && decide (i < m.cells.length)) && decide (L.length = 128)
def writeM (m : DkM) (i : Int) (L : List UInt8) : DkM := if writeB m i L = true then ⟨m.cells, m.dirty ++ [(i, L)]⟩ else noneM
theorem dokM_add {m : DkM} {i : Int} {L : List UInt8} (h : dokM m = true) : dokM ⟨m.cells, m.dirty ++ [(i, L)]⟩ = writeB m i L := by
  have h' := h
  simp only [dokM, Bool.and_eq_true, decide_eq_true_eq] at h'
  obtain ⟨⟨⟨⟨a1, a2⟩, a3⟩, a4⟩, a5⟩ := h'
  unfold writeB
  rw [h]
  unfold dokM
  simp only [List.all_append, a4, a5, decide_eq_true a1, decide_eq_true a2, List.length_append, List.length_singleton, List.all_cons, List.all_nil, Bool.and_true, Bool.true_and]
  rw [show decide (m.dirty.length + 1 ≤ 600) = decide (m.dirty.length < 600) from rfl]
  simp only [Bool.and_assoc]
def WritePost (w : World) (m : DkM) (i : Int) (L : List UInt8) (x : Ending) (w' : World) : Prop := ∃ v, x = .returned (.tuple #[v, .bool (writeB m i L)]) ∧ DiskRes w w' v (writeM m i L) ∧ Keeps w w'
theorem WritePost.no {w w' : World} {m : DkM} {i : Int} {L : List UInt8} (h : writeB m i L = false) (hk : Keeps w w') : WritePost w m i L (.returned (.tuple #[dskV none 0 0 none 0 0, .bool false])) w' :=
  ⟨_, by rw [h], by unfold writeM; rw [h]; exact diskres_none _ _, hk⟩
theorem WritePost.yes {w w' : World} {m : DkM} {i : Int} {L : List UInt8} {v : Value} (h : writeB m i L = true) (hr : DiskRes w w' v ⟨m.cells, m.dirty ++ [(i, L)]⟩) (hk : Keeps w w') : WritePost w m i L (.returned (.tuple #[v, .bool true])) w' :=
  ⟨_, by rw [h], by unfold writeM; rw [if_pos h]; exact hr, hk⟩
theorem writeB_no {m : DkM} {i : Int} {L : List UInt8} (h : dokM m = false ∨ m.dirty.length = 600 ∨ i < 0 ∨ (m.cells.length : Int) ≤ i ∨ L.length ≠ 128) : writeB m i L = false := by
  unfold writeB
  rcases h with h | h | h | h | h
  · rw [h]; simp
  · rw [h]; simp
  · rw [decide_eq_false (show ¬ 0 ≤ i by omega)]; simp
  · rw [decide_eq_false (show ¬ i < (m.cells.length : Int) by omega)]; simp
  · rw [decide_eq_false h]; simp
theorem writeB_yes {m : DkM} {i : Int} {L : List UInt8} (h : dokM m = true) (h1 : m.dirty.length ≠ 600) (h2 : 0 ≤ i) (h3 : i < (m.cells.length : Int)) (h4 : L.length = 128) : writeB m i L = true := by
  have := (dokM_len h).2.2
  unfold writeB
  rw [h, decide_eq_true (show m.dirty.length < 600 by omega), decide_eq_true h2, decide_eq_true h3, decide_eq_true h4]; rfl
theorem make_writes0 (n : Nat) (hn : n ≤ 1048577) (w : World) : (Instr.makeSlice 24 (.int .i64 0) (.int .i64 ((n : Int) + 1))).run Tryz.prog w = .ok (.slice (some ⟨w.heap.size, 0, none⟩) 0 (n + 1)) (w.alloc (.cells (madeCells #[.int .i64 0, .slice none 0 0] ((n + 1) * 2)) 86)) := by
  have hI := infoWrite
  cases hi : Tryz.prog.info? 86 with
  | none => rw [hi] at hI; simp at hI
  | some i =>
    rw [hi] at hI
    simp at hI
    obtain ⟨hz, hs, hb⟩ := hI
    have h := run_make (P := Tryz.prog) w 24 86 i _ underWrites hi hz .i64 .i64 0 ((n : Int) + 1) (by omega) (by omega) (by rw [hb]; omega) (by omega)
    rw [hs] at h
    simpa [Value.cells] using h
end Go.Proofs.YtkdnddckogbgaaaGreatDoor
namespace Go.Proofs.YtkdnddckogbgaaaGreatDoor
open Go.RowKit Go.Deep
set_option linter.unusedVariables false
set_option linter.unusedSimpArgs false
set_option maxRecDepth 10000

/-- A disk of one list that was made, with nothing that waits; then a variable was set. -/
theorem diskres_cells {w w5 w6 W : World} {v1 : Value} {nb : List Bs} {fs : List Nat} (hk : Keeps w w5) (hC : LG 93 1 Bs.cells Bs.seg w5 w6 v1 nb) (hT : Turn fs w6 W) (hfs : ∀ b ∈ fs, b < w5.heap.size) (hok : dokM ⟨nb.map Bs.L, []⟩ = true) (nc : ∀ b ∈ nb, b.fit) :
    DiskRes w W (.agg #[v1, .slice none 0 0]) ⟨nb.map Bs.L, []⟩ := by
  obtain ⟨a1, c1, e1, h1, b1⟩ := hC.cells
  refine ⟨a1, c1, nb, none, 0, [], by rw [e1]; rfl, rfl, dokM_DOk (ds := []) hok nc (fun x hx => by simp at hx), h1, fun _ => rfl, ?_⟩
  have b1' : Born w W ((a1, ccells nb) :: nb.map Bs.seg) := by
    refine (b1.turn hT (fun b hb hx => ?_)).old hk
    have := b1.new b hb
    have := hfs b hx
    omega
  have e2 : fp ([((none : Option Addr), wcells [])] ++ ([] : List Wr).map Wr.seg) = [] := by simp [fp, fpS, wcells]
  have o2 : Own W ([((none : Option Addr), wcells [])] ++ ([] : List Wr).map Wr.seg) :=
    ⟨fun s hs => by
      have : s = (none, wcells []) := by simpa using hs
      rw [this]
      exact Or.inl rfl, by rw [e2]; exact List.nodup_nil, fun b hb => by rw [e2] at hb; simp at hb⟩
  refine ⟨b1'.toOwn.append o2 (fun b hb hb' => ?_), fun b hb => ?_⟩
  · have h : b ∈ fp ([((none : Option Addr), wcells [])] ++ ([] : List Wr).map Wr.seg) := hb'
    rw [e2] at h; simp at h
  · unfold dsk at hb
    rw [fp_append] at hb
    rcases List.mem_append.1 hb with hb | hb
    · exact b1'.new b hb
    · have h : b ∈ fp ([((none : Option Addr), wcells [])] ++ ([] : List Wr).map Wr.seg) := hb
      rw [e2] at h; simp at h
/-- What lies in a write that waits. -/
theorem dirty_at {cs : List Bs} {ds : List Wr} (hok : dokM (dat cs ds) = true) (k : Nat) (hk : k < ds.length) : ∃ p : Nat, ds[k].i = (p : Int) ∧ p < cs.length ∧ ds[k].b.L.length = 128 := by
  have hm : ds[k].key ∈ (dat cs ds).dirty := List.mem_map.2 ⟨ds[k], List.getElem_mem hk, rfl⟩
  obtain ⟨h1, h2, h3⟩ := dokM_dirty hok hm
  refine ⟨ds[k].i.toNat, ?_, ?_, h3⟩
  · show ds[k].i = _
    have : (0 : Int) ≤ ds[k].i := h1
    omega
  · have h4 : ds[k].i < ((dat cs ds).cells.length : Int) := h2
    have h5 : (dat cs ds).cells.length = cs.length := by simp [dat]
    have : (0 : Int) ≤ ds[k].i := h1
    omega
theorem crashTo_next {C : List (List UInt8)} {ds : List Wr} {f : Nat → Nat} {k : Nat} (hk : k < ds.length) : crashTo C (ds.map Wr.key) f (k + 1) = landM (crashTo C (ds.map Wr.key) f k) ds[k].key (f k) := by
  simp [crashTo, hk]
set_option maxHeartbeats 8000000 in
theorem disksync_impl (ca : Option Addr) (cc : Nat) (cs : List Bs) (da : Option Addr) (dc : Nat) (ds : List Wr) (w : World) (hm : Mem w (dsk ca cs da ds)) (h : DOk cs ds) :
    Calls Tryz.prog 49 #[dskV ca cs.length cc da ds.length dc] w fun e w' => ∃ v, e = .returned v ∧ DiskRes w w' v (crashM (dat cs ds) (fun _ => 128)) ∧ Keeps w w' := by
  have HKA := hide (Keeps.alloc (Keeps.alloc (Keeps.refl w) (.cells #[.slice ca cs.length cc, .slice da ds.length dc] 26)) (.cells #[.slice none 0 0, .slice none 0 0] 26))
  have HM := hide (hm.kept HKA.out)
  have HD : Hid (∀ w', Keeps ((w.alloc (.cells #[.slice ca cs.length cc, .slice da ds.length dc] 26)).alloc (.cells #[.slice none 0 0, .slice none 0 0] 26)) w' → w'.cell? ⟨w.heap.size, 0, none⟩ = some (.slice ca cs.length cc) ∧ w'.cell? ⟨w.heap.size, 1, none⟩ = some (.slice da ds.length dc)) :=
    fun w' hk => ⟨hk.cell (by simp), hk.cell (by simp)⟩
  have HZ : Hid (((w.alloc (.cells #[.slice ca cs.length cc, .slice da ds.length dc] 26)).alloc (.cells #[.slice none 0 0, .slice none 0 0] 26)).heap.size = w.heap.size + 1 + 1) := by show _ = _; rw [World.size_alloc, World.size_alloc]
  have HR := hide ((born_alloc (w.alloc (.cells #[.slice ca cs.length cc, .slice da ds.length dc] 26)) #[.slice none 0 0, .slice none 0 0] 26).toOwn)
  rw [World.size_alloc] at HR
  have HQ := hide (diskok_impl' ca cc cs da dc ds _ HM.out h)
  have HDO := hide h
  have hdl := h.d
  clear hm h
  cases hok : dokM (dat cs ds)
  · rw [hok] at HQ
    have HC : Hid (crashM (dat cs ds) (fun _ => 128) = noneM) := by show _ = _; unfold crashM; rw [hok]; rfl
    clear hok
    go_enter Tryz.func49, Tryz.ntmps49
    go_wp2_with fail
    refine (unhide HQ).mono ?_
    rintro x w1 ⟨rfl, hk1⟩
    have hO := HR.out.kept hk1
    have r0 := cell_at hO.mem 0 (by simp)
    have r1 := cell_at hO.mem 1 (by simp)
    simp only [Nat.zero_add, List.getElem_cons_zero, List.getElem_cons_succ] at r0 r1
    have fR : ∀ i, w1.frozen? ⟨w.heap.size + 1, i, none⟩ = false := hO.free (w.heap.size + 1) (by rw [fp_one, fpS_some (by simp)]; simp)
    have HK1 := hide (((HKA.out.trans hk1).setCell (p := ⟨w.heap.size + 1, 0, none⟩) (Nat.le_succ _) (.slice none 0 0)).setCell (p := ⟨w.heap.size + 1, 1, none⟩) (Nat.le_succ _) (.slice none 0 0))
    have e0 : ((w1.setCell ⟨w.heap.size + 1, 0, none⟩ (.slice none 0 0)).setCell ⟨w.heap.size + 1, 1, none⟩ (.slice none 0 0)).cell? ⟨w.heap.size + 1, 0, none⟩ = some (.slice none 0 0) := by
      rw [World.cell?_setCell_other _ _ _ _ (by simp)]; exact World.cell?_setCell_same _ _ _ r0
    have e1 : ((w1.setCell ⟨w.heap.size + 1, 0, none⟩ (.slice none 0 0)).setCell ⟨w.heap.size + 1, 1, none⟩ (.slice none 0 0)).cell? ⟨w.heap.size + 1, 1, none⟩ = some (.slice none 0 0) := by
      refine World.cell?_setCell_same _ _ _ (u := .slice none 0 0) ?_
      rw [World.cell?_setCell_other _ _ _ _ (by simp)]; exact r1
    have E0 := hide e0
    have E1 := hide e1
    clear hO hk1 e0 e1
    go_wp2_with fail
    have e0 := E0.out
    have e1 := E1.out
    clear r0 r1 fR E0 E1
    generalize (w1.setCell ⟨w.heap.size + 1, 0, none⟩ (.slice none 0 0)).setCell ⟨w.heap.size + 1, 1, none⟩ (.slice none 0 0) = W at *
    refine bodyPost_ret (v := dskV none 0 0 none 0 0) (by simp [results, Tryz.results49, go_sem, e0, e1]) rfl ⟨_, rfl, ?_, HK1.out⟩
    rw [HC.out]
    exact diskres_none w W
  rw [hok] at HQ
  have HOK := hide hok
  have HF : Hid (∀ i : Nat, (fun _ => 128) i ≤ 128) := fun i => Nat.le_refl _
  clear hok
  go_enter Tryz.func49, Tryz.ntmps49
  go_wp2_with fail
  refine (unhide HQ).mono ?_
  rintro x w1 ⟨rfl, hk1⟩
  have HK1 := hide hk1
  obtain ⟨d0, d1⟩ := HD.out _ hk1
  clear hk1
  go_wp2_with fail
  have hmm := dsk_mem (HM.out.kept HK1.out)
  refine (copyCells_k ca cc cs w1 hmm.1 hmm.2.1 HDO.out.nc HDO.out.c (fun b hb => Nat.le_trans (Nat.le_trans (tot_le hb) HDO.out.tc) (by decide))).mono ?_
  clear hmm
  rintro x w2 ⟨v, nb0, rfl, hnL, hnf, hLG⟩
  have HLG := hide hLG
  have HNL := hide hnL
  have HNF := hide hnf
  have HK2 := hide (HK1.out.trans hLG.keeps)
  clear d0 d1
  obtain ⟨d0, d1⟩ := HD.out _ HK2.out
  clear hLG hnL hnf
  go_wp2_with fail
  go_loopw [16] (fun y wr => ∃ k : Nat, k ≤ ds.length ∧ y = .int .i64 (k : Int) ∧ Hid (∃ nb, nb.map Bs.L = crashTo (cs.map Bs.L) (ds.map Wr.key) (fun _ => 128) k ∧ (∀ b ∈ nb, b.fit) ∧ LG 93 1 Bs.cells Bs.seg w1 wr v nb)) (fun y _ => ds.length - (intOf y).toNat)
  case atStart => exact ⟨0, by omega, rfl, nb0, HNL.out, HNF.out, HLG.out⟩
  case round =>
    obtain ⟨k, hk, rfl, HH⟩ := hrel
    obtain ⟨nb, hnL, hnf, hLG⟩ := HH.out
    have hkw : Keeps ((w.alloc (.cells #[.slice ca cs.length cc, .slice da ds.length dc] 26)).alloc (.cells #[.slice none 0 0, .slice none 0 0] 26)) wr := HK1.out.trans hLG.keeps
    have HLr := hide hLG
    have HNr := hide hnL
    have HFr := hide hnf
    have HKr := hide hkw
    clear hnL hnf hLG HH d0 d1
    by_cases hlt : k < ds.length
    · have hmm := dsk_mem (HM.out.kept hkw)
      obtain ⟨b, off, ea, c0, c1⟩ := cell2 hmm.2.2.1 k hlt
      obtain ⟨p, hp, hpc, hL⟩ := dirty_at HOK.out k hlt
      have hseg : Cells wr ds[k].b.a (bys ds[k].b.L) := hmm.2.2.2 ds[k].seg (List.mem_map.2 ⟨ds[k], List.getElem_mem hlt, rfl⟩)
      obtain ⟨xb, xo, exa⟩ : ∃ xb xo, ds[k].b.a = some ⟨xb, xo, none⟩ := by
        rcases hseg with h' | ⟨b', o', e', _⟩
        · rw [bys_nil] at h'; rw [h'] at hL; simp at hL
        · exact ⟨b', o', e'⟩
      have hfit := (HDO.out.nd ds[k] (List.getElem_mem hlt)).2
      rw [hL] at hfit
      rw [hp] at c0
      rw [show ds[k].b.v = .slice (some ⟨xb, xo, none⟩) 128 ds[k].b.cap by unfold Bs.v; rw [exa, hL]] at c1
      rw [exa] at hseg
      subst ea
      have hlen : nb.length = cs.length := by
        have := congrArg List.length HNr.out
        rw [List.length_map, crashTo_len, List.length_map] at this
        exact this
      have hcell : nb[p].L.length = 0 ∨ nb[p].L.length = 128 := by
        have h2 := crashTo_ok HOK.out HF.out k
        have h3 : nb[p].L ∈ crashTo (dat cs ds).cells (dat cs ds).dirty (fun _ => 128) k := by
          show _ ∈ crashTo (cs.map Bs.L) (ds.map Wr.key) (fun _ => 128) k
          rw [← HNr.out]
          exact List.mem_map.2 ⟨nb[p], List.getElem_mem _, rfl⟩
        exact h2 _ h3
      have hka := Keeps.alloc (Keeps.refl wr) (.cells #[.int .i64 (p : Int), .slice (some ⟨xb, xo, none⟩) 128 ds[k].b.cap] 86)
      have HLand := hide (fun (n : Nat) (hn : n ≤ 128) (wd : World) (hkd : Keeps (wr.alloc (.cells #[.int .i64 (p : Int), .slice (some ⟨xb, xo, none⟩) 128 ds[k].b.cap] 86)) wd) => land_k w1 wd v nb (HLr.out.kept (hka.trans hkd)) p (by omega) xb xo ds[k].b.cap ds[k].b.L (hseg.kept (hka.trans hkd)) hL hfit n hn hcell (by have := HDO.out.c; omega) HFr.out)
      have HNext : Hid (∀ n, (fun _ => 128) k = n → crashTo (cs.map Bs.L) (ds.map Wr.key) (fun _ => 128) (k + 1) = landM (nb.map Bs.L) ((p : Int), ds[k].b.L) n) := fun n hn => by
        subst hn
        rw [crashTo_next hlt, ← HNr.out]
        unfold Wr.key
        rw [hp]
      generalize ds[k].b.cap = xc at *
      generalize ds[k].b.L = xL at *
      clear hmm hp hseg exa hfit hcell hkw hL hka
      have hdl2 : (ds.length : Int) ≤ 1048576 := by omega
      go_wp2_with fail
      refine (unhide HLand 128 (Nat.le_refl _) _ (Keeps.refl _)).mono ?_
      rintro x w4 ⟨rfl, nb', hnL, hnf, hLG, _⟩
      have HL4 := hide hLG
      have HN4 := hide (hnL.trans (HNext.out 128 rfl).symm)
      have HF4 := hide hnf
      clear hLG hnL hnf HLand HNext c0 c1
      go_wp2_with fail
      go_roundw
      case rel => exact ⟨k + 1, by omega, by go_num, nb', HN4.out, HF4.out, HL4.out⟩
      case measure => simp [intOf]; omega
    · have e : k = ds.length := by omega
      subst e
      have hO := HR.out.kept HKr.out
      have r0 := cell_at hO.mem 0 (by simp)
      have r1 := cell_at hO.mem 1 (by simp)
      simp only [Nat.zero_add, List.getElem_cons_zero, List.getElem_cons_succ] at r0 r1
      have fR : ∀ i, wr.frozen? ⟨w.heap.size + 1, i, none⟩ = false := hO.free (w.heap.size + 1) (by rw [fp_one, fpS_some (by simp)]; simp)
      have HT1 : Hid (Turn [w.heap.size + 1] wr ((wr.setCell ⟨w.heap.size + 1, 0, none⟩ v).setCell ⟨w.heap.size + 1, 1, none⟩ (.slice none 0 0))) := (Turn.set (by simp) _).trans' (Turn.set (by simp) _)
      have HKF := hide (((HKA.out.trans HKr.out).setCell (p := ⟨w.heap.size + 1, 0, none⟩) (Nat.le_succ _) v).setCell (p := ⟨w.heap.size + 1, 1, none⟩) (Nat.le_succ _) (.slice none 0 0))
      have E0 : Hid (((wr.setCell ⟨w.heap.size + 1, 0, none⟩ v).setCell ⟨w.heap.size + 1, 1, none⟩ (.slice none 0 0)).cell? ⟨w.heap.size + 1, 0, none⟩ = some v) := by
        show _ = _
        rw [World.cell?_setCell_other _ _ _ _ (by simp)]; exact World.cell?_setCell_same _ _ _ r0
      have E1 : Hid (((wr.setCell ⟨w.heap.size + 1, 0, none⟩ v).setCell ⟨w.heap.size + 1, 1, none⟩ (.slice none 0 0)).cell? ⟨w.heap.size + 1, 1, none⟩ = some (.slice none 0 0)) := by
        show _ = _
        refine World.cell?_setCell_same _ _ _ (u := .slice none 0 0) ?_
        rw [World.cell?_setCell_other _ _ _ _ (by simp)]; exact r1
      have HDR : Hid (∀ W, Turn [w.heap.size + 1] wr W → DiskRes w W (.agg #[v, .slice none 0 0]) (crashM (dat cs ds) (fun _ => 128))) := fun W hT => by
        have hcm : crashM (dat cs ds) (fun _ => 128) = ⟨nb.map Bs.L, []⟩ := by
          unfold crashM
          rw [if_pos HOK.out, HNr.out]
          simp [dat]
        rw [hcm]
        refine diskres_cells (HKA.out.trans HK1.out) HLr.out hT (fun b hb => ?_) ?_ HFr.out
        · have h1 := HK1.out.size
          rw [HZ.out] at h1
          simp at hb
          omega
        · rw [HNr.out]
          exact crash_dok HOK.out HF.out ds.length
      obtain ⟨av, cv, hve, _⟩ := HLr.out.cells
      have hvv := hve
      clear hO
      subst hve
      go_wp2_with fail
      have e0 := E0.out
      have e1 := E1.out
      have hT := HT1.out
      have hK := HKF.out
      clear r0 r1 fR E0 E1 HT1 HKF
      revert e0 e1 hT hK
      generalize (wr.setCell ⟨w.heap.size + 1, 0, none⟩ (.slice av nb.length cv)).setCell ⟨w.heap.size + 1, 1, none⟩ (.slice none 0 0) = W
      intro e0 e1 hT hK
      refine bodyPost_ret (v := .agg #[.slice av nb.length cv, .slice none 0 0]) (by simp [results, Tryz.results49, go_sem, e0, e1]) rfl ⟨_, rfl, HDR.out W hT, hK⟩
end Go.Proofs.YtkdnddckogbgaaaGreatDoor
