/- The model's PostAll. -/
import Derived.Test.YtecjjkgdgmjgmaaPGS
namespace Go.Proofs.Ytecjjkgdgmjgmaa
open Go.RowKit Go.Deep
set_option linter.unusedVariables false
attribute [local go_sem ↓] Go.wp_at_zero Go.wp_at_succ

/-- One posting after the other: the number, the lines, how many went. -/
def aStep (s : Int × List Ln × Nat) (p : Int × List Ln) : Int × List Ln × Nat := if pcode s.1 s.2.1 p.1 p.2 = 0 then (p.1, addAll s.2.1 p.2, s.2.2 + 1) else s
def aAll (id : Int) (L : List Ln) (K : List (Int × List Ln)) : Int × List Ln × Nat := K.foldl aStep (id, L, 0)
def aid (id : Int) (L : List Ln) (K : List (Int × List Ln)) : Int := if ledgB id L = true then (aAll id L K).1 else 0
def aL (id : Int) (L : List Ln) (K : List (Int × List Ln)) : List Ln := if ledgB id L = true then (aAll id L K).2.1 else []
def acode (id : Int) (L : List Ln) (K : List (Int × List Ln)) : Int := if ledgB id L = true then ((aAll id L K).2.2 : Int) else -1
theorem aAll_take (id : Int) (L : List Ln) (K : List (Int × List Ln)) (k : Nat) (h : k < K.length) : aAll id L (K.take (k + 1)) = aStep (aAll id L (K.take k)) K[k] := by
  unfold aAll
  rw [List.take_succ_eq_append_getElem h, List.foldl_append]
  rfl
theorem aAll_ok {id : Int} {L : List Ln} (hb : ledgB id L = true) (K : List (Int × List Ln)) : ∀ k, k ≤ K.length → ledgB (aAll id L (K.take k)).1 (aAll id L (K.take k)).2.1 = true ∧ (aAll id L (K.take k)).2.2 ≤ k
  | 0, _ => ⟨by simpa [aAll] using hb, by simp [aAll]⟩
  | k + 1, h => by
    obtain ⟨h1, h2⟩ := aAll_ok hb K k (by omega)
    rw [aAll_take id L K k (by omega)]
    unfold aStep
    split
    · rename_i hp
      refine ⟨?_, by show _ + 1 ≤ _; omega⟩
      unfold pcode at hp
      split at hp
      · simp at hp
      · split at hp
        · simp at hp
        · split at hp
          · simp at hp
          · rename_i h3
            simpa using h3
    · exact ⟨h1, by omega⟩
/-- While postings are added: the variable's block and its lines. -/
structure ASt (w2 : World) (Ob : Nat) (id : Int) (a : Option Addr) (cap : Nat) (M : List Ln) (W : World) : Prop where
  row : W.rowIs Ob 25 2 (fun i : Nat => if i = 0 then .int .i64 id else .slice a M.length cap)
  own : Own W [(a, flat M)]
  far : ∀ b ∈ fp [(a, flat M)], w2.heap.size ≤ b ∧ b ≠ Ob
  nil : a = none → cap = 0
  new : w2.heap.size ≤ Ob
  keeps : Keeps w2 W
theorem PSt.ast {w2 : World} {Ob : Nat} {id : Int} {a : Option Addr} {cap : Nat} {M : List Ln} {W : World} (s : PSt w2 Ob id (.slice a M.length cap) M W) : ASt w2 Ob id a cap M W := by
  obtain ⟨a', c', e, _, _, hn, ho, hb⟩ := Own.of_owns s.own
  injection e with e1 e2 e3
  subst e1 e3
  refine ⟨s.row, ho, fun b hb' => ⟨hb b hb', fun e => ?_⟩, hn, s.new, s.keeps⟩
  subst e
  refine s.ne ?_
  by_cases h0 : flat M = []
  · simp [fp, fpS, h0] at hb'
  · cases a with
    | none => simp [fp, fpS, h0] at hb'
    | some p =>
      obtain ⟨g, off, q⟩ := p
      simp [fp, fpS, h0] at hb'
      subst hb'
      rcases s.own.2 with ⟨hx, _⟩ | ⟨g, cap, cur, hx, _⟩
      · cases hx
      · simp only [Value.slice.injEq] at hx
        simp [Value.ownBlock]
theorem ASt.kept {w2 : World} {Ob : Nat} {id : Int} {a : Option Addr} {cap : Nat} {M : List Ln} {W W' : World} (s : ASt w2 Ob id a cap M W) (hk : Keeps W W') : ASt w2 Ob id a cap M W' :=
  ⟨Keeps.row hk s.row, s.own.kept hk, s.far, s.nil, s.new, s.keeps.trans hk⟩
/-- The variable gets another ledger. -/
theorem ASt.put {w2 : World} {Ob : Nat} {id id' : Int} {a a' : Option Addr} {cap cap' : Nat} {M M' : List Ln} {W V W' : World} (s : ASt w2 Ob id a cap M W) (hk : Keeps W V) (hb : Born V W' [(a', flat M')]) (hk' : Keeps V W') (hn : a' = none → cap' = 0) :
    ASt w2 Ob id' a' cap' M' ((W'.setCell ⟨Ob, 0, none⟩ (.int .i64 id')).setCell ⟨Ob, 1, none⟩ (.slice a' M'.length cap')) := by
  have hr := Keeps.row (hk.trans hk') s.row
  have hlt := s.row.lt
  have hf : ∀ b ∈ fp [(a', flat M')], w2.heap.size ≤ b ∧ b ≠ Ob := fun b hb' => by
    have h1 := hb.new b hb'
    have h2 := hk.size
    have h3 := s.keeps.size
    omega
  have ht : Turn [Ob] W' ((W'.setCell ⟨Ob, 0, none⟩ (.int .i64 id')).setCell ⟨Ob, 1, none⟩ (.slice a' M'.length cap')) := (Turn.set (by simp) _).trans' (Turn.set (by simp) _)
  exact ⟨row_two hr _ _, hb.toOwn.turn ht (fun b hb' hx => (hf b hb').2 (by simpa using hx)), hf, hn, s.new, ht.keeps ((s.keeps.trans hk).trans hk') (fun b hb' => by have : b = Ob := (by simpa using hb'); have := s.new; omega)⟩
set_option maxRecDepth 100000 in
set_option maxHeartbeats 8000000 in
theorem postall_spec (id : Int) (a pa : Option Addr) (cap pc : Nat) (L : List Ln) (ds : List Pg) (w : World) (hc : Cells w a (flat L)) (hp : Cells w pa (pcells ds)) (hm : Mem w (ds.map Pg.seg)) (hn : a = none → cap = 0) (hl : L.length ≤ 1048576) (hld : ds.length ≤ 1048576) (ht : ∀ x ∈ ds, x.b.L.length ≤ 1048576) :
    Calls Try.prog 30 #[.agg #[.int .i64 id, .slice a L.length cap], .slice pa ds.length pc] w fun e w' => PostO (aid id L (ds.map Pg.key)) (aL id L (ds.map Pg.key)) (acode id L (ds.map Pg.key)) w w' e ∧ Keeps w w' := by
  have HKA := hide (Keeps.alloc (Keeps.alloc (Keeps.refl w) (.cells #[.int .i64 id, .slice a L.length cap] 25)) (.cells #[.int .i64 0, .slice none 0 0] 25))
  have HD : Hid (∀ w', Keeps (((w.alloc (.cells #[.int .i64 id, .slice a L.length cap] 25)).alloc (.cells #[.int .i64 0, .slice none 0 0] 25))) w' → w'.cell? ⟨w.heap.size, 0, none⟩ = some (.int .i64 id) ∧ w'.cell? ⟨w.heap.size, 1, none⟩ = some (.slice a L.length cap)) :=
    fun w' hk => ⟨hk.cell ((Keeps.alloc (Keeps.refl _) _).cell (by simp)), hk.cell ((Keeps.alloc (Keeps.refl _) _).cell (by simp))⟩
  have r0 := World.rowIs_alloc (w.alloc (.cells #[.int .i64 id, .slice a L.length cap] 25)) #[.int .i64 0, .slice none 0 0] 25 _ (two_row' _ _)
  simp only [World.size_alloc] at r0
  have HR0 := hide r0
  have HC := hide hc
  have HP := hide hp
  have HM := hide hm
  have HT := hide ht
  have HS := hide (fun w1 (hk : Keeps w w1) => ledger_spec id a cap L w1 (HC.out.kept hk) hl)
  clear hc hp hm ht r0
  cases hb : ledgB id L
  · rw [hb] at HS
    have HV : Hid (aid id L (ds.map Pg.key) = 0 ∧ aL id L (ds.map Pg.key) = [] ∧ acode id L (ds.map Pg.key) = -1) := by show _ ∧ _; simp [aid, aL, acode, hb]
    clear hb
    go_enter Try.func30, Try.ntmps30
    go_wp2_with fail
    refine (unhide HS _ HKA.out).mono ?_
    rintro e w1 ⟨rfl, hk1⟩
    have HK1 := hide hk1
    clear hk1
    have HRow := hide (Keeps.row HK1.out HR0.out)
    have f0 := HRow.out.frozen 0
    have f1 := HRow.out.frozen 1
    have z0 := HRow.out.cell (i := 0) (by decide)
    have z1 := HRow.out.cell (i := 1) (by decide)
    simp at z0 z1
    go_wp2_with fail
    obtain ⟨o0, o1⟩ := row2_out' HRow.out (.int .i64 0) (.slice none 0 0)
    refine bodyPost_ret (v := .tuple #[.agg #[.int .i64 0, .slice none 0 0], .int .i64 (-1)]) ?_ rfl ⟨by rw [HV.out.1, HV.out.2.1, HV.out.2.2]; exact postO_none, Keeps.setCell (Keeps.setCell (HKA.out.trans HK1.out) (by show _ ≤ _ + 1; omega) _) (by show _ ≤ _ + 1; omega) _⟩
    revert o0 o1
    clear HRow HK1 f0 f1 z0 z1
    generalize World.setCell _ _ _ = W
    intro o0 o1
    simp [results, Try.results30, go_sem, o0, o1]
  · rw [hb] at HS
    have HB := hide hb
    clear hb
    go_enter Try.func30, Try.ntmps30
    go_wp2_with fail
    refine (unhide HS _ HKA.out).mono ?_
    rintro e w2 ⟨rfl, hk2⟩
    have HK2 := hide hk2
    obtain ⟨d0, d1⟩ := HD.out _ hk2
    clear hk2 HS
    go_wp2_with fail
    have hsz := HK2.out.size
    simp only [World.size_alloc] at hsz
    have hCa := HC.out.kept (HKA.out.trans HK2.out)
    have kE := (Keeps.alloc (Keeps.refl w2) (.cells #[] 35)).drew
    have kOE := (Keeps.alloc (Keeps.alloc (Keeps.refl w2) (.cells #[.int .i64 0, .slice none 0 0] 25)) (.cells #[] 35)).drew
    have kEO := (Keeps.alloc (Keeps.alloc (Keeps.refl w2) (.cells #[] 35)) (.cells #[.int .i64 0, .slice none 0 0] 25)).drew
    have lt0 := lt_of_cell d1
    have ownA : OwnsL (w2.alloc (.cells #[] 35)).drew w2.heap.size (.slice (some ⟨w2.heap.size, 0, none⟩) 0 0) [] := World.ownsRow_made (base := w2.heap.size) (e := 35) (size := 3) w2 #[] 0 (Nat.le_refl _) (by decide) rfl
    have ownB : OwnsL ((w2.alloc (.cells #[.int .i64 0, .slice none 0 0] 25)).alloc (.cells #[] 35)).drew w2.heap.size (.slice (some ⟨w2.heap.size + 1, 0, none⟩) 0 0) [] := by
      have h := World.ownsRow_made (base := w2.heap.size) (e := 35) (size := 3) (w2.alloc (.cells #[.int .i64 0, .slice none 0 0] 25)) #[] 0 (by simp) (by decide) rfl
      rw [World.size_alloc] at h
      exact h
    have ownC : OwnsL ((w2.alloc (.cells #[] 35)).alloc (.cells #[.int .i64 0, .slice none 0 0] 25)).drew w2.heap.size (.slice (some ⟨w2.heap.size, 0, none⟩) 0 0) [] := ownA.alloc _
    have rB : ((w2.alloc (.cells #[.int .i64 0, .slice none 0 0] 25)).alloc (.cells #[] 35)).drew.rowIs w2.heap.size 25 2 (fun i : Nat => if i = 0 then .int .i64 0 else .slice none 0 0) := (World.rowIs_alloc w2 #[.int .i64 0, .slice none 0 0] 25 _ (two_row' _ _)).alloc _
    have rC : ((w2.alloc (.cells #[] 35)).alloc (.cells #[.int .i64 0, .slice none 0 0] 25)).drew.rowIs (w2.heap.size + 1) 25 2 (fun i : Nat => if i = 0 then .int .i64 0 else .slice none 0 0) := by
      have h := World.rowIs_alloc (w2.alloc (.cells #[] 35)) #[.int .i64 0, .slice none 0 0] 25 _ (two_row' _ _)
      rw [World.size_alloc] at h
      exact h
    go_region_held3 (fun w' => w'.cell? ⟨w.heap.size, 0, none⟩ = some (.int .i64 id) ∧ w'.cell? ⟨w.heap.size, 1, none⟩ = some (.slice a L.length cap))
      (first
        | go_keep
        | (refine ⟨?_, ?_⟩
           · (rw [World.cell?_setCell_other _ _ _ _ (by simp <;> omega), World.cell?_setCell_other _ _ _ _ (by simp <;> omega)]; assumption)
           · (rw [World.cell?_setCell_other _ _ _ _ (by simp <;> omega), World.cell?_setCell_other _ _ _ _ (by simp <;> omega)]; assumption)))
      (first
        | (refine step_lines (by rfl) (.tmp 18) (.tmp 20) (by rfl) w2.heap.size w2.heap.size a cap L (by rfl) (by rfl) ownA (hCa.kept kE) hn hl kE.size ?_
           intro a3 c3 w3 o3 g3
           have e0 := g3.cell (kE.cell d0) (by simp; omega)
           have e1 := g3.cell (kE.cell d1) (by simp; omega)
           have HK3 := hide (keeps_by kE g3 (by simp))
           have HO3 := hide o3
           clear o3 g3)
        | (refine step_lines (by rfl) (.tmp 18) (.tmp 20) (by rfl) (w2.heap.size + 1) w2.heap.size a cap L (by rfl) (by rfl) ownB (hCa.kept kOE) hn hl kOE.size ?_
           intro a3 c3 w3 o3 g3
           have e0 := g3.cell (kOE.cell d0) (by simp; omega)
           have e1 := g3.cell (kOE.cell d1) (by simp; omega)
           have r3 := rB.of_block (g3.block _ rB.lt (by simp))
           have z0 := r3.cell (i := 0) (by decide)
           have z1 := r3.cell (i := 1) (by decide)
           have f0 := r3.frozen 0
           have f1 := r3.frozen 1
           simp at z0 z1
           have HR3 := hide r3
           clear r3
           have HK3 := hide (keeps_by kOE g3 (by simp))
           have HO3 := hide o3
           clear o3 g3)
        | (refine step_lines (by rfl) (.tmp 18) (.tmp 20) (by rfl) w2.heap.size w2.heap.size a cap L (by rfl) (by rfl) ownC (hCa.kept kEO) hn hl kEO.size ?_
           intro a3 c3 w3 o3 g3
           have e0 := g3.cell (kEO.cell d0) (by simp; omega)
           have e1 := g3.cell (kEO.cell d1) (by simp; omega)
           have r3 := rC.of_block (g3.block _ rC.lt (by simp))
           have z0 := r3.cell (i := 0) (by decide)
           have z1 := r3.cell (i := 1) (by decide)
           have f0 := r3.frozen 0
           have f1 := r3.frozen 1
           simp at z0 z1
           have HR3 := hide r3
           clear r3
           have HK3 := hide (keeps_by kEO g3 (by simp))
           have HO3 := hide o3
           clear o3 g3))
    all_goals
      rename_i hgo hheld
      refine hgo _ _ ?_
      clear hgo hheld
    · have HS3 : Hid (PSt w2 w3.heap.size id (.slice a3 L.length c3) L (w3.alloc (.cells #[.int .i64 id, .slice a3 L.length c3] 25))) := pst_new HO3.out HK3.out
      generalize w3.heap.size = Ob at *
      generalize w3.alloc (.cells #[.int .i64 id, .slice a3 L.length c3] 25) = W at *
      have HA3 := hide HS3.out.ast
      obtain ⟨d0', d1'⟩ := HD.out _ (HK2.out.trans HS3.out.keeps)
      clear HS3 HO3 HK3 e0 e1 d0 d1 ownA ownB ownC rB rC kE kOE kEO hCa
      go_wp2_with fail
      clear d0' d1'
      go_loopw [7, 25] (fun x y wr => ∃ (k : Nat) (av : Option Addr) (cv : Nat), k ≤ ds.length ∧ x = .int .i64 ((aAll id L ((ds.map Pg.key).take k)).2.2 : Int) ∧ y = .int .i64 (k : Int) ∧ Hid (ASt w2 Ob (aAll id L ((ds.map Pg.key).take k)).1 av cv (aAll id L ((ds.map Pg.key).take k)).2.1 wr)) (fun _ y _ => ds.length - (intOf y).toNat)
      case atStart => exact ⟨0, _, _, by omega, by simp [aAll], rfl, by show ASt _ _ _ _ _ _ _; simpa [aAll] using HA3.out⟩
      case round =>
        obtain ⟨k, av, cv, hk, rfl, rfl, HS⟩ := hrel
        clear HA3
        have HKr := hide ((HKA.out.trans HK2.out).trans HS.out.keeps)
        by_cases hlt : k < ds.length
        · have hok := aAll_ok HB.out (ds.map Pg.key) k (by simp; omega)
          have hll := ledgB_lines hok.1
          have hnn := hok.2
          have HST := hide (aAll_take id L (ds.map Pg.key) k (by simp; omega))
          obtain ⟨b, off, ea, c0, c1⟩ := cell2P (HP.out.kept HKr.out) k hlt
          have HMk := hide (mem_segP (HM.out.kept HKr.out) k hlt)
          have HTk := hide (HT.out _ (List.getElem_mem hlt))
          have HKy : Hid ((ds.map Pg.key)[k]'(by simp; omega) = (ds[k].i, ds[k].b.L)) := by show _ = _; simp [Pg.key]
          rw [HKy.out] at HST
          clear HKy hok
          generalize ds[k] = x at *
          obtain ⟨xi, xa, xc, xL⟩ := x
          unfold Bl.v at c1
          dsimp only at c0 c1 HMk HTk HST
          generalize aAll id L ((ds.map Pg.key).take k) = S at *
          obtain ⟨sid, sL, sn⟩ := S
          dsimp only at HS HST hll hnn
          have HPo : Hid (∀ w', Keeps wr w' → Calls Try.prog 10 #[.agg #[.int .i64 sid, .slice av sL.length cv], .agg #[.int .i64 xi, .slice xa xL.length xc]] w' fun e w'' => PostO (pid' sid sL xi xL) (pL sid sL xi xL) (pcode sid sL xi xL) w' w'' e ∧ Keeps w' w'') := fun w' hk' => post_spec sid xi av xa cv xc sL xL w' (HS.out.own.one.kept hk') (HMk.out.kept hk') HS.out.nil (by omega) HTk.out
          have q0 := HS.out.row.cell (i := 0) (by decide)
          have q1 := HS.out.row.cell (i := 1) (by decide)
          simp at q0 q1
          have lr : Ob < wr.heap.size := HS.out.row.lt
          subst ea
          by_cases hz : pcode sid sL xi xL = 0
          · have HE : Hid (pid' sid sL xi xL = xi ∧ pL sid sL xi xL = addAll sL xL) := by show _ ∧ _; simp [pid', pL, hz]
            rw [HE.out.1, HE.out.2, hz] at HPo
            have HSt : Hid (aStep (sid, sL, sn) (xi, xL) = (xi, addAll sL xL, sn + 1)) := by show _ = _; simp [aStep, hz]
            rw [HSt.out] at HST
            clear hz HE HSt
            go_wp2_with fail
            refine (HPo.out _ (Keeps.alloc (Keeps.refl wr) _)).mono ?_
            rintro e w5 ⟨⟨a5, c5, rfl, hn5, hb5⟩, hk5⟩
            have HKp := hide (Keeps.alloc (Keeps.refl wr) (.cells #[.int .i64 xi, .slice xa xL.length xc] 27))
            have HB5 := hide hb5
            have HK5 := hide hk5
            have r5 := Keeps.row (HKp.out.trans hk5) HS.out.row
            have y0 := r5.cell (i := 0) (by decide)
            have y1 := r5.cell (i := 1) (by decide)
            have g0 := r5.frozen 0
            have g1 := r5.frozen 1
            have l5 := r5.lt
            simp at y0 y1
            have HN5 := hide hn5
            clear hb5 hk5 r5 HPo hn5
            go_wp2_with fail
            go_roundw
            case rel =>
              refine ⟨k + 1, a5, c5, by omega, by rw [HST.out]; go_num, by go_num, ?_⟩
              show ASt _ _ _ _ _ _ _
              rw [HST.out]
              exact (HS.out.put HKp.out HB5.out HK5.out HN5.out).kept (Keeps.alloc (Keeps.refl _) _)
            case measure => simp [intOf]; omega
          · have hz' : (pcode sid sL xi xL == 0) = false := by rw [beq_eq_false_iff_ne]; exact hz
            have HSt : Hid (aStep (sid, sL, sn) (xi, xL) = (sid, sL, sn)) := by show _ = _; simp [aStep, hz]
            rw [HSt.out] at HST
            clear hz HSt
            generalize pcode sid sL xi xL = rc at *
            generalize pL sid sL xi xL = R at *
            generalize pid' sid sL xi xL = rid at *
            go_wp2_with fail
            refine (HPo.out _ (Keeps.alloc (Keeps.refl wr) _)).mono ?_
            rintro e w5 ⟨⟨a5, c5, rfl, hn5, hb5⟩, hk5⟩
            have HKp := hide (Keeps.alloc ((Keeps.alloc (Keeps.refl wr) (.cells #[.int .i64 xi, .slice xa xL.length xc] 27)).trans hk5) (.cells #[.int .i64 rid, .slice a5 R.length c5] 25))
            clear hb5 hk5 HPo hn5
            go_wp2_with fail
            go_roundw
            case rel =>
              refine ⟨k + 1, av, cv, by omega, by rw [HST.out], by go_num, ?_⟩
              show ASt _ _ _ _ _ _ _
              rw [HST.out]
              exact HS.out.kept HKp.out
            case measure => simp [intOf]; omega
        · have e : k = ds.length := by omega
          subst e
          have HE : Hid (aid id L (ds.map Pg.key) = (aAll id L ((ds.map Pg.key).take ds.length)).1 ∧ aL id L (ds.map Pg.key) = (aAll id L ((ds.map Pg.key).take ds.length)).2.1 ∧ acode id L (ds.map Pg.key) = ((aAll id L ((ds.map Pg.key).take ds.length)).2.2 : Int)) := by
            show _ ∧ _
            rw [List.take_of_length_le (by simp)]
            simp [aid, aL, acode, HB.out]
          generalize aAll id L ((ds.map Pg.key).take ds.length) = S at *
          obtain ⟨sid, sL, sn⟩ := S
          dsimp only at HS HE
          have HRow := hide (Keeps.row (HK2.out.trans HS.out.keeps) HR0.out)
          have f0 := HRow.out.frozen 0
          have f1 := HRow.out.frozen 1
          have z0 := HRow.out.cell (i := 0) (by decide)
          have z1 := HRow.out.cell (i := 1) (by decide)
          have q0 := HS.out.row.cell (i := 0) (by decide)
          have q1 := HS.out.row.cell (i := 1) (by decide)
          simp at z0 z1 q0 q1
          go_wp2_with fail
          obtain ⟨o0, o1⟩ := row2_out' HRow.out (.int .i64 sid) (.slice av sL.length cv)
          have ht : Turn [w.heap.size + 1] wr ((wr.setCell ⟨w.heap.size + 1, 0, none⟩ (.int .i64 sid)).setCell ⟨w.heap.size + 1, 1, none⟩ (.slice av sL.length cv)) := (Turn.set (by simp) _).trans' (Turn.set (by simp) _)
          have hB : Born w ((wr.setCell ⟨w.heap.size + 1, 0, none⟩ (.int .i64 sid)).setCell ⟨w.heap.size + 1, 1, none⟩ (.slice av sL.length cv)) [(av, flat sL)] :=
            ⟨HS.out.own.turn ht (fun b hb hx => by have h1 := HS.out.far b hb; have h2 : b = w.heap.size + 1 := (by simpa using hx); omega), fun b hb => by have := HS.out.far b hb; omega⟩
          refine bodyPost_ret (v := .tuple #[.agg #[.int .i64 sid, .slice av sL.length cv], .int .i64 (sn : Int)]) ?_ rfl ⟨?_, Keeps.setCell (Keeps.setCell HKr.out (by show _ ≤ _ + 1; omega) _) (by show _ ≤ _ + 1; omega) _⟩
          · revert o0 o1
            clear HRow f0 f1 z0 z1 q0 q1 hB ht HS HKr
            generalize World.setCell _ _ _ = W'
            intro o0 o1
            simp [results, Try.results30, go_sem, o0, o1]
          · rw [HE.out.1, HE.out.2.1, HE.out.2.2]
            exact ⟨av, cv, rfl, HS.out.nil, hB⟩
    · have HS3 : Hid (PSt w2 (w2.heap.size + 1) id (.slice a3 L.length c3) L ((w3.setCell ⟨w2.heap.size + 1, 0, none⟩ (.int .i64 id)).setCell ⟨w2.heap.size + 1, 1, none⟩ (.slice a3 L.length c3))) := pst_set HR3.out HO3.out HK3.out (by omega)
      clear HR3 z0 z1 f0 f1
      generalize ((w3.setCell ⟨w2.heap.size + 1, 0, none⟩ (.int .i64 id)).setCell ⟨w2.heap.size + 1, 1, none⟩ (.slice a3 L.length c3)) = W at *
      clear rC ownB kOE
      generalize w2.heap.size + 1 = Ob at *
      have HA3 := hide HS3.out.ast
      obtain ⟨d0', d1'⟩ := HD.out _ (HK2.out.trans HS3.out.keeps)
      clear HS3 HO3 HK3 e0 e1 d0 d1 ownA ownC rB kE kEO hCa
      go_wp2_with fail
      clear d0' d1'
      go_loopw [7, 25] (fun x y wr => ∃ (k : Nat) (av : Option Addr) (cv : Nat), k ≤ ds.length ∧ x = .int .i64 ((aAll id L ((ds.map Pg.key).take k)).2.2 : Int) ∧ y = .int .i64 (k : Int) ∧ Hid (ASt w2 Ob (aAll id L ((ds.map Pg.key).take k)).1 av cv (aAll id L ((ds.map Pg.key).take k)).2.1 wr)) (fun _ y _ => ds.length - (intOf y).toNat)
      case atStart => exact ⟨0, _, _, by omega, by simp [aAll], rfl, by show ASt _ _ _ _ _ _ _; simpa [aAll] using HA3.out⟩
      case round =>
        obtain ⟨k, av, cv, hk, rfl, rfl, HS⟩ := hrel
        clear HA3
        have HKr := hide ((HKA.out.trans HK2.out).trans HS.out.keeps)
        by_cases hlt : k < ds.length
        · have hok := aAll_ok HB.out (ds.map Pg.key) k (by simp; omega)
          have hll := ledgB_lines hok.1
          have hnn := hok.2
          have HST := hide (aAll_take id L (ds.map Pg.key) k (by simp; omega))
          obtain ⟨b, off, ea, c0, c1⟩ := cell2P (HP.out.kept HKr.out) k hlt
          have HMk := hide (mem_segP (HM.out.kept HKr.out) k hlt)
          have HTk := hide (HT.out _ (List.getElem_mem hlt))
          have HKy : Hid ((ds.map Pg.key)[k]'(by simp; omega) = (ds[k].i, ds[k].b.L)) := by show _ = _; simp [Pg.key]
          rw [HKy.out] at HST
          clear HKy hok
          generalize ds[k] = x at *
          obtain ⟨xi, xa, xc, xL⟩ := x
          unfold Bl.v at c1
          dsimp only at c0 c1 HMk HTk HST
          generalize aAll id L ((ds.map Pg.key).take k) = S at *
          obtain ⟨sid, sL, sn⟩ := S
          dsimp only at HS HST hll hnn
          have HPo : Hid (∀ w', Keeps wr w' → Calls Try.prog 10 #[.agg #[.int .i64 sid, .slice av sL.length cv], .agg #[.int .i64 xi, .slice xa xL.length xc]] w' fun e w'' => PostO (pid' sid sL xi xL) (pL sid sL xi xL) (pcode sid sL xi xL) w' w'' e ∧ Keeps w' w'') := fun w' hk' => post_spec sid xi av xa cv xc sL xL w' (HS.out.own.one.kept hk') (HMk.out.kept hk') HS.out.nil (by omega) HTk.out
          have q0 := HS.out.row.cell (i := 0) (by decide)
          have q1 := HS.out.row.cell (i := 1) (by decide)
          simp at q0 q1
          have lr : Ob < wr.heap.size := HS.out.row.lt
          subst ea
          by_cases hz : pcode sid sL xi xL = 0
          · have HE : Hid (pid' sid sL xi xL = xi ∧ pL sid sL xi xL = addAll sL xL) := by show _ ∧ _; simp [pid', pL, hz]
            rw [HE.out.1, HE.out.2, hz] at HPo
            have HSt : Hid (aStep (sid, sL, sn) (xi, xL) = (xi, addAll sL xL, sn + 1)) := by show _ = _; simp [aStep, hz]
            rw [HSt.out] at HST
            clear hz HE HSt
            go_wp2_with fail
            refine (HPo.out _ (Keeps.alloc (Keeps.refl wr) _)).mono ?_
            rintro e w5 ⟨⟨a5, c5, rfl, hn5, hb5⟩, hk5⟩
            have HKp := hide (Keeps.alloc (Keeps.refl wr) (.cells #[.int .i64 xi, .slice xa xL.length xc] 27))
            have HB5 := hide hb5
            have HK5 := hide hk5
            have r5 := Keeps.row (HKp.out.trans hk5) HS.out.row
            have y0 := r5.cell (i := 0) (by decide)
            have y1 := r5.cell (i := 1) (by decide)
            have g0 := r5.frozen 0
            have g1 := r5.frozen 1
            have l5 := r5.lt
            simp at y0 y1
            have HN5 := hide hn5
            clear hb5 hk5 r5 HPo hn5
            go_wp2_with fail
            go_roundw
            case rel =>
              refine ⟨k + 1, a5, c5, by omega, by rw [HST.out]; go_num, by go_num, ?_⟩
              show ASt _ _ _ _ _ _ _
              rw [HST.out]
              exact (HS.out.put HKp.out HB5.out HK5.out HN5.out).kept (Keeps.alloc (Keeps.refl _) _)
            case measure => simp [intOf]; omega
          · have hz' : (pcode sid sL xi xL == 0) = false := by rw [beq_eq_false_iff_ne]; exact hz
            have HSt : Hid (aStep (sid, sL, sn) (xi, xL) = (sid, sL, sn)) := by show _ = _; simp [aStep, hz]
            rw [HSt.out] at HST
            clear hz HSt
            generalize pcode sid sL xi xL = rc at *
            generalize pL sid sL xi xL = R at *
            generalize pid' sid sL xi xL = rid at *
            go_wp2_with fail
            refine (HPo.out _ (Keeps.alloc (Keeps.refl wr) _)).mono ?_
            rintro e w5 ⟨⟨a5, c5, rfl, hn5, hb5⟩, hk5⟩
            have HKp := hide (Keeps.alloc ((Keeps.alloc (Keeps.refl wr) (.cells #[.int .i64 xi, .slice xa xL.length xc] 27)).trans hk5) (.cells #[.int .i64 rid, .slice a5 R.length c5] 25))
            clear hb5 hk5 HPo hn5
            go_wp2_with fail
            go_roundw
            case rel =>
              refine ⟨k + 1, av, cv, by omega, by rw [HST.out], by go_num, ?_⟩
              show ASt _ _ _ _ _ _ _
              rw [HST.out]
              exact HS.out.kept HKp.out
            case measure => simp [intOf]; omega
        · have e : k = ds.length := by omega
          subst e
          have HE : Hid (aid id L (ds.map Pg.key) = (aAll id L ((ds.map Pg.key).take ds.length)).1 ∧ aL id L (ds.map Pg.key) = (aAll id L ((ds.map Pg.key).take ds.length)).2.1 ∧ acode id L (ds.map Pg.key) = ((aAll id L ((ds.map Pg.key).take ds.length)).2.2 : Int)) := by
            show _ ∧ _
            rw [List.take_of_length_le (by simp)]
            simp [aid, aL, acode, HB.out]
          generalize aAll id L ((ds.map Pg.key).take ds.length) = S at *
          obtain ⟨sid, sL, sn⟩ := S
          dsimp only at HS HE
          have HRow := hide (Keeps.row (HK2.out.trans HS.out.keeps) HR0.out)
          have f0 := HRow.out.frozen 0
          have f1 := HRow.out.frozen 1
          have z0 := HRow.out.cell (i := 0) (by decide)
          have z1 := HRow.out.cell (i := 1) (by decide)
          have q0 := HS.out.row.cell (i := 0) (by decide)
          have q1 := HS.out.row.cell (i := 1) (by decide)
          simp at z0 z1 q0 q1
          go_wp2_with fail
          obtain ⟨o0, o1⟩ := row2_out' HRow.out (.int .i64 sid) (.slice av sL.length cv)
          have ht : Turn [w.heap.size + 1] wr ((wr.setCell ⟨w.heap.size + 1, 0, none⟩ (.int .i64 sid)).setCell ⟨w.heap.size + 1, 1, none⟩ (.slice av sL.length cv)) := (Turn.set (by simp) _).trans' (Turn.set (by simp) _)
          have hB : Born w ((wr.setCell ⟨w.heap.size + 1, 0, none⟩ (.int .i64 sid)).setCell ⟨w.heap.size + 1, 1, none⟩ (.slice av sL.length cv)) [(av, flat sL)] :=
            ⟨HS.out.own.turn ht (fun b hb hx => by have h1 := HS.out.far b hb; have h2 : b = w.heap.size + 1 := (by simpa using hx); omega), fun b hb => by have := HS.out.far b hb; omega⟩
          refine bodyPost_ret (v := .tuple #[.agg #[.int .i64 sid, .slice av sL.length cv], .int .i64 (sn : Int)]) ?_ rfl ⟨?_, Keeps.setCell (Keeps.setCell HKr.out (by show _ ≤ _ + 1; omega) _) (by show _ ≤ _ + 1; omega) _⟩
          · revert o0 o1
            clear HRow f0 f1 z0 z1 q0 q1 hB ht HS HKr
            generalize World.setCell _ _ _ = W'
            intro o0 o1
            simp [results, Try.results30, go_sem, o0, o1]
          · rw [HE.out.1, HE.out.2.1, HE.out.2.2]
            exact ⟨av, cv, rfl, HS.out.nil, hB⟩
    · have HS3 : Hid (PSt w2 (w2.heap.size) id (.slice a3 L.length c3) L ((w3.setCell ⟨w2.heap.size, 0, none⟩ (.int .i64 id)).setCell ⟨w2.heap.size, 1, none⟩ (.slice a3 L.length c3))) := pst_set HR3.out HO3.out HK3.out (by omega)
      clear HR3 z0 z1 f0 f1
      generalize ((w3.setCell ⟨w2.heap.size, 0, none⟩ (.int .i64 id)).setCell ⟨w2.heap.size, 1, none⟩ (.slice a3 L.length c3)) = W at *
      have HA3 := hide HS3.out.ast
      obtain ⟨d0', d1'⟩ := HD.out _ (HK2.out.trans HS3.out.keeps)
      clear HS3 HO3 HK3 e0 e1 d0 d1 ownA ownB ownC rB rC kE kOE kEO hCa
      go_wp2_with fail
      clear d0' d1'
      go_loopw [7, 25] (fun x y wr => ∃ (k : Nat) (av : Option Addr) (cv : Nat), k ≤ ds.length ∧ x = .int .i64 ((aAll id L ((ds.map Pg.key).take k)).2.2 : Int) ∧ y = .int .i64 (k : Int) ∧ Hid (ASt w2 w2.heap.size (aAll id L ((ds.map Pg.key).take k)).1 av cv (aAll id L ((ds.map Pg.key).take k)).2.1 wr)) (fun _ y _ => ds.length - (intOf y).toNat)
      case atStart => exact ⟨0, _, _, by omega, by simp [aAll], rfl, by show ASt _ _ _ _ _ _ _; simpa [aAll] using HA3.out⟩
      case round =>
        obtain ⟨k, av, cv, hk, rfl, rfl, HS⟩ := hrel
        clear HA3
        have HKr := hide ((HKA.out.trans HK2.out).trans HS.out.keeps)
        by_cases hlt : k < ds.length
        · have hok := aAll_ok HB.out (ds.map Pg.key) k (by simp; omega)
          have hll := ledgB_lines hok.1
          have hnn := hok.2
          have HST := hide (aAll_take id L (ds.map Pg.key) k (by simp; omega))
          obtain ⟨b, off, ea, c0, c1⟩ := cell2P (HP.out.kept HKr.out) k hlt
          have HMk := hide (mem_segP (HM.out.kept HKr.out) k hlt)
          have HTk := hide (HT.out _ (List.getElem_mem hlt))
          have HKy : Hid ((ds.map Pg.key)[k]'(by simp; omega) = (ds[k].i, ds[k].b.L)) := by show _ = _; simp [Pg.key]
          rw [HKy.out] at HST
          clear HKy hok
          generalize ds[k] = x at *
          obtain ⟨xi, xa, xc, xL⟩ := x
          unfold Bl.v at c1
          dsimp only at c0 c1 HMk HTk HST
          generalize aAll id L ((ds.map Pg.key).take k) = S at *
          obtain ⟨sid, sL, sn⟩ := S
          dsimp only at HS HST hll hnn
          have HPo : Hid (∀ w', Keeps wr w' → Calls Try.prog 10 #[.agg #[.int .i64 sid, .slice av sL.length cv], .agg #[.int .i64 xi, .slice xa xL.length xc]] w' fun e w'' => PostO (pid' sid sL xi xL) (pL sid sL xi xL) (pcode sid sL xi xL) w' w'' e ∧ Keeps w' w'') := fun w' hk' => post_spec sid xi av xa cv xc sL xL w' (HS.out.own.one.kept hk') (HMk.out.kept hk') HS.out.nil (by omega) HTk.out
          have q0 := HS.out.row.cell (i := 0) (by decide)
          have q1 := HS.out.row.cell (i := 1) (by decide)
          simp at q0 q1
          have lr : w2.heap.size < wr.heap.size := HS.out.row.lt
          subst ea
          by_cases hz : pcode sid sL xi xL = 0
          · have HE : Hid (pid' sid sL xi xL = xi ∧ pL sid sL xi xL = addAll sL xL) := by show _ ∧ _; simp [pid', pL, hz]
            rw [HE.out.1, HE.out.2, hz] at HPo
            have HSt : Hid (aStep (sid, sL, sn) (xi, xL) = (xi, addAll sL xL, sn + 1)) := by show _ = _; simp [aStep, hz]
            rw [HSt.out] at HST
            clear hz HE HSt
            go_wp2_with fail
            refine (HPo.out _ (Keeps.alloc (Keeps.refl wr) _)).mono ?_
            rintro e w5 ⟨⟨a5, c5, rfl, hn5, hb5⟩, hk5⟩
            have HKp := hide (Keeps.alloc (Keeps.refl wr) (.cells #[.int .i64 xi, .slice xa xL.length xc] 27))
            have HB5 := hide hb5
            have HK5 := hide hk5
            have r5 := Keeps.row (HKp.out.trans hk5) HS.out.row
            have y0 := r5.cell (i := 0) (by decide)
            have y1 := r5.cell (i := 1) (by decide)
            have g0 := r5.frozen 0
            have g1 := r5.frozen 1
            have l5 := r5.lt
            simp at y0 y1
            have HN5 := hide hn5
            clear hb5 hk5 r5 HPo hn5
            go_wp2_with fail
            go_roundw
            case rel =>
              refine ⟨k + 1, a5, c5, by omega, by rw [HST.out]; go_num, by go_num, ?_⟩
              show ASt _ _ _ _ _ _ _
              rw [HST.out]
              exact (HS.out.put HKp.out HB5.out HK5.out HN5.out).kept (Keeps.alloc (Keeps.refl _) _)
            case measure => simp [intOf]; omega
          · have hz' : (pcode sid sL xi xL == 0) = false := by rw [beq_eq_false_iff_ne]; exact hz
            have HSt : Hid (aStep (sid, sL, sn) (xi, xL) = (sid, sL, sn)) := by show _ = _; simp [aStep, hz]
            rw [HSt.out] at HST
            clear hz HSt
            generalize pcode sid sL xi xL = rc at *
            generalize pL sid sL xi xL = R at *
            generalize pid' sid sL xi xL = rid at *
            go_wp2_with fail
            refine (HPo.out _ (Keeps.alloc (Keeps.refl wr) _)).mono ?_
            rintro e w5 ⟨⟨a5, c5, rfl, hn5, hb5⟩, hk5⟩
            have HKp := hide (Keeps.alloc ((Keeps.alloc (Keeps.refl wr) (.cells #[.int .i64 xi, .slice xa xL.length xc] 27)).trans hk5) (.cells #[.int .i64 rid, .slice a5 R.length c5] 25))
            clear hb5 hk5 HPo hn5
            go_wp2_with fail
            go_roundw
            case rel =>
              refine ⟨k + 1, av, cv, by omega, by rw [HST.out], by go_num, ?_⟩
              show ASt _ _ _ _ _ _ _
              rw [HST.out]
              exact HS.out.kept HKp.out
            case measure => simp [intOf]; omega
        · have e : k = ds.length := by omega
          subst e
          have HE : Hid (aid id L (ds.map Pg.key) = (aAll id L ((ds.map Pg.key).take ds.length)).1 ∧ aL id L (ds.map Pg.key) = (aAll id L ((ds.map Pg.key).take ds.length)).2.1 ∧ acode id L (ds.map Pg.key) = ((aAll id L ((ds.map Pg.key).take ds.length)).2.2 : Int)) := by
            show _ ∧ _
            rw [List.take_of_length_le (by simp)]
            simp [aid, aL, acode, HB.out]
          generalize aAll id L ((ds.map Pg.key).take ds.length) = S at *
          obtain ⟨sid, sL, sn⟩ := S
          dsimp only at HS HE
          have HRow := hide (Keeps.row (HK2.out.trans HS.out.keeps) HR0.out)
          have f0 := HRow.out.frozen 0
          have f1 := HRow.out.frozen 1
          have z0 := HRow.out.cell (i := 0) (by decide)
          have z1 := HRow.out.cell (i := 1) (by decide)
          have q0 := HS.out.row.cell (i := 0) (by decide)
          have q1 := HS.out.row.cell (i := 1) (by decide)
          simp at z0 z1 q0 q1
          go_wp2_with fail
          obtain ⟨o0, o1⟩ := row2_out' HRow.out (.int .i64 sid) (.slice av sL.length cv)
          have ht : Turn [w.heap.size + 1] wr ((wr.setCell ⟨w.heap.size + 1, 0, none⟩ (.int .i64 sid)).setCell ⟨w.heap.size + 1, 1, none⟩ (.slice av sL.length cv)) := (Turn.set (by simp) _).trans' (Turn.set (by simp) _)
          have hB : Born w ((wr.setCell ⟨w.heap.size + 1, 0, none⟩ (.int .i64 sid)).setCell ⟨w.heap.size + 1, 1, none⟩ (.slice av sL.length cv)) [(av, flat sL)] :=
            ⟨HS.out.own.turn ht (fun b hb hx => by have h1 := HS.out.far b hb; have h2 : b = w.heap.size + 1 := (by simpa using hx); omega), fun b hb => by have := HS.out.far b hb; omega⟩
          refine bodyPost_ret (v := .tuple #[.agg #[.int .i64 sid, .slice av sL.length cv], .int .i64 (sn : Int)]) ?_ rfl ⟨?_, Keeps.setCell (Keeps.setCell HKr.out (by show _ ≤ _ + 1; omega) _) (by show _ ≤ _ + 1; omega) _⟩
          · revert o0 o1
            clear HRow f0 f1 z0 z1 q0 q1 hB ht HS HKr
            generalize World.setCell _ _ _ = W'
            intro o0 o1
            simp [results, Try.results30, go_sem, o0, o1]
          · rw [HE.out.1, HE.out.2.1, HE.out.2.2]
            exact ⟨av, cv, rfl, HS.out.nil, hB⟩
end Go.Proofs.Ytecjjkgdgmjgmaa
