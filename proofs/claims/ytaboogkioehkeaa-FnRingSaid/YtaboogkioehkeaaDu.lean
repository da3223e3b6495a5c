/- A graph and numbers, drawn. -/
import Derived.Test.YtaboogkioehkeaaDv
import Derived.Test.YtaboogkioehkeaaDx
namespace Go.Proofs.Ytaboogkioehkeaa
open Go.RowKit Go.Deep
set_option linter.unusedVariables false
set_option linter.unusedSimpArgs false
set_option maxRecDepth 10000

structure BoS (B0 B : Nat) (a : Option Addr) (len cap : Nat) (w wr : World) (G : Nat) (nn : Int) (ea : Option Addr) (ec : Nat) (E : List Edg) (fa : Option Addr) (fc : Nat) (f : List Int) : Prop where
  dr : Dr B0 B a len cap wr
  tu : Turn [B] w wr
  bx : GrAt wr G ⟨nn, ea, ec, E⟩
  rs : ∃ f0, wr.rowIs w.heap.size 25 2 f0
  me : Mem wr [(ea, egs E)]
  nE : ∀ b ∈ fp [(ea, egs E)], w.heap.size < b ∧ b < G
  ow : OwnsI wr (G + 1) (.slice fa f.length fc) f
  lt : w.heap.size < G ∧ G < wr.heap.size
  nB : B < w.heap.size
/-- What is answered: a graph and numbers. -/
def BoRes (w V : World) (e : Ending) : Prop := ∃ (nn : Int) (ea : Option Addr) (ec : Nat) (E : List Edg) (fa : Option Addr) (fc : Nat) (f : List Int), e = .returned (.tuple #[.agg #[.int .i64 nn, .slice ea E.length ec], .slice fa f.length fc]) ∧ E.length ≤ 12 ∧ f.length ≤ 61 ∧ Mem V [(ea, egs E), (fa, its f)] ∧ ∀ b ∈ fp [(ea, egs E), (fa, its f)], w.heap.size < b
theorem fpI {w : World} {base : Nat} {fa : Option Addr} {fc : Nat} {f : List Int} (h : OwnsI w base (.slice fa f.length fc) f) : ∀ b ∈ fp [(fa, its f)], base ≤ b ∧ b < w.heap.size := by
  intro b hb
  rw [fp_one] at hb
  by_cases h0 : its f = []
  · simp [fpS, h0] at hb
  · rcases h.2 with ⟨e, hz⟩ | ⟨g, cap, cur, e, h3⟩
    · have : f = [] := List.length_eq_zero_iff.1 hz
      exact absurd (its_nil.2 this) h0
    · injection e with e1
      subst e1
      rw [fpS_some h0] at hb
      simp at hb
      subst hb
      exact h.lt b rfl
theorem BoS.turn {B0 B : Nat} {a : Option Addr} {len cap : Nat} {w wr w' : World} {G : Nat} {nn : Int} {ea : Option Addr} {ec : Nat} {E : List Edg} {fa : Option Addr} {fc : Nat} {f : List Int} (h : BoS B0 B a len cap w wr G nn ea ec E fa fc f) (hd : Dr B0 B a len cap w') (ht : Turn [B] wr w') : BoS B0 B a len cap w w' G nn ea ec E fa fc f := by
  have h1 := h.lt
  have h2 := h.nB
  obtain ⟨f0, hf⟩ := h.rs
  exact ⟨hd, h.tu.trans' ht, ⟨ht.cell (by simp; omega) h.bx.1, ht.cell (by simp; omega) h.bx.2⟩, ⟨f0, hf.of_block (ht.block _ hf.lt (by simp; omega))⟩, h.me.turn ht (fun b hb hx => by have := (h.nE b hb).1; simp at hx; omega), h.nE, owns_turn h.ow (fun j hj => ht.block j (h.ow.lt j hj).2 (by have := (h.ow.lt j hj).1; simp; omega)), ⟨h1.1, Nat.lt_of_lt_of_le h1.2 ht.size⟩, h.nB⟩
/-- The numbers are others, at a block of theirs. -/
theorem BoS.nums {B0 B : Nat} {a : Option Addr} {len cap : Nat} {w wr w' : World} {G g : Nat} {nn : Int} {ea : Option Addr} {ec : Nat} {E : List Edg} {fa fa' : Option Addr} {fc fc' : Nat} {f f' : List Int} (h : BoS B0 B a len cap w wr G nn ea ec E fa fc f) (ht : Turn [g] wr w') (hg : G + 1 ≤ g) (ho : OwnsI w' (G + 1) (.slice fa' f'.length fc') f') : BoS B0 B a len cap w w' G nn ea ec E fa' fc' f' := by
  have h1 := h.lt
  have h2 := h.nB
  have h3 := h.dr.le
  obtain ⟨f0, hf⟩ := h.rs
  exact ⟨h.dr.turned ht (by simp; omega) (by simp; omega), turn_more h.tu ht (by simp; omega), ⟨ht.cell (by simp; omega) h.bx.1, ht.cell (by simp; omega) h.bx.2⟩, ⟨f0, hf.of_block (ht.block _ hf.lt (by simp; omega))⟩, h.me.turn ht (fun b hb hx => by have := (h.nE b hb).2; simp at hx; omega), h.nE, ho, ⟨h1.1, Nat.lt_of_lt_of_le h1.2 ht.size⟩, h.nB⟩
theorem BoS.some_at {B0 B : Nat} {a : Option Addr} {len cap : Nat} {w wr : World} {G : Nat} {nn : Int} {ea : Option Addr} {ec : Nat} {E : List Edg} {fa : Option Addr} {fc : Nat} {f : List Int} (h : BoS B0 B a len cap w wr G nn ea ec E fa fc f) (hf : 0 < f.length) : ∃ g, fa = some ⟨g, 0, none⟩ := by
  rcases h.ow.2 with ⟨_, hz⟩ | ⟨g, cap, cur, e, _⟩
  · omega
  · injection e with e1
    exact ⟨g, e1⟩
theorem BoS.setF {B0 B : Nat} {a : Option Addr} {len cap : Nat} {w wr : World} {G g : Nat} {nn : Int} {ea : Option Addr} {ec : Nat} {E : List Edg} {fc : Nat} {f : List Int} (h : BoS B0 B a len cap w wr G nn ea ec E (some ⟨g, 0, none⟩) fc f) (i : Nat) (hi : i < f.length) (z : Int) :
    wr.cell? ⟨g, i, none⟩ = some (.int .i64 f[i]) ∧ wr.frozen? ⟨g, i, none⟩ = false ∧ BoS B0 B a len cap w (wr.setCell ⟨g, i, none⟩ (.int .i64 z)) G nn ea ec E (some ⟨g, 0, none⟩) fc (f.set i z) := by
  have hg := (h.ow.lt g rfl).1
  refine ⟨by rw [h.ow.cellAt i (by omega)]; simp [its, hi], h.ow.frozenAt i, ?_⟩
  refine h.nums (g := g) (Turn.set (by simp) _) hg ?_
  have hs := (h.ow.stored i (.int .i64 z)).1
  unfold OwnsI
  rw [List.length_set]
  have e : (its f).set i (.int .i64 z) = its (f.set i z) := by simp [its, List.map_set]
  rw [← e]
  exact hs
theorem BoS.app {B0 B : Nat} {a : Option Addr} {len cap : Nat} {w wr W5 w' : World} {G : Nat} {nn : Int} {ea : Option Addr} {ec : Nat} {E : List Edg} {fa : Option Addr} {fc : Nat} {f : List Int} {x : Int} {v' : Value} (h : BoS B0 B a len cap w wr G nn ea ec E fa fc f) (hk : Keeps wr W5) (ho : OwnsI w' (G + 1) v' (f ++ [x])) (hg : W5.grownBy w' (Value.ownBlock (.slice fa f.length fc))) :
    ∃ fa' fc', v' = .slice fa' (f.length + 1) fc' ∧ BoS B0 B a len cap w w' G nn ea ec E fa' fc' (f ++ [x]) := by
  obtain ⟨ho1, ho2⟩ := ho
  rcases ho2 with ⟨_, hz⟩ | ⟨g', cap', cur, e, ho3⟩
  · simp at hz
  have hl1 : (f ++ [x]).length = f.length + 1 := by simp
  refine ⟨some ⟨g', 0, none⟩, cap', by rw [e, hl1], ?_⟩
  have hown : OwnsI w' (G + 1) (.slice (some ⟨g', 0, none⟩) (f ++ [x]).length cap') (f ++ [x]) := ⟨ho1, .inr ⟨g', cap', cur, rfl, ho3⟩⟩
  cases hb : Value.ownBlock (.slice fa f.length fc) with
  | none =>
    rw [hb] at hg
    have ht : Turn [G + 1] wr w' := (Turn.of_keeps hk _).trans' (Turn.of_grown hg (fun k hk => by cases hk))
    exact h.nums ht (Nat.le_refl _) hown
  | some g =>
    rw [hb] at hg
    have ht : Turn [g] wr w' := (Turn.of_keeps hk _).trans' (Turn.of_grown hg (fun k hk => by cases hk; simp))
    exact h.nums ht (h.ow.lt g hb).1 hown
theorem BoS.fin {B0 B : Nat} {a : Option Addr} {len cap : Nat} {w wr V : World} {G : Nat} {nn : Int} {ea : Option Addr} {ec : Nat} {E : List Edg} {fa : Option Addr} {fc : Nat} {f : List Int} {f0 : Nat → Value} (h : BoS B0 B a len cap w wr G nn ea ec E fa fc f) (hf : wr.rowIs w.heap.size 25 2 f0) (hel : E.length ≤ 12) (hfl : f.length ≤ 61) (hV : V = (wr.setCell ⟨w.heap.size, 0, none⟩ (.int .i64 nn)).setCell ⟨w.heap.size, 1, none⟩ (.slice ea E.length ec)) :
    (V.cell? ⟨w.heap.size, 0, none⟩ = some (.int .i64 nn) ∧ V.cell? ⟨w.heap.size, 1, none⟩ = some (.slice ea E.length ec)) ∧ BoRes w V (.returned (.tuple #[.agg #[.int .i64 nn, .slice ea E.length ec], .slice fa f.length fc])) ∧ Dr B0 B a len cap V ∧ Turn [B] w V := by
  have h1 := h.lt
  have h2 := h.nB
  have h3 := h.dr.le
  have ht : Turn [w.heap.size] wr ((wr.setCell ⟨w.heap.size, 0, none⟩ (.int .i64 nn)).setCell ⟨w.heap.size, 1, none⟩ (.slice ea E.length ec)) := (Turn.set (by simp) _).trans' (Turn.set (by simp) _)
  have hr := (hf.set 0 (.int .i64 nn)).set 1 (.slice ea E.length ec)
  have p0 := hr.cell (i := 0) (by decide)
  have p1 := hr.cell (i := 1) (by decide)
  simp only [if_true, if_false, show ¬ (0 : Nat) = 1 by decide] at p0 p1
  rw [← hV] at p0 p1 ht
  have hnf : ∀ b ∈ fp [(ea, egs E), (fa, its f)], w.heap.size < b := fun b hb => by
    rw [fp_cons] at hb
    rcases List.mem_append.1 hb with hb | hb
    · exact (h.nE b (by rw [fp_one]; exact hb)).1
    · have := (fpI h.ow b hb).1; omega
  have hme : Mem wr [(ea, egs E), (fa, its f)] := mem_cons.2 ⟨h.me (ea, egs E) (by simp), mem_cons.2 ⟨cellsI h.ow, Mem.nil _⟩⟩
  exact ⟨⟨p0, p1⟩, ⟨nn, ea, ec, E, fa, fc, f, rfl, hel, hfl, hme.turn ht (fun b hb hx => by have := hnf b hb; simp at hx; omega), hnf⟩, h.dr.turned ht (by simp; omega) (by simp; omega), turn_more h.tu ht (by simp)⟩
set_option maxHeartbeats 16000000 in
theorem both_any {B0 B : Nat} {a : Option Addr} {len cap : Nat} {w : World} (s : Dr B0 B a len cap w) :
    Calls Try.prog 44 #[.pointer (some ⟨B, 0, none⟩)] w fun e w' => BoRes w w' e ∧ Dr B0 B a len cap w' ∧ Turn [B] w w' := by
  have hBw := s.lt
  have hBle := s.le
  have HK0 := hide (Keeps.alloc (Keeps.refl w) (.cells #[.int .i64 0, .slice none 0 0] 25))
  have HR0 := hide (World.rowIs_alloc w #[.int .i64 0, .slice none 0 0] 25 (row2 (.int .i64 0) (.slice none 0 0)) (row2_at _ _))
  have HZ0 : Hid ((w.alloc (.cells #[.int .i64 0, .slice none 0 0] 25)).heap.size = w.heap.size + 1) := by show _ = _; simp
  have HD := hide (s.turned (Turn.of_keeps HK0.out []) (by simp) (by simp))
  clear s
  go_enter Try.func44, Try.ntmps44
  go_upto_region 1 with fail
  generalize w.alloc (.cells #[.int .i64 0, .slice none 0 0] 25) = W0 at *
  have HR0 : Hid (W0.rowIs w.heap.size 25 2 (row2 (.int .i64 0) (.slice none 0 0))) := HR0.out
  go_wp2_with fail
  refine (anyg_any HD.out).mono ?_
  rintro e w1 ⟨⟨nn, ea, ec, E, rfl, hel12, hen, hb⟩, hd, ht⟩
  have HR1 := hide (HR0.out.of_block (ht.block _ HR0.out.lt (by simp; omega)))
  have HT1 : Hid (Turn [B] w w1) := (Turn.of_keeps HK0.out _).trans' ht
  have HBO := hide hb
  have HLT := hide hb.toOwn.mem.lt
  replace HD := hide hd
  clear hd ht HR0 HK0 hb hen
  have hmk := make_ints E.length (by omega)
  go_upto_region 2 with fail
  have HK1 := hide (Keeps.alloc (Keeps.refl w1) (.cells #[.int .i64 nn, .slice ea E.length ec] 25))
  have HBX := hide (gr_box ⟨nn, ea, ec, E⟩ w1 25)
  have HZ1 : Hid ((w1.alloc (.cells #[.int .i64 nn, .slice ea E.length ec] 25)).heap.size = w1.heap.size + 1) := by show _ = _; simp
  generalize w1.alloc (.cells #[.int .i64 nn, .slice ea E.length ec] 25) = W2 at *
  obtain ⟨q0, q1⟩ := HBX.out
  dsimp only at q0 q1
  go_upto_region 3 with fail
  have HK2 := hide (Keeps.alloc (Keeps.refl W2) (.cells (madeCells #[.int .i64 0] E.length) 3))
  have HRF := hide (World.rowIs_made W2 (.int .i64 0) E.length 3)
  have HWL : Hid (w.heap.size < w1.heap.size) := HR1.out.lt
  generalize W2.alloc (.cells (madeCells #[.int .i64 0] E.length) 3) = W3 at *
  have HL0 : Hid ((List.replicate E.length (0 : Int)).length = E.length) := by show _ = _; simp
  have HS : Hid (BoS B0 B a len cap w W3 w1.heap.size nn ea ec E (some ⟨W2.heap.size, 0, none⟩) E.length (List.replicate E.length 0)) :=
    ⟨HD.out.turned (Turn.of_keeps (HK1.out.trans HK2.out) []) (by simp) (by simp), HT1.out.trans' (Turn.of_keeps (HK1.out.trans HK2.out) _), HBX.out.kept HK2.out, ⟨_, (HK1.out.trans HK2.out).rowK HR1.out⟩, HBO.out.toOwn.mem.kept (HK1.out.trans HK2.out), fun b hb => ⟨by have := HBO.out.new b hb; have := HZ0.out; omega, HLT.out b hb⟩, owns_row HRF.out (by simp) (fun j hj => by simp) (by rw [HZ1.out]; exact Nat.le_refl _) (by omega), ⟨HWL.out, by have := HK2.out.size; have := HZ1.out; omega⟩, hBw⟩
  obtain ⟨G, hG⟩ : ∃ G, G = w1.heap.size := ⟨_, rfl⟩
  rw [← hG] at HS
  rw [← hG]
  obtain ⟨F, hF⟩ : ∃ F, F = W2.heap.size := ⟨_, rfl⟩
  rw [← hF] at HS
  rw [← hF]
  clear hG hF HRF HK1 HK2 HR1 HT1 HD HBO HLT HZ0 HZ1 HWL HBX q0 q1 hmk
  have HGC := hide (graph_spec ⟨nn, ea, ec, E⟩ W3 HS.out.me (by show E.length ≤ 1048576; omega))
  dsimp only [Gf.v] at HGC
  obtain ⟨q0, q1⟩ := HS.out.bx
  dsimp only at q0 q1
  go_wp2_with fail
  refine (unhide HGC).mono ?_
  rintro e w4 ⟨rfl, hk⟩
  replace HS := hide (HS.out.turn (HS.out.dr.turned (Turn.of_keeps hk []) (by simp) (by simp)) (Turn.of_keeps hk _))
  clear hk HGC q0 q1
  cases hgb : graphB nn E
  · clear hgb
    obtain ⟨fa, hfa⟩ : ∃ fa, fa = some (⟨F, 0, none⟩ : Addr) := ⟨_, rfl⟩
    obtain ⟨fc, hfc⟩ : ∃ fc, fc = E.length := ⟨_, rfl⟩
    obtain ⟨f, hf⟩ : ∃ f, f = List.replicate E.length (0 : Int) := ⟨_, rfl⟩
    have hf60 : f.length ≤ 60 := by rw [hf, HL0.out]; omega
    have hsl : Value.slice (some ⟨F, 0, none⟩) E.length E.length = .slice fa f.length fc := by rw [hfa, hfc, hf, HL0.out]
    rw [hsl]
    rw [← hf, ← hfa, ← hfc] at HS
    clear hfa hfc hf hsl
    go_wp2_with fail
    refine (below_t 8 HS.out.dr (by decide) (by decide)).mono ?_
    rintro e w8 ⟨⟨k, k0, k1, rfl⟩, hd, ht⟩
    replace HS := hide (HS.out.turn hd ht)
    clear hd ht
    go_upto_region 6 with fail
    rcases (show k = 0 ∨ k = 1 ∨ 2 ≤ k by omega) with rfl | rfl | hk2
    · by_cases hfl : 0 < f.length
      · have hfl1 : (0 : Int) < (f.length : Int) := by omega
        go_upto_region 7 with fail
        go_wp2_with fail
        refine (below_t (f.length : Int) HS.out.dr (by omega) (by omega)).mono ?_
        rintro e w9 ⟨⟨i, i0, i1, rfl⟩, hd, ht⟩
        replace HS := hide (HS.out.turn hd ht)
        clear hd ht
        go_wp2_with fail
        refine (raw_t HS.out.dr).mono ?_
        rintro e wa ⟨⟨z, rfl⟩, hd, ht⟩
        replace HS := hide (HS.out.turn hd ht)
        clear hd ht
        obtain ⟨i, rfl⟩ : ∃ n : Nat, i = (n : Int) := ⟨i.toNat, by omega⟩
        obtain ⟨g, hfa⟩ := HS.out.some_at hfl
        subst hfa
        obtain ⟨c0, fz, hS2⟩ := HS.out.setF i (by omega) z
        have lg := lt_of_cell c0
        go_upto_region 8 with fail
        replace HS := hide hS2
        clear c0 fz hS2 lg
        generalize wa.setCell ⟨g, i, none⟩ (.int .i64 z) = WQ at *
        have HLF : Hid ((f.set i z).length = f.length) := by show _ = _; simp
        rw [← HLF.out]
        have hf60' : (f.set i z).length ≤ 60 := by rw [HLF.out]; exact hf60
        generalize f.set i z = f' at *
        go_upto_region 10 with fail
        obtain ⟨q0, q1⟩ := HS.out.bx
        dsimp only at q0 q1
        obtain ⟨f0, hf0⟩ := HS.out.rs
        have r0 := hf0.cell (i := 0) (by decide)
        have r1 := hf0.cell (i := 1) (by decide)
        have z0 := hf0.frozen 0
        have z1 := hf0.frozen 1
        have lG := HS.out.lt
        go_wp2_with fail
        obtain ⟨⟨p0, p1⟩, hres⟩ := HS.out.fin hf0 hel12 (by omega) rfl
        refine bodyPost_ret (v := .tuple #[.agg #[.int .i64 nn, .slice ea E.length ec], .slice (some ⟨g, 0, none⟩) f'.length fc]) ?_ rfl hres
        clear hres q0 q1 r0 r1 z0 z1
        revert p0 p1
        generalize World.setCell (World.setCell _ _ _) _ _ = WW
        intro p0 p1
        simp [results, Try.results44, go_sem, p0, p1]
      · have hfl1 : ¬ (0 : Int) < (f.length : Int) := by omega
        go_upto_region 10 with fail
        obtain ⟨q0, q1⟩ := HS.out.bx
        dsimp only at q0 q1
        obtain ⟨f0, hf0⟩ := HS.out.rs
        have r0 := hf0.cell (i := 0) (by decide)
        have r1 := hf0.cell (i := 1) (by decide)
        have z0 := hf0.frozen 0
        have z1 := hf0.frozen 1
        have lG := HS.out.lt
        go_wp2_with fail
        obtain ⟨⟨p0, p1⟩, hres⟩ := HS.out.fin hf0 hel12 (by omega) rfl
        refine bodyPost_ret (v := .tuple #[.agg #[.int .i64 nn, .slice ea E.length ec], .slice fa f.length fc]) ?_ rfl hres
        clear hres q0 q1 r0 r1 z0 z1
        revert p0 p1
        generalize World.setCell (World.setCell _ _ _) _ _ = WW
        intro p0 p1
        simp [results, Try.results44, go_sem, p0, p1]
    · have HM2 := hide (its_oneR w8 0 3)
      have HK2 := hide (Keeps.alloc (Keeps.refl w8) (.cells #[.int .i64 0] 3))
      have HO2 := hide (ownsI_kept HS.out.ow HK2.out)
      have HB2 : Hid (G + 1 ≤ (w8.alloc (.cells #[.int .i64 0] 3)).heap.size) := by show _ ≤ _; have := HS.out.lt; simp; omega
      have HSK := hide HS.out
      go_upto_region 9 with fail
      go_upto_region 10 with (at_builtin; refine app_its rfl (.tmp 37) (.tmp 38) rfl (G + 1) _ f [0] rfl ⟨w8.heap.size, 0, none⟩ 1 rfl HM2.out HO2.out (by simp; omega) HB2.out ?_; intro v' w' ho hg hnn; obtain ⟨fa', fc', rfl, hS2⟩ := HSK.out.app HK2.out ho hg; have HS2 := hide hS2; clear hS2 ho hg hnn)
      clear HS HSK
      have HS := hide HS2.out
      have HLF : Hid ((f ++ [0]).length = f.length + 1) := by show _ = _; simp
      rw [← HLF.out]
      have hf61 : (f ++ [0]).length ≤ 61 := by rw [HLF.out]; omega
      clear HS2
      generalize f ++ [0] = f' at *
      obtain ⟨q0, q1⟩ := HS.out.bx
      dsimp only at q0 q1
      obtain ⟨f0, hf0⟩ := HS.out.rs
      have r0 := hf0.cell (i := 0) (by decide)
      have r1 := hf0.cell (i := 1) (by decide)
      have z0 := hf0.frozen 0
      have z1 := hf0.frozen 1
      have lG := HS.out.lt
      go_wp2_with fail
      obtain ⟨⟨p0, p1⟩, hres⟩ := HS.out.fin hf0 hel12 (by omega) rfl
      refine bodyPost_ret (v := .tuple #[.agg #[.int .i64 nn, .slice ea E.length ec], .slice fa' f'.length fc']) ?_ rfl hres
      clear hres q0 q1 r0 r1 z0 z1
      revert p0 p1
      generalize World.setCell (World.setCell _ _ _) _ _ = WW
      intro p0 p1
      simp [results, Try.results44, go_sem, p0, p1]
    · have q2 : (k == 0) = false := by simp; omega
      have q3 : (k == 1) = false := by simp; omega
      go_upto_region 10 with fail
      obtain ⟨q0, q1⟩ := HS.out.bx
      dsimp only at q0 q1
      obtain ⟨f0, hf0⟩ := HS.out.rs
      have r0 := hf0.cell (i := 0) (by decide)
      have r1 := hf0.cell (i := 1) (by decide)
      have z0 := hf0.frozen 0
      have z1 := hf0.frozen 1
      have lG := HS.out.lt
      go_wp2_with fail
      obtain ⟨⟨p0, p1⟩, hres⟩ := HS.out.fin hf0 hel12 (by omega) rfl
      refine bodyPost_ret (v := .tuple #[.agg #[.int .i64 nn, .slice ea E.length ec], .slice fa f.length fc]) ?_ rfl hres
      clear hres q0 q1 r0 r1 z0 z1
      revert p0 p1
      generalize World.setCell (World.setCell _ _ _) _ _ = WW
      intro p0 p1
      simp [results, Try.results44, go_sem, p0, p1]
  · clear hgb
    have HFC := hide (flow_own HS.out.dr nn ea ec E HS.out.me (fun b hb hx => by have := (HS.out.nE b hb).1; simp at hx; omega) hel12)
    obtain ⟨q0, q1⟩ := HS.out.bx
    dsimp only at q0 q1
    go_wp2_with fail
    refine (unhide HFC).mono ?_
    rintro e w5 ⟨⟨fa, fc, f, rfl, hf60, hfn, ho5⟩, hd5, ht5⟩
    have HO5 := hide (ownsI_mono ho5 HS.out.lt.2)
    have HS5 := hide (HS.out.turn hd5 ht5)
    clear hd5 ht5 ho5 hfn HFC q0 q1
    replace HS : Hid (BoS B0 B a len cap w w5 G nn ea ec E fa fc f) := ⟨HS5.out.dr, HS5.out.tu, HS5.out.bx, HS5.out.rs, HS5.out.me, HS5.out.nE, HO5.out, HS5.out.lt, HS5.out.nB⟩
    clear HS5 HO5
    go_wp2_with fail
    refine (below_t 8 HS.out.dr (by decide) (by decide)).mono ?_
    rintro e w8 ⟨⟨k, k0, k1, rfl⟩, hd, ht⟩
    replace HS := hide (HS.out.turn hd ht)
    clear hd ht
    go_upto_region 6 with fail
    rcases (show k = 0 ∨ k = 1 ∨ 2 ≤ k by omega) with rfl | rfl | hk2
    · by_cases hfl : 0 < f.length
      · have hfl1 : (0 : Int) < (f.length : Int) := by omega
        go_upto_region 7 with fail
        go_wp2_with fail
        refine (below_t (f.length : Int) HS.out.dr (by omega) (by omega)).mono ?_
        rintro e w9 ⟨⟨i, i0, i1, rfl⟩, hd, ht⟩
        replace HS := hide (HS.out.turn hd ht)
        clear hd ht
        go_wp2_with fail
        refine (raw_t HS.out.dr).mono ?_
        rintro e wa ⟨⟨z, rfl⟩, hd, ht⟩
        replace HS := hide (HS.out.turn hd ht)
        clear hd ht
        obtain ⟨i, rfl⟩ : ∃ n : Nat, i = (n : Int) := ⟨i.toNat, by omega⟩
        obtain ⟨g, hfa⟩ := HS.out.some_at hfl
        subst hfa
        obtain ⟨c0, fz, hS2⟩ := HS.out.setF i (by omega) z
        have lg := lt_of_cell c0
        go_upto_region 8 with fail
        replace HS := hide hS2
        clear c0 fz hS2 lg
        generalize wa.setCell ⟨g, i, none⟩ (.int .i64 z) = WQ at *
        have HLF : Hid ((f.set i z).length = f.length) := by show _ = _; simp
        rw [← HLF.out]
        have hf60' : (f.set i z).length ≤ 60 := by rw [HLF.out]; exact hf60
        generalize f.set i z = f' at *
        go_upto_region 10 with fail
        obtain ⟨q0, q1⟩ := HS.out.bx
        dsimp only at q0 q1
        obtain ⟨f0, hf0⟩ := HS.out.rs
        have r0 := hf0.cell (i := 0) (by decide)
        have r1 := hf0.cell (i := 1) (by decide)
        have z0 := hf0.frozen 0
        have z1 := hf0.frozen 1
        have lG := HS.out.lt
        go_wp2_with fail
        obtain ⟨⟨p0, p1⟩, hres⟩ := HS.out.fin hf0 hel12 (by omega) rfl
        refine bodyPost_ret (v := .tuple #[.agg #[.int .i64 nn, .slice ea E.length ec], .slice (some ⟨g, 0, none⟩) f'.length fc]) ?_ rfl hres
        clear hres q0 q1 r0 r1 z0 z1
        revert p0 p1
        generalize World.setCell (World.setCell _ _ _) _ _ = WW
        intro p0 p1
        simp [results, Try.results44, go_sem, p0, p1]
      · have hfl1 : ¬ (0 : Int) < (f.length : Int) := by omega
        go_upto_region 10 with fail
        obtain ⟨q0, q1⟩ := HS.out.bx
        dsimp only at q0 q1
        obtain ⟨f0, hf0⟩ := HS.out.rs
        have r0 := hf0.cell (i := 0) (by decide)
        have r1 := hf0.cell (i := 1) (by decide)
        have z0 := hf0.frozen 0
        have z1 := hf0.frozen 1
        have lG := HS.out.lt
        go_wp2_with fail
        obtain ⟨⟨p0, p1⟩, hres⟩ := HS.out.fin hf0 hel12 (by omega) rfl
        refine bodyPost_ret (v := .tuple #[.agg #[.int .i64 nn, .slice ea E.length ec], .slice fa f.length fc]) ?_ rfl hres
        clear hres q0 q1 r0 r1 z0 z1
        revert p0 p1
        generalize World.setCell (World.setCell _ _ _) _ _ = WW
        intro p0 p1
        simp [results, Try.results44, go_sem, p0, p1]
    · have HM2 := hide (its_oneR w8 0 3)
      have HK2 := hide (Keeps.alloc (Keeps.refl w8) (.cells #[.int .i64 0] 3))
      have HO2 := hide (ownsI_kept HS.out.ow HK2.out)
      have HB2 : Hid (G + 1 ≤ (w8.alloc (.cells #[.int .i64 0] 3)).heap.size) := by show _ ≤ _; have := HS.out.lt; simp; omega
      have HSK := hide HS.out
      go_upto_region 9 with fail
      go_upto_region 10 with (at_builtin; refine app_its rfl (.tmp 37) (.tmp 38) rfl (G + 1) _ f [0] rfl ⟨w8.heap.size, 0, none⟩ 1 rfl HM2.out HO2.out (by simp; omega) HB2.out ?_; intro v' w' ho hg hnn; obtain ⟨fa', fc', rfl, hS2⟩ := HSK.out.app HK2.out ho hg; have HS2 := hide hS2; clear hS2 ho hg hnn)
      clear HS HSK
      have HS := hide HS2.out
      have HLF : Hid ((f ++ [0]).length = f.length + 1) := by show _ = _; simp
      rw [← HLF.out]
      have hf61 : (f ++ [0]).length ≤ 61 := by rw [HLF.out]; omega
      clear HS2
      generalize f ++ [0] = f' at *
      obtain ⟨q0, q1⟩ := HS.out.bx
      dsimp only at q0 q1
      obtain ⟨f0, hf0⟩ := HS.out.rs
      have r0 := hf0.cell (i := 0) (by decide)
      have r1 := hf0.cell (i := 1) (by decide)
      have z0 := hf0.frozen 0
      have z1 := hf0.frozen 1
      have lG := HS.out.lt
      go_wp2_with fail
      obtain ⟨⟨p0, p1⟩, hres⟩ := HS.out.fin hf0 hel12 (by omega) rfl
      refine bodyPost_ret (v := .tuple #[.agg #[.int .i64 nn, .slice ea E.length ec], .slice fa' f'.length fc']) ?_ rfl hres
      clear hres q0 q1 r0 r1 z0 z1
      revert p0 p1
      generalize World.setCell (World.setCell _ _ _) _ _ = WW
      intro p0 p1
      simp [results, Try.results44, go_sem, p0, p1]
    · have q2 : (k == 0) = false := by simp; omega
      have q3 : (k == 1) = false := by simp; omega
      go_upto_region 10 with fail
      obtain ⟨q0, q1⟩ := HS.out.bx
      dsimp only at q0 q1
      obtain ⟨f0, hf0⟩ := HS.out.rs
      have r0 := hf0.cell (i := 0) (by decide)
      have r1 := hf0.cell (i := 1) (by decide)
      have z0 := hf0.frozen 0
      have z1 := hf0.frozen 1
      have lG := HS.out.lt
      go_wp2_with fail
      obtain ⟨⟨p0, p1⟩, hres⟩ := HS.out.fin hf0 hel12 (by omega) rfl
      refine bodyPost_ret (v := .tuple #[.agg #[.int .i64 nn, .slice ea E.length ec], .slice fa f.length fc]) ?_ rfl hres
      clear hres q0 q1 r0 r1 z0 z1
      revert p0 p1
      generalize World.setCell (World.setCell _ _ _) _ _ = WW
      intro p0 p1
      simp [results, Try.results44, go_sem, p0, p1]
end Go.Proofs.Ytaboogkioehkeaa
