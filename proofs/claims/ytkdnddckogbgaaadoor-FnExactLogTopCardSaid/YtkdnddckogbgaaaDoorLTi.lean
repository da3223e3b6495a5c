/- LogTop of the program. -/
import Derived.Test.YtkdnddckogbgaaaDoorLgM
namespace Go.Proofs.YtkdnddckogbgaaaDoor
open Go.RowKit Go.Deep Go.Shelf
set_option linter.unusedVariables false
set_option maxRecDepth 10000
attribute [local go_sem] Oper.semAt_some

theorem all_make (ca : Option Addr) (cc : Nat) (cs : List Bs) (da : Option Addr) (dc : Nat) (ds : List Wr) (w : World) :
    Calls Tryd.prog 37 #[dskV ca cs.length cc da ds.length dc] w fun e w' => e = .returned (.func (.func 52) #[] #[.pointer (some ⟨w.heap.size, 0, none⟩)]) ∧ w' = w.alloc (.cells #[.slice ca cs.length cc, .slice da ds.length dc] 33) := by
  have hmf : ∀ (fn : Fn) (first cap : Array Value) (w : World), (Instr.makeFunc fn first cap).run Tryd.prog w = .ok (.func fn first cap) w := fun _ _ _ _ => rfl
  go_enter Tryd.func37, Tryd.ntmps37
  go_wp2_with fail
  go_ret
  exact ⟨rfl, rfl⟩
theorem AllAt.turn {Bx : Nat} {ca : Option Addr} {cc : Nat} {cs : List Bs} {da : Option Addr} {dc : Nat} {ds : List Wr} {u : TypeId} {pv : Value} {W W' : World} (h : AllAt Bx ca cc cs da dc ds u pv W) {fs : List Nat} (ht : Turn fs W W') (h1 : Bx ∉ fs) (h2 : ∀ x ∈ fp (dsk ca cs da ds), x ∉ fs) (h3 : 0 ∉ fs) : AllAt Bx ca cc cs da dc ds u pv W' :=
  ⟨ht.cell h1 h.1, ht.cell h1 h.2.1, h.2.2.1.turn ht h2, ht.cell h3 h.2.2.2⟩
/-- Between two rounds of LogTop. -/
structure TopI (w : World) (ca : Option Addr) (cc : Nat) (cs : List Bs) (da : Option Addr) (dc : Nat) (ds : List Wr) (u : TypeId) (pv : Value) (k : Nat) (W : World) : Prop where
  at_ : AllAt (w.heap.size + 1 + 1) ca cc cs da dc ds u pv W
  top : W.cell? ⟨w.heap.size + 1, 0, none⟩ = some (.int .i64 (topTo (dat cs ds) k))
  free : W.frozen? ⟨w.heap.size + 1, 0, none⟩ = false
  kept : Keeps w W
  size : w.heap.size + 3 ≤ W.heap.size
theorem TopI.turn {w : World} {ca : Option Addr} {cc : Nat} {cs : List Bs} {da : Option Addr} {dc : Nat} {ds : List Wr} {u : TypeId} {pv : Value} {k : Nat} {W W' : World} (h : TopI w ca cc cs da dc ds u pv k W) {fs : List Nat} (ht : Turn fs W W') (hb : ∀ x ∈ fs, w.heap.size + 3 ≤ x) (h2 : ∀ x ∈ fp (dsk ca cs da ds), x < w.heap.size) (h3 : 0 < w.heap.size) : TopI w ca cc cs da dc ds u pv k W' :=
  ⟨h.at_.turn ht (fun hx => by have := hb _ hx; omega) (fun x hx hy => by have := h2 x hx; have := hb _ hy; omega) (fun hx => by have := hb _ hx; omega),
   ht.cell (fun hx => by have := hb _ hx; dsimp only at this; omega) h.top,
   by rw [← h.free]; exact World.frozen?_of_block (ht.block _ (by have := h.size; show w.heap.size + 1 < _; omega) (fun hx => by have := hb _ hx; dsimp only at this; omega)),
   ht.keeps h.kept (fun x hx => by have := hb x hx; omega), Nat.le_trans h.size ht.size⟩
theorem TopI.later {w : World} {ca : Option Addr} {cc : Nat} {cs : List Bs} {da : Option Addr} {dc : Nat} {ds : List Wr} {u : TypeId} {pv : Value} {k : Nat} {W W' : World} (h : TopI w ca cc cs da dc ds u pv k W) (ht : Keeps W W') : TopI w ca cc cs da dc ds u pv k W' :=
  ⟨h.at_.kept ht, ht.cell h.top, by rw [ht.oldF _ _ (by have := h.size; omega)]; exact h.free, h.kept.trans ht, Nat.le_trans h.size ht.size⟩
set_option maxHeartbeats 8000000 in
theorem logtop_impl (ca : Option Addr) (cc : Nat) (cs : List Bs) (da : Option Addr) (dc : Nat) (ds : List Wr) (w : World) (u : TypeId) (pv : Value) (hv : w.cell? ⟨0, 0, none⟩ = some (.iface u pv)) (hm : Mem w (dsk ca cs da ds)) (h : DOk cs ds) :
    Calls Tryd.prog 16 #[dskV ca cs.length cc da ds.length dc] w fun e w' => e = .returned (.int .i64 (topM (dat cs ds))) ∧ Keeps w w' := by
  obtain ⟨n, hn⟩ : ∃ n, 9 ≤ n := ⟨9, Nat.le_refl _⟩
  refine (callsIn_wide (n := n)).1 ?_
  refine callsIn_of_wp_marks Tryd.func16 rfl trivial ?_ rfl
  simp only [Tryd.ntmps16, List.size_toArray, List.length_cons, List.length_nil, Nat.reduceAdd, Nat.reduceSub, Array.replicate_succ, Array.replicate_zero, List.push_toArray, List.append_toArray, List.nil_append, List.cons_append]
  have HV := hide hv
  have HM := hide hm
  have HD := hide h
  clear hv hm h
  gi_wp2
  refine ⟨trivial, nofun, (callsIn_wide.2 (all_make ca cc cs da dc ds _)).mono ?_⟩
  rintro e w1 ⟨rfl, rfl⟩
  gi_wp2
  have hlt := HM.out.lt
  have hgl := lt_of_cell HV.out
  obtain ⟨W0, hW0⟩ : ∃ W0, ((w.alloc (.cells #[.slice ca cs.length cc, .slice da ds.length dc] 33)).alloc (.cells #[.int .i64 0] 3)).alloc (.cells #[.slice ca cs.length cc, .slice da ds.length dc] 33) = W0 := ⟨_, rfl⟩
  have hs0 : W0.heap.size = w.heap.size + 3 := by rw [← hW0]; simp
  have hk0 : Keeps w W0 := by rw [← hW0]; exact ((Keeps.refl w).alloc _).alloc _ |>.alloc _
  have hbx := (born_alloc ((w.alloc (.cells #[.slice ca cs.length cc, .slice da ds.length dc] 33)).alloc (.cells #[.int .i64 0] 3)) #[.slice ca cs.length cc, .slice da ds.length dc] 33).toOwn
  have htb := (born_alloc (w.alloc (.cells #[.slice ca cs.length cc, .slice da ds.length dc] 33)) #[.int .i64 0] 3).toOwn.kept (Keeps.alloc (Keeps.refl _) (.cells #[.slice ca cs.length cc, .slice da ds.length dc] 33))
  rw [hW0] at hbx htb
  simp only [World.size_alloc] at hbx htb
  have cb0 := cell_at hbx.mem 0 (by simp)
  have cb1 := cell_at hbx.mem 1 (by simp)
  have ct0 := cell_at htb.mem 0 (by simp)
  have cf0 := htb.free (w.heap.size + 1) (by simp [fp, fpS]) 0
  simp only [Nat.zero_add, List.getElem_cons_zero, List.getElem_cons_succ] at cb0 cb1 ct0
  have hI0 : TopI w ca cc cs da dc ds u pv 0 W0 :=
    ⟨⟨cb0, cb1, HM.out.kept hk0, hk0.cell HV.out⟩, ct0, cf0, hk0, by omega⟩
  rw [hW0]
  have HS0 := hide hs0
  clear hW0 hs0 hbx htb cf0 cb0 cb1 ct0
  refine wp_range rfl (by omega) (gf := 52) (lb := #[.pointer (some ⟨w.heap.size + 1 + 1, 0, none⟩)]) rfl trivial (enters_of Tryd.func52 (by kernel_rfl) rfl) (fun W => TopI w ca cc cs da dc ds u pv cs.length W) (fun _ _ => False) ?_ ?_ ?_
  · intro fn hfn W1 hk1 hs1 hr1
    generalize hR : recOf fn _ _ _ _ _ = R at hr1 ⊢
    refine (all_in (n - 1) (W0.heap.size + 1) (w.heap.size + 1 + 1) ca cc cs da dc ds u pv (fun k W => TopI w ca cc cs da dc ds u pv k W ∧ RL R W0.heap.size .ready none W) (fun _ => False) HD.out ?_ ?_ ?_ ?_ W1 ⟨hI0.later hk1, hr1⟩).mono ?_
    · rintro k W ⟨h, _⟩
      exact h.at_
    · rintro k W W' ⟨h, h'⟩ hk
      exact ⟨h.later hk, h'.kept hk⟩
    · rintro k W _ ⟨h, h'⟩ hB
      exact ⟨⟨h.at_, by rw [topTo_skip hB]; exact h.top, h.free, h.kept, h.size⟩, h'⟩
    · rintro k W W' a c hkl ⟨h, h'⟩ hB hac hb hk
      have h2 := h.later hk
      have hr2 := h'.kept hk
      clear h h' hb hk hac
      subst hR
      refine YieldAt.mono (yield_round (G := fun W => TopI w ca cc cs da dc ds u pv (k + 1) W) (Gx := fun _ _ => False) hfn hr2 rfl ?_) ?_
      · generalize recOf fn _ _ _ _ _ = R at hr2 ⊢
        gi_wp2
        have hka := Keeps.alloc (Keeps.refl W') (.cells #[.int .i64 (srQ (readL (dat cs ds) k)), .int .i64 (srE (readL (dat cs ds) k)), .slice a (srL (readL (dat cs ds) k)).length c] 52)
        have hbo := (born_alloc W' #[.int .i64 (srQ (readL (dat cs ds) k)), .int .i64 (srE (readL (dat cs ds) k)), .slice a (srL (readL (dat cs ds) k)).length c] 52).toOwn
        generalize W'.alloc (.cells #[.int .i64 (srQ (readL (dat cs ds) k)), .int .i64 (srE (readL (dat cs ds) k)), .slice a (srL (readL (dat cs ds) k)).length c] 52) = W2 at *
        refine ⟨hr2.kept hka, fun W3 ht hr3 => ?_⟩
        have hl2 := hr2.lt
        have h3 := (h2.later hka).turn ht (fun x hx => by simp at hx; have := HS0.out; omega) hlt hgl
        have hb3 := hbo.turn ht (fun x hx hy => by simp [fp, fpS] at hx hy; have := HS0.out; omega)
        have s1 := cell_at hb3.mem 1 (by simp)
        simp only [Nat.zero_add, List.getElem_cons_zero, List.getElem_cons_succ] at s1
        have t0 := h3.top
        have t1 := h3.free
        have HI := hide h3
        have HR3 := hide hr3
        clear h2 hr2 hka hbo ht h3 hr3 hb3 hl2
        gi_wp2
        all_goals
          refine ⟨HR3.out.turn (Turn.set (fs := [w.heap.size + 1]) (by simp) _) (by simp <;> (have := HS0.out; omega)) (by simp <;> (have := HS0.out; omega)), fun W4 ht => ?_⟩
          have h := HI.out
          have hts : Turn [w.heap.size + 1] W3 (W3.setCell ⟨w.heap.size + 1, 0, none⟩ (.int .i64 (topTo (dat cs ds) (k + 1)))) := Turn.set (by simp) _
          have h5 : TopI w ca cc cs da dc ds u pv (k + 1) (W3.setCell ⟨w.heap.size + 1, 0, none⟩ (.int .i64 (topTo (dat cs ds) (k + 1)))) :=
            ⟨h.at_.turn hts (by simp) (fun x hx hy => by have := hlt x hx; simp at hy; omega) (by simp <;> omega), World.cell?_setCell_same _ _ _ h.top, by simp [h.free],
             hts.keeps h.kept (fun x hx => by simp at hx; omega), Nat.le_trans h.size hts.size⟩
          have e : ∀ z, topTo (dat cs ds) (k + 1) = z → TopI w ca cc cs da dc ds u pv (k + 1) (W3.setCell ⟨w.heap.size + 1, 0, none⟩ (.int .i64 z)) := fun z hz => hz ▸ h5
          refine (e _ ?_).turn ht (fun x hx => by simp at hx; have := HS0.out; omega) hlt hgl
          rw [topTo_max hB]
          omega
      · rintro e W'' (⟨he, hg, hr⟩ | ⟨_, _, hf, _⟩)
        · exact .inl ⟨he, hg, hr⟩
        · exact hf.elim
    · rintro e W2 ⟨hv, (⟨h, h'⟩ | hf)⟩
      · exact ⟨hv, .inl ⟨h, h'⟩⟩
      · exact hf.elim
  · intro W W' hG ht hK
    have h2 := hG.turn ht (fun x hx => by simp at hx; have := HS0.out; omega) hlt hgl
    have t0 := h2.top
    have HI := hide h2
    clear h2 hG
    gi_wp2
    refine ⟨by simp, .inl ⟨_, _, rfl, run_takeDeferred hK, ?_⟩⟩
    refine ⟨_, results_tmp rfl _ _ _, (by simp [topM, dat]), ?_⟩
    exact (turn_putObj W' W0.heap.size _).keeps HI.out.kept (fun x hx => by simp at hx; have := HS0.out; omega)
  · intro c W W' hf
    exact hf.elim
end Go.Proofs.YtkdnddckogbgaaaDoor
