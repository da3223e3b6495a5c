/- SectorRead of the model. -/
import Derived.Test.YtkdnddckogbgaaaGreatDoorFO19
import Derived.Test.YtkdnddckogbgaaaGreatDoorFO10
import Derived.Test.YtkdnddckogbgaaaGreatDoorFO15
namespace Go.Proofs.YtkdnddckogbgaaaGreatDoor
open Go.RowKit Go.Deep
set_option linter.unusedVariables false
set_option linter.unusedSimpArgs false
set_option maxRecDepth 10000
theorem get_isS (b off : Nat) (L : List UInt8) (cap : Nat) (p s n : Int) (hn : getV L p s = n) (w : World) (hc : Cells w (some ⟨b, off, none⟩) (bys L)) (hl : L.length ≤ 16777216) :
    Calls Tryz.prog 79 #[.slice (some ⟨b, off, none⟩) L.length cap, .int .i64 p, .int .i64 s] w fun e w' => e = .returned (.tuple #[.int .i64 n, .bool (getB L p s)]) ∧ w' = w := by
  rw [← hn]; exact getnum_spec b off L cap p s w hc hl
theorem app_bysN {ops : Array Oper} {rest : List Oper} {o : Oper} {a : Act} {Q : Exit → Act → World → Prop} {wr : World} (hgd : o.guard = none) (s x : Operand)
    (ho : o.op = .call { callee := .builtin .append, args := #[s, x], argTypes := #[22, 22] }) (base : Nat) (v : Value) (L M : List UInt8) (hs : a.eval s = v) (xa : Option Addr) (c m : Nat) (hm : M.length = m)
    (hx : a.eval x = .slice xa m c) (hM : Cells wr xa (bys M)) (hn : xa = none → c = 0) (hown : OwnsB wr base v L) (hl : L.length + M.length ≤ 4194304) (hbase : base ≤ wr.heap.size)
    (h : ∀ v' w', OwnsB w' base v' (L ++ M) → wr.grownBy w' v.ownBlock → wpList Tryz.prog ops Q rest (a.put o.dst v') w') :
    wpList Tryz.prog ops Q (o :: rest) a wr := by
  subst hm
  exact app_bys hgd s x ho base v L M hs xa c hx hM hn hown hl hbase h
theorem own_freeS {w : World} {R : Nat} {xs : List Value} (h : Own w [(some ⟨R, 0, none⟩, xs)]) (hx : xs ≠ []) : ∀ i, w.frozen? ⟨R, i, none⟩ = false := h.free R (by rw [fp_one, fpS_some hx]; simp)
theorem own_cellS {w : World} {R : Nat} {xs : List Value} (h : Own w [(some ⟨R, 0, none⟩, xs)]) (i : Nat) (hi : i < xs.length) {v : Value} (hv : xs[i] = v) : w.cell? ⟨R, i, none⟩ = some v := by
  have := cell_at h.mem i hi
  rw [Nat.zero_add, hv] at this
  exact this
theorem own_grown {w w' : World} {S : List Seg} {row : Option Nat} (h : Own w S) (hg : w.grownBy w' row) (hn : ∀ x ∈ fp S, row ≠ some x) : Own w' S :=
  h.turn (Turn.of_grown (fs := row.toList) hg (fun k hk => by rw [hk]; simp)) (fun x hx hb => hn x hx (by simpa using hb))
set_option maxHeartbeats 4000000 in
theorem secspec_b_yes (b off : Nat) (L : List UInt8) (cap : Nat) (w : World) (hc : Cells w (some ⟨b, off, none⟩) (bys L)) (hl : L.length ≤ 16777216) (q e n : Nat) (eq : getV L 1 3 = (q : Nat)) (ee : getV L 4 3 = (e : Nat)) (en : getV L 7 1 = (n : Nat)) (hn : n ≤ 100) (h128 : L.length = 128) (hcap : L.length ≤ cap) (hcm : cap ≤ 9223372036854775807) (hok : secB q e (cut L 8 n).length = true) (heq : secR q e (cut L 8 n) = L) (hsr : srB L = true) (fq : numL (cut L 1 3) = q) (fe : numL (cut L 4 3) = e) (fn : numL (cut L 7 1) = n) :
    Calls Tryz.prog 42 #[.slice (some ⟨b, off, none⟩) L.length cap] w (SrPost w L) := by
  have hbR := born_alloc w #[.int .i64 0, .int .i64 0, .slice none 0 0] 72
  have hkR := Keeps.alloc (Keeps.refl w) (.cells #[.int .i64 0, .int .i64 0, .slice none 0 0] 72)
  have hbV := born_alloc (w.alloc (.cells #[.int .i64 0, .int .i64 0, .slice none 0 0] 72)) #[.int .i64 0, .int .i64 0, .slice none 0 0] 72
  have hkV := Keeps.alloc (Keeps.refl (w.alloc (.cells #[.int .i64 0, .int .i64 0, .slice none 0 0] 72))) (.cells #[.int .i64 0, .int .i64 0, .slice none 0 0] 72)
  dsimp only at hbR hbV
  rw [World.size_alloc] at hbV
  have HR := hide (hbR.toOwn.kept hkV)
  have HV := hide hbV.toOwn
  have HK := hide (hkR.trans hkV)
  have HSZ : Hid (w.heap.size + 2 ≤ ((w.alloc (.cells #[.int .i64 0, .int .i64 0, .slice none 0 0] 72)).alloc (.cells #[.int .i64 0, .int .i64 0, .slice none 0 0] 72)).heap.size) := by show _ ≤ _; simp
  have HC := hide hc
  have HL := hide hl
  have HOK := hide hok
  have HSR := hide hsr
  have Nq := hide eq
  have Ne := hide ee
  have Nn := hide en
  clear hbR hkR hbV hkV hc hl hok hsr eq ee en
  have FQ := hide fq
  have FE := hide fe
  have FN := hide fn
  clear fq fe fn
  have HEQ := hide heq
  clear heq
  have h128' : ((L.length : Int) == 128) = true := by rw [h128]; rfl
  have hn2 : (n : Int) ≤ 100 := by omega
  have hn3 : (0 : Int) ≤ (n : Int) := by omega
  have hw8 : IntKind.i64.wrap (8 + (n : Int)) = 8 + (n : Int) := by rw [IntKind.wrap_i64]; omega
  have hs1 : (8 : Int) ≤ 8 + (n : Int) := by omega
  have hs2 : (8 : Int) + (n : Int) ≤ (cap : Int) := by omega
  have hs3 : (8 : Int) < (cap : Int) := by omega
  have hs4 : (8 : Int) ≤ (cap : Int) := by omega
  have hs5 : ((8 : Int) + (n : Int)).toNat - 8 = n := by omega
  have HXL : Hid ((cut L 8 n).length = n) := cut_length (by omega)
  have HX8 : Hid (8 + n ≤ L.length) := by show _ ≤ _; omega
  have HN := hide hn
  clear hn h128 hcap
  have HNV : Hid (w.heap.size + 1 ≠ w.heap.size) := by show _ ≠ _; omega
  go_enter Tryz.func42, Tryz.ntmps42
  go_wp2_with fail
  generalize (w.alloc (.cells #[.int .i64 0, .int .i64 0, .slice none 0 0] 72)).alloc (.cells #[.int .i64 0, .int .i64 0, .slice none 0 0] 72) = w1 at *
  go_at_call 79
  refine (get_isS b off L cap 1 3 (q : Nat) Nq.out _ (HC.out.kept HK.out) HL.out).mono ?_
  rintro x w' ⟨rfl, hw'⟩
  obtain rfl := Eq.symm hw'
  clear hw'
  have cV := own_cellS HV.out 0 (by simp) (v := .int .i64 0) rfl
  have fV := own_freeS HV.out (by simp) 0
  replace HV : Hid (Own (w1.setCell ⟨w.heap.size + 1, 0, none⟩ (.int .i64 (q : Int))) [(some ⟨w.heap.size + 1, 0, none⟩, [.int .i64 (q : Int), .int .i64 0, .slice none 0 0])]) := own_set HV.out 0 (by simp) (.int .i64 (q : Int))
  replace HR := hide (own_setB (a := ⟨w.heap.size + 1, 0, none⟩) HR.out (.int .i64 (q : Int)) (fp_ne HNV.out.symm))
  replace HK := hide (HK.out.setCell (p := ⟨w.heap.size + 1, 0, none⟩) (Nat.le_succ _) (.int .i64 (q : Int)))
  replace HSZ : Hid (w.heap.size + 2 ≤ (w1.setCell ⟨w.heap.size + 1, 0, none⟩ (.int .i64 (q : Int))).heap.size) := by show _ ≤ _; rw [nblk_setCell]; exact HSZ.out
  go_wp2_with fail
  clear cV fV
  generalize w1.setCell ⟨w.heap.size + 1, 0, none⟩ (.int .i64 (q : Int)) = w2 at *
  clear w1
  go_at_call 79
  refine (get_isS b off L cap 4 3 (e : Nat) Ne.out _ (HC.out.kept HK.out) HL.out).mono ?_
  rintro x w' ⟨rfl, hw'⟩
  obtain rfl := Eq.symm hw'
  clear hw'
  have cV := own_cellS HV.out 1 (by simp) (v := .int .i64 0) rfl
  have fV := own_freeS HV.out (by simp) 1
  replace HV : Hid (Own (w2.setCell ⟨w.heap.size + 1, 1, none⟩ (.int .i64 (e : Int))) [(some ⟨w.heap.size + 1, 0, none⟩, [.int .i64 (q : Int), .int .i64 (e : Int), .slice none 0 0])]) := own_set HV.out 1 (by simp) (.int .i64 (e : Int))
  replace HR := hide (own_setB (a := ⟨w.heap.size + 1, 1, none⟩) HR.out (.int .i64 (e : Int)) (fp_ne HNV.out.symm))
  replace HK := hide (HK.out.setCell (p := ⟨w.heap.size + 1, 1, none⟩) (Nat.le_succ _) (.int .i64 (e : Int)))
  replace HSZ : Hid (w.heap.size + 2 ≤ (w2.setCell ⟨w.heap.size + 1, 1, none⟩ (.int .i64 (e : Int))).heap.size) := by show _ ≤ _; rw [nblk_setCell]; exact HSZ.out
  go_wp2_with fail
  clear cV fV
  generalize w2.setCell ⟨w.heap.size + 1, 1, none⟩ (.int .i64 (e : Int)) = w3 at *
  clear w2
  go_at_call 79
  refine (get_isS b off L cap 7 1 (n : Nat) Nn.out _ (HC.out.kept HK.out) HL.out).mono ?_
  rintro x w' ⟨rfl, hw'⟩
  obtain rfl := Eq.symm hw'
  clear hw'
  have HO0 := hide (World.ownsRow_made (base := w3.heap.size) (e := 5) (size := 1) w3 #[] 0 (Nat.le_refl _) (by decide) rfl)
  have hkE := Keeps.alloc (Keeps.refl w3) (.cells #[] 5)
  have HCE := hide (cells_cut (HC.out.kept (HK.out.trans hkE)) 8 n HX8.out)
  have HRE := hide (HR.out.kept hkE)
  have HVE := hide (HV.out.kept hkE)
  have HKE := hide (HK.out.trans hkE)
  clear hkE
  go_wp2_with (at_builtin
               refine app_bysN rfl (.tmp 34) (.tmp 38) rfl w3.heap.size _ [] (cut L 8 n) rfl (some ⟨b, off + 8, none⟩) (cap - 8) n HXL.out rfl HCE.out (fun e => by cases e) HO0.out (by have := HN.out; rw [HXL.out]; simp; omega) (by simp) ?_
               intro v' wA ho hg
               obtain ⟨ab, cb, hve, hnc, hbo⟩ := Born.of_owns3 (w := w3) (xs := bys (cut L 8 n)) (n := (cut L 8 n).length) (by simpa using ho)
               rw [hve]
               have hrow : ∀ k, Value.ownBlock (.slice (some ⟨w3.heap.size, 0, none⟩) 0 0) = some k → w3.heap.size ≤ k := fun k hk => by simp [Value.ownBlock] at hk; omega
               have HNC := hide hnc
               have HY := hide hbo.toOwn
               have HYN : Hid (∀ x ∈ fp [(ab, bys (cut L 8 n))], x ≠ w.heap.size ∧ x ≠ w.heap.size + 1 ∧ w.heap.size ≤ x) := fun x hx => (by have h1 := hbo.new x hx; have h2 := HSZ.out; omega)
               replace HR := hide (own_grown HRE.out hg (fun x hx e => by have h1 := hrow x e; have h2 := HR.out.mem.lt x hx; omega))
               replace HV := hide (own_grown HVE.out hg (fun x hx e => by have h1 := hrow x e; have h2 := HV.out.mem.lt x hx; omega))
               replace HK := hide (Keeps.grown HKE.out hg (fun k hk => Nat.le_trans HK.out.size (hrow k hk)))
               have cV := own_cellS HV.out 2 (by simp) (v := .slice none 0 0) rfl
               have fV := own_freeS HV.out (by simp) 2
               have e0 := own_cellS HV.out 0 (by simp) (v := .int .i64 (q : Int)) rfl
               have e1 := own_cellS HV.out 1 (by simp) (v := .int .i64 (e : Int)) rfl
               clear ho hg hve hnc hbo hrow)
  clear cV fV e0 e1 HRE HVE HKE HCE HO0
  replace HV : Hid (Own (wA.setCell ⟨w.heap.size + 1, 2, none⟩ (.slice ab (cut L 8 n).length cb)) [(some ⟨w.heap.size + 1, 0, none⟩, [.int .i64 (q : Int), .int .i64 (e : Int), .slice ab (cut L 8 n).length cb])]) := own_set HV.out 2 (by simp) (.slice ab (cut L 8 n).length cb)
  replace HR := hide (own_setB (a := ⟨w.heap.size + 1, 2, none⟩) HR.out (.slice ab (cut L 8 n).length cb) (fp_ne HNV.out.symm))
  replace HY := hide (own_setB (a := ⟨w.heap.size + 1, 2, none⟩) HY.out (.slice ab (cut L 8 n).length cb) (fun x hx => (HYN.out x hx).2.1))
  replace HK := hide (HK.out.setCell (p := ⟨w.heap.size + 1, 2, none⟩) (Nat.le_succ _) (.slice ab (cut L 8 n).length cb))
  generalize wA.setCell ⟨w.heap.size + 1, 2, none⟩ (.slice ab (cut L 8 n).length cb) = wB at *
  clear HSZ
  go_at_call 39
  refine (secbytes_spec q e ab cb (cut L 8 n) wB HY.out.one HNC.out.1 (by have := HN.out; rw [HXL.out]; omega)).mono ?_
  rintro x wC ⟨v, rfl, ho, hk⟩
  rw [HOK.out]
  replace HR := hide (HR.out.kept hk)
  replace HV := hide (HV.out.kept hk)
  have HO := hide ho
  replace HK := hide (HK.out.trans hk)
  replace HY := hide (HY.out.kept hk)
  clear hk ho
  obtain ⟨ax, cx, hve, hcn, hbo⟩ : ∃ (ax : Option Addr) (cx : Nat), v = .slice ax (secR q e (cut L 8 n)).length cx ∧ (∃ bb ob, ax = some ⟨bb, ob, none⟩) ∧ Cells wC ax (bys (secR q e (cut L 8 n))) := by
    obtain ⟨ax, cx, hv, _, _, _, hown, _⟩ := Own.of_owns HO.out
    refine ⟨ax, cx, hv, ?_, hown.one⟩
    have hlen : (secR q e (cut L 8 n)).length = 128 := by unfold secR; rw [if_pos HOK.out, secL_length ((secB_true HOK.out).2.2.2.2)]
    rcases hown.one with h' | ⟨bb, ob, e, _⟩
    · rw [bys_nil] at h'; rw [h'] at hlen; simp at hlen
    · exact ⟨bb, ob, e⟩
  rw [hve]
  clear hve HO v
  obtain ⟨bb, ob, rfl⟩ := hcn
  have s1 := str_of (some ⟨bb, ob, none⟩) cx (secR q e (cut L 8 n)) wC bb ob rfl hbo
  have s2 := str_of (some ⟨b, off, none⟩) cap L wC b off rfl (HC.out.kept HK.out)
  have s3 : ((strL (secR q e (cut L 8 n))).toList == (strL L).toList) = true := by rw [strL_beq]; exact decide_eq_true HEQ.out
  generalize (secR q e (cut L 8 n)) = M at *
  clear hbo
  have c0 := own_cellS HR.out 0 (by simp) (v := .int .i64 0) rfl
  have c1 := own_cellS HR.out 1 (by simp) (v := .int .i64 0) rfl
  have c2 := own_cellS HR.out 2 (by simp) (v := .slice none 0 0) rfl
  have fR := own_freeS HR.out (by simp)
  have HF := hide (own_threeB HR.out (.int .i64 (q : Int)) (.int .i64 (e : Int)) (.slice ab (cut L 8 n).length cb))
  have HK2 := hide (keeps_threeB HK.out (Nat.le_refl w.heap.size) (.int .i64 (q : Int)) (.int .i64 (e : Int)) (.slice ab (cut L 8 n).length cb))
  have HYF := hide (own_threeO HY.out (fun x hx => (HYN.out x hx).1) (.int .i64 (q : Int)) (.int .i64 (e : Int)) (.slice ab (cut L 8 n).length cb))
  have e0 := own_cellS HV.out 0 (by simp) (v := .int .i64 (q : Int)) rfl
  have e1 := own_cellS HV.out 1 (by simp) (v := .int .i64 (e : Int)) rfl
  have e2 := own_cellS HV.out 2 (by simp) (v := .slice ab (cut L 8 n).length cb) rfl
  go_wp2_with fail
  generalize (((wC.setCell ⟨w.heap.size, 0, none⟩ (.int .i64 (q : Int))).setCell ⟨w.heap.size, 1, none⟩ (.int .i64 (e : Int))).setCell ⟨w.heap.size, 2, none⟩ (.slice ab (cut L 8 n).length cb)) = wF at *
  clear c0 c1 c2
  have c0 := own_cellS HF.out 0 (by simp) (v := .int .i64 (q : Int)) rfl
  have c1 := own_cellS HF.out 1 (by simp) (v := .int .i64 (e : Int)) rfl
  have c2 := own_cellS HF.out 2 (by simp) (v := .slice ab (cut L 8 n).length cb) rfl
  refine bodyPost_ret (v := .tuple #[.agg #[.int .i64 (q : Int), .int .i64 (e : Int), .slice ab (cut L 8 n).length cb], .bool true]) ?_ rfl (SrPost.yes HSR.out FQ.out FE.out FN.out HNC.out ⟨HYF.out, fun x hx => (HYN.out x hx).2.2⟩ HK2.out)
  simp [results, Tryz.results42, go_sem, c0, c1, c2]
set_option maxHeartbeats 4000000 in
theorem secspec_b_ok (b off : Nat) (L : List UInt8) (cap : Nat) (w : World) (hc : Cells w (some ⟨b, off, none⟩) (bys L)) (hl : L.length ≤ 16777216) (q e n : Nat) (eq : getV L 1 3 = (q : Nat)) (ee : getV L 4 3 = (e : Nat)) (en : getV L 7 1 = (n : Nat)) (hn : n ≤ 100) (h128 : L.length = 128) (hcap : L.length ≤ cap) (hcm : cap ≤ 9223372036854775807) (hok : secB q e (cut L 8 n).length = false) (hsr : srB L = false) :
    Calls Tryz.prog 42 #[.slice (some ⟨b, off, none⟩) L.length cap] w (SrPost w L) := by
  have hbR := born_alloc w #[.int .i64 0, .int .i64 0, .slice none 0 0] 72
  have hkR := Keeps.alloc (Keeps.refl w) (.cells #[.int .i64 0, .int .i64 0, .slice none 0 0] 72)
  have hbV := born_alloc (w.alloc (.cells #[.int .i64 0, .int .i64 0, .slice none 0 0] 72)) #[.int .i64 0, .int .i64 0, .slice none 0 0] 72
  have hkV := Keeps.alloc (Keeps.refl (w.alloc (.cells #[.int .i64 0, .int .i64 0, .slice none 0 0] 72))) (.cells #[.int .i64 0, .int .i64 0, .slice none 0 0] 72)
  dsimp only at hbR hbV
  rw [World.size_alloc] at hbV
  have HR := hide (hbR.toOwn.kept hkV)
  have HV := hide hbV.toOwn
  have HK := hide (hkR.trans hkV)
  have HSZ : Hid (w.heap.size + 2 ≤ ((w.alloc (.cells #[.int .i64 0, .int .i64 0, .slice none 0 0] 72)).alloc (.cells #[.int .i64 0, .int .i64 0, .slice none 0 0] 72)).heap.size) := by show _ ≤ _; simp
  have HC := hide hc
  have HL := hide hl
  have HOK := hide hok
  have HSR := hide hsr
  have Nq := hide eq
  have Ne := hide ee
  have Nn := hide en
  clear hbR hkR hbV hkV hc hl hok hsr eq ee en
  have h128' : ((L.length : Int) == 128) = true := by rw [h128]; rfl
  have hn2 : (n : Int) ≤ 100 := by omega
  have hn3 : (0 : Int) ≤ (n : Int) := by omega
  have hw8 : IntKind.i64.wrap (8 + (n : Int)) = 8 + (n : Int) := by rw [IntKind.wrap_i64]; omega
  have hs1 : (8 : Int) ≤ 8 + (n : Int) := by omega
  have hs2 : (8 : Int) + (n : Int) ≤ (cap : Int) := by omega
  have hs3 : (8 : Int) < (cap : Int) := by omega
  have hs4 : (8 : Int) ≤ (cap : Int) := by omega
  have hs5 : ((8 : Int) + (n : Int)).toNat - 8 = n := by omega
  have HXL : Hid ((cut L 8 n).length = n) := cut_length (by omega)
  have HX8 : Hid (8 + n ≤ L.length) := by show _ ≤ _; omega
  have HN := hide hn
  clear hn h128 hcap
  have HNV : Hid (w.heap.size + 1 ≠ w.heap.size) := by show _ ≠ _; omega
  go_enter Tryz.func42, Tryz.ntmps42
  go_wp2_with fail
  generalize (w.alloc (.cells #[.int .i64 0, .int .i64 0, .slice none 0 0] 72)).alloc (.cells #[.int .i64 0, .int .i64 0, .slice none 0 0] 72) = w1 at *
  go_at_call 79
  refine (get_isS b off L cap 1 3 (q : Nat) Nq.out _ (HC.out.kept HK.out) HL.out).mono ?_
  rintro x w' ⟨rfl, hw'⟩
  obtain rfl := Eq.symm hw'
  clear hw'
  have cV := own_cellS HV.out 0 (by simp) (v := .int .i64 0) rfl
  have fV := own_freeS HV.out (by simp) 0
  replace HV : Hid (Own (w1.setCell ⟨w.heap.size + 1, 0, none⟩ (.int .i64 (q : Int))) [(some ⟨w.heap.size + 1, 0, none⟩, [.int .i64 (q : Int), .int .i64 0, .slice none 0 0])]) := own_set HV.out 0 (by simp) (.int .i64 (q : Int))
  replace HR := hide (own_setB (a := ⟨w.heap.size + 1, 0, none⟩) HR.out (.int .i64 (q : Int)) (fp_ne HNV.out.symm))
  replace HK := hide (HK.out.setCell (p := ⟨w.heap.size + 1, 0, none⟩) (Nat.le_succ _) (.int .i64 (q : Int)))
  replace HSZ : Hid (w.heap.size + 2 ≤ (w1.setCell ⟨w.heap.size + 1, 0, none⟩ (.int .i64 (q : Int))).heap.size) := by show _ ≤ _; rw [nblk_setCell]; exact HSZ.out
  go_wp2_with fail
  clear cV fV
  generalize w1.setCell ⟨w.heap.size + 1, 0, none⟩ (.int .i64 (q : Int)) = w2 at *
  clear w1
  go_at_call 79
  refine (get_isS b off L cap 4 3 (e : Nat) Ne.out _ (HC.out.kept HK.out) HL.out).mono ?_
  rintro x w' ⟨rfl, hw'⟩
  obtain rfl := Eq.symm hw'
  clear hw'
  have cV := own_cellS HV.out 1 (by simp) (v := .int .i64 0) rfl
  have fV := own_freeS HV.out (by simp) 1
  replace HV : Hid (Own (w2.setCell ⟨w.heap.size + 1, 1, none⟩ (.int .i64 (e : Int))) [(some ⟨w.heap.size + 1, 0, none⟩, [.int .i64 (q : Int), .int .i64 (e : Int), .slice none 0 0])]) := own_set HV.out 1 (by simp) (.int .i64 (e : Int))
  replace HR := hide (own_setB (a := ⟨w.heap.size + 1, 1, none⟩) HR.out (.int .i64 (e : Int)) (fp_ne HNV.out.symm))
  replace HK := hide (HK.out.setCell (p := ⟨w.heap.size + 1, 1, none⟩) (Nat.le_succ _) (.int .i64 (e : Int)))
  replace HSZ : Hid (w.heap.size + 2 ≤ (w2.setCell ⟨w.heap.size + 1, 1, none⟩ (.int .i64 (e : Int))).heap.size) := by show _ ≤ _; rw [nblk_setCell]; exact HSZ.out
  go_wp2_with fail
  clear cV fV
  generalize w2.setCell ⟨w.heap.size + 1, 1, none⟩ (.int .i64 (e : Int)) = w3 at *
  clear w2
  go_at_call 79
  refine (get_isS b off L cap 7 1 (n : Nat) Nn.out _ (HC.out.kept HK.out) HL.out).mono ?_
  rintro x w' ⟨rfl, hw'⟩
  obtain rfl := Eq.symm hw'
  clear hw'
  have HO0 := hide (World.ownsRow_made (base := w3.heap.size) (e := 5) (size := 1) w3 #[] 0 (Nat.le_refl _) (by decide) rfl)
  have hkE := Keeps.alloc (Keeps.refl w3) (.cells #[] 5)
  have HCE := hide (cells_cut (HC.out.kept (HK.out.trans hkE)) 8 n HX8.out)
  have HRE := hide (HR.out.kept hkE)
  have HVE := hide (HV.out.kept hkE)
  have HKE := hide (HK.out.trans hkE)
  clear hkE
  go_wp2_with (at_builtin
               refine app_bysN rfl (.tmp 34) (.tmp 38) rfl w3.heap.size _ [] (cut L 8 n) rfl (some ⟨b, off + 8, none⟩) (cap - 8) n HXL.out rfl HCE.out (fun e => by cases e) HO0.out (by have := HN.out; rw [HXL.out]; simp; omega) (by simp) ?_
               intro v' wA ho hg
               obtain ⟨ab, cb, hve, hnc, hbo⟩ := Born.of_owns3 (w := w3) (xs := bys (cut L 8 n)) (n := (cut L 8 n).length) (by simpa using ho)
               rw [hve]
               have hrow : ∀ k, Value.ownBlock (.slice (some ⟨w3.heap.size, 0, none⟩) 0 0) = some k → w3.heap.size ≤ k := fun k hk => by simp [Value.ownBlock] at hk; omega
               have HNC := hide hnc
               have HY := hide hbo.toOwn
               have HYN : Hid (∀ x ∈ fp [(ab, bys (cut L 8 n))], x ≠ w.heap.size ∧ x ≠ w.heap.size + 1 ∧ w.heap.size ≤ x) := fun x hx => (by have h1 := hbo.new x hx; have h2 := HSZ.out; omega)
               replace HR := hide (own_grown HRE.out hg (fun x hx e => by have h1 := hrow x e; have h2 := HR.out.mem.lt x hx; omega))
               replace HV := hide (own_grown HVE.out hg (fun x hx e => by have h1 := hrow x e; have h2 := HV.out.mem.lt x hx; omega))
               replace HK := hide (Keeps.grown HKE.out hg (fun k hk => Nat.le_trans HK.out.size (hrow k hk)))
               have cV := own_cellS HV.out 2 (by simp) (v := .slice none 0 0) rfl
               have fV := own_freeS HV.out (by simp) 2
               have e0 := own_cellS HV.out 0 (by simp) (v := .int .i64 (q : Int)) rfl
               have e1 := own_cellS HV.out 1 (by simp) (v := .int .i64 (e : Int)) rfl
               clear ho hg hve hnc hbo hrow)
  clear cV fV e0 e1 HRE HVE HKE HCE HO0
  replace HV : Hid (Own (wA.setCell ⟨w.heap.size + 1, 2, none⟩ (.slice ab (cut L 8 n).length cb)) [(some ⟨w.heap.size + 1, 0, none⟩, [.int .i64 (q : Int), .int .i64 (e : Int), .slice ab (cut L 8 n).length cb])]) := own_set HV.out 2 (by simp) (.slice ab (cut L 8 n).length cb)
  replace HR := hide (own_setB (a := ⟨w.heap.size + 1, 2, none⟩) HR.out (.slice ab (cut L 8 n).length cb) (fp_ne HNV.out.symm))
  replace HY := hide (own_setB (a := ⟨w.heap.size + 1, 2, none⟩) HY.out (.slice ab (cut L 8 n).length cb) (fun x hx => (HYN.out x hx).2.1))
  replace HK := hide (HK.out.setCell (p := ⟨w.heap.size + 1, 2, none⟩) (Nat.le_succ _) (.slice ab (cut L 8 n).length cb))
  generalize wA.setCell ⟨w.heap.size + 1, 2, none⟩ (.slice ab (cut L 8 n).length cb) = wB at *
  clear HSZ
  go_at_call 39
  refine (secbytes_spec q e ab cb (cut L 8 n) wB HY.out.one HNC.out.1 (by have := HN.out; rw [HXL.out]; omega)).mono ?_
  rintro x wC ⟨v, rfl, ho, hk⟩
  rw [HOK.out]
  replace HR := hide (HR.out.kept hk)
  replace HV := hide (HV.out.kept hk)
  have HO := hide ho
  replace HK := hide (HK.out.trans hk)
  replace HY := hide (HY.out.kept hk)
  clear hk ho
  have c0 := own_cellS HR.out 0 (by simp) (v := .int .i64 0) rfl
  have c1 := own_cellS HR.out 1 (by simp) (v := .int .i64 0) rfl
  have c2 := own_cellS HR.out 2 (by simp) (v := .slice none 0 0) rfl
  have fR := own_freeS HR.out (by simp)
  have HF := hide (own_threeB HR.out (.int .i64 0) (.int .i64 0) (.slice none 0 0))
  have HK2 := hide (keeps_threeB HK.out (Nat.le_refl w.heap.size) (.int .i64 0) (.int .i64 0) (.slice none 0 0))
  go_wp2_with fail
  generalize (((wC.setCell ⟨w.heap.size, 0, none⟩ (.int .i64 0)).setCell ⟨w.heap.size, 1, none⟩ (.int .i64 0)).setCell ⟨w.heap.size, 2, none⟩ (.slice none 0 0)) = wF at *
  clear c0 c1 c2
  have c0 := own_cellS HF.out 0 (by simp) (v := .int .i64 0) rfl
  have c1 := own_cellS HF.out 1 (by simp) (v := .int .i64 0) rfl
  have c2 := own_cellS HF.out 2 (by simp) (v := .slice none 0 0) rfl
  refine bodyPost_ret (v := .tuple #[.agg #[.int .i64 0, .int .i64 0, .slice none 0 0], .bool false]) ?_ rfl (SrPost.no HSR.out HK2.out)
  simp [results, Tryz.results42, go_sem, c0, c1, c2]
set_option maxHeartbeats 4000000 in
theorem secspec_b_ne (b off : Nat) (L : List UInt8) (cap : Nat) (w : World) (hc : Cells w (some ⟨b, off, none⟩) (bys L)) (hl : L.length ≤ 16777216) (q e n : Nat) (eq : getV L 1 3 = (q : Nat)) (ee : getV L 4 3 = (e : Nat)) (en : getV L 7 1 = (n : Nat)) (hn : n ≤ 100) (h128 : L.length = 128) (hcap : L.length ≤ cap) (hcm : cap ≤ 9223372036854775807) (hok : secB q e (cut L 8 n).length = true) (heq : secR q e (cut L 8 n) ≠ L) (hsr : srB L = false) :
    Calls Tryz.prog 42 #[.slice (some ⟨b, off, none⟩) L.length cap] w (SrPost w L) := by
  have hbR := born_alloc w #[.int .i64 0, .int .i64 0, .slice none 0 0] 72
  have hkR := Keeps.alloc (Keeps.refl w) (.cells #[.int .i64 0, .int .i64 0, .slice none 0 0] 72)
  have hbV := born_alloc (w.alloc (.cells #[.int .i64 0, .int .i64 0, .slice none 0 0] 72)) #[.int .i64 0, .int .i64 0, .slice none 0 0] 72
  have hkV := Keeps.alloc (Keeps.refl (w.alloc (.cells #[.int .i64 0, .int .i64 0, .slice none 0 0] 72))) (.cells #[.int .i64 0, .int .i64 0, .slice none 0 0] 72)
  dsimp only at hbR hbV
  rw [World.size_alloc] at hbV
  have HR := hide (hbR.toOwn.kept hkV)
  have HV := hide hbV.toOwn
  have HK := hide (hkR.trans hkV)
  have HSZ : Hid (w.heap.size + 2 ≤ ((w.alloc (.cells #[.int .i64 0, .int .i64 0, .slice none 0 0] 72)).alloc (.cells #[.int .i64 0, .int .i64 0, .slice none 0 0] 72)).heap.size) := by show _ ≤ _; simp
  have HC := hide hc
  have HL := hide hl
  have HOK := hide hok
  have HSR := hide hsr
  have Nq := hide eq
  have Ne := hide ee
  have Nn := hide en
  clear hbR hkR hbV hkV hc hl hok hsr eq ee en
  have HEQ := hide heq
  clear heq
  have h128' : ((L.length : Int) == 128) = true := by rw [h128]; rfl
  have hn2 : (n : Int) ≤ 100 := by omega
  have hn3 : (0 : Int) ≤ (n : Int) := by omega
  have hw8 : IntKind.i64.wrap (8 + (n : Int)) = 8 + (n : Int) := by rw [IntKind.wrap_i64]; omega
  have hs1 : (8 : Int) ≤ 8 + (n : Int) := by omega
  have hs2 : (8 : Int) + (n : Int) ≤ (cap : Int) := by omega
  have hs3 : (8 : Int) < (cap : Int) := by omega
  have hs4 : (8 : Int) ≤ (cap : Int) := by omega
  have hs5 : ((8 : Int) + (n : Int)).toNat - 8 = n := by omega
  have HXL : Hid ((cut L 8 n).length = n) := cut_length (by omega)
  have HX8 : Hid (8 + n ≤ L.length) := by show _ ≤ _; omega
  have HN := hide hn
  clear hn h128 hcap
  have HNV : Hid (w.heap.size + 1 ≠ w.heap.size) := by show _ ≠ _; omega
  go_enter Tryz.func42, Tryz.ntmps42
  go_wp2_with fail
  generalize (w.alloc (.cells #[.int .i64 0, .int .i64 0, .slice none 0 0] 72)).alloc (.cells #[.int .i64 0, .int .i64 0, .slice none 0 0] 72) = w1 at *
  go_at_call 79
  refine (get_isS b off L cap 1 3 (q : Nat) Nq.out _ (HC.out.kept HK.out) HL.out).mono ?_
  rintro x w' ⟨rfl, hw'⟩
  obtain rfl := Eq.symm hw'
  clear hw'
  have cV := own_cellS HV.out 0 (by simp) (v := .int .i64 0) rfl
  have fV := own_freeS HV.out (by simp) 0
  replace HV : Hid (Own (w1.setCell ⟨w.heap.size + 1, 0, none⟩ (.int .i64 (q : Int))) [(some ⟨w.heap.size + 1, 0, none⟩, [.int .i64 (q : Int), .int .i64 0, .slice none 0 0])]) := own_set HV.out 0 (by simp) (.int .i64 (q : Int))
  replace HR := hide (own_setB (a := ⟨w.heap.size + 1, 0, none⟩) HR.out (.int .i64 (q : Int)) (fp_ne HNV.out.symm))
  replace HK := hide (HK.out.setCell (p := ⟨w.heap.size + 1, 0, none⟩) (Nat.le_succ _) (.int .i64 (q : Int)))
  replace HSZ : Hid (w.heap.size + 2 ≤ (w1.setCell ⟨w.heap.size + 1, 0, none⟩ (.int .i64 (q : Int))).heap.size) := by show _ ≤ _; rw [nblk_setCell]; exact HSZ.out
  go_wp2_with fail
  clear cV fV
  generalize w1.setCell ⟨w.heap.size + 1, 0, none⟩ (.int .i64 (q : Int)) = w2 at *
  clear w1
  go_at_call 79
  refine (get_isS b off L cap 4 3 (e : Nat) Ne.out _ (HC.out.kept HK.out) HL.out).mono ?_
  rintro x w' ⟨rfl, hw'⟩
  obtain rfl := Eq.symm hw'
  clear hw'
  have cV := own_cellS HV.out 1 (by simp) (v := .int .i64 0) rfl
  have fV := own_freeS HV.out (by simp) 1
  replace HV : Hid (Own (w2.setCell ⟨w.heap.size + 1, 1, none⟩ (.int .i64 (e : Int))) [(some ⟨w.heap.size + 1, 0, none⟩, [.int .i64 (q : Int), .int .i64 (e : Int), .slice none 0 0])]) := own_set HV.out 1 (by simp) (.int .i64 (e : Int))
  replace HR := hide (own_setB (a := ⟨w.heap.size + 1, 1, none⟩) HR.out (.int .i64 (e : Int)) (fp_ne HNV.out.symm))
  replace HK := hide (HK.out.setCell (p := ⟨w.heap.size + 1, 1, none⟩) (Nat.le_succ _) (.int .i64 (e : Int)))
  replace HSZ : Hid (w.heap.size + 2 ≤ (w2.setCell ⟨w.heap.size + 1, 1, none⟩ (.int .i64 (e : Int))).heap.size) := by show _ ≤ _; rw [nblk_setCell]; exact HSZ.out
  go_wp2_with fail
  clear cV fV
  generalize w2.setCell ⟨w.heap.size + 1, 1, none⟩ (.int .i64 (e : Int)) = w3 at *
  clear w2
  go_at_call 79
  refine (get_isS b off L cap 7 1 (n : Nat) Nn.out _ (HC.out.kept HK.out) HL.out).mono ?_
  rintro x w' ⟨rfl, hw'⟩
  obtain rfl := Eq.symm hw'
  clear hw'
  have HO0 := hide (World.ownsRow_made (base := w3.heap.size) (e := 5) (size := 1) w3 #[] 0 (Nat.le_refl _) (by decide) rfl)
  have hkE := Keeps.alloc (Keeps.refl w3) (.cells #[] 5)
  have HCE := hide (cells_cut (HC.out.kept (HK.out.trans hkE)) 8 n HX8.out)
  have HRE := hide (HR.out.kept hkE)
  have HVE := hide (HV.out.kept hkE)
  have HKE := hide (HK.out.trans hkE)
  clear hkE
  go_wp2_with (at_builtin
               refine app_bysN rfl (.tmp 34) (.tmp 38) rfl w3.heap.size _ [] (cut L 8 n) rfl (some ⟨b, off + 8, none⟩) (cap - 8) n HXL.out rfl HCE.out (fun e => by cases e) HO0.out (by have := HN.out; rw [HXL.out]; simp; omega) (by simp) ?_
               intro v' wA ho hg
               obtain ⟨ab, cb, hve, hnc, hbo⟩ := Born.of_owns3 (w := w3) (xs := bys (cut L 8 n)) (n := (cut L 8 n).length) (by simpa using ho)
               rw [hve]
               have hrow : ∀ k, Value.ownBlock (.slice (some ⟨w3.heap.size, 0, none⟩) 0 0) = some k → w3.heap.size ≤ k := fun k hk => by simp [Value.ownBlock] at hk; omega
               have HNC := hide hnc
               have HY := hide hbo.toOwn
               have HYN : Hid (∀ x ∈ fp [(ab, bys (cut L 8 n))], x ≠ w.heap.size ∧ x ≠ w.heap.size + 1 ∧ w.heap.size ≤ x) := fun x hx => (by have h1 := hbo.new x hx; have h2 := HSZ.out; omega)
               replace HR := hide (own_grown HRE.out hg (fun x hx e => by have h1 := hrow x e; have h2 := HR.out.mem.lt x hx; omega))
               replace HV := hide (own_grown HVE.out hg (fun x hx e => by have h1 := hrow x e; have h2 := HV.out.mem.lt x hx; omega))
               replace HK := hide (Keeps.grown HKE.out hg (fun k hk => Nat.le_trans HK.out.size (hrow k hk)))
               have cV := own_cellS HV.out 2 (by simp) (v := .slice none 0 0) rfl
               have fV := own_freeS HV.out (by simp) 2
               have e0 := own_cellS HV.out 0 (by simp) (v := .int .i64 (q : Int)) rfl
               have e1 := own_cellS HV.out 1 (by simp) (v := .int .i64 (e : Int)) rfl
               clear ho hg hve hnc hbo hrow)
  clear cV fV e0 e1 HRE HVE HKE HCE HO0
  replace HV : Hid (Own (wA.setCell ⟨w.heap.size + 1, 2, none⟩ (.slice ab (cut L 8 n).length cb)) [(some ⟨w.heap.size + 1, 0, none⟩, [.int .i64 (q : Int), .int .i64 (e : Int), .slice ab (cut L 8 n).length cb])]) := own_set HV.out 2 (by simp) (.slice ab (cut L 8 n).length cb)
  replace HR := hide (own_setB (a := ⟨w.heap.size + 1, 2, none⟩) HR.out (.slice ab (cut L 8 n).length cb) (fp_ne HNV.out.symm))
  replace HY := hide (own_setB (a := ⟨w.heap.size + 1, 2, none⟩) HY.out (.slice ab (cut L 8 n).length cb) (fun x hx => (HYN.out x hx).2.1))
  replace HK := hide (HK.out.setCell (p := ⟨w.heap.size + 1, 2, none⟩) (Nat.le_succ _) (.slice ab (cut L 8 n).length cb))
  generalize wA.setCell ⟨w.heap.size + 1, 2, none⟩ (.slice ab (cut L 8 n).length cb) = wB at *
  clear HSZ
  go_at_call 39
  refine (secbytes_spec q e ab cb (cut L 8 n) wB HY.out.one HNC.out.1 (by have := HN.out; rw [HXL.out]; omega)).mono ?_
  rintro x wC ⟨v, rfl, ho, hk⟩
  rw [HOK.out]
  replace HR := hide (HR.out.kept hk)
  replace HV := hide (HV.out.kept hk)
  have HO := hide ho
  replace HK := hide (HK.out.trans hk)
  replace HY := hide (HY.out.kept hk)
  clear hk ho
  obtain ⟨ax, cx, hve, hcn, hbo⟩ : ∃ (ax : Option Addr) (cx : Nat), v = .slice ax (secR q e (cut L 8 n)).length cx ∧ (∃ bb ob, ax = some ⟨bb, ob, none⟩) ∧ Cells wC ax (bys (secR q e (cut L 8 n))) := by
    obtain ⟨ax, cx, hv, _, _, _, hown, _⟩ := Own.of_owns HO.out
    refine ⟨ax, cx, hv, ?_, hown.one⟩
    have hlen : (secR q e (cut L 8 n)).length = 128 := by unfold secR; rw [if_pos HOK.out, secL_length ((secB_true HOK.out).2.2.2.2)]
    rcases hown.one with h' | ⟨bb, ob, e, _⟩
    · rw [bys_nil] at h'; rw [h'] at hlen; simp at hlen
    · exact ⟨bb, ob, e⟩
  rw [hve]
  clear hve HO v
  obtain ⟨bb, ob, rfl⟩ := hcn
  have s1 := str_of (some ⟨bb, ob, none⟩) cx (secR q e (cut L 8 n)) wC bb ob rfl hbo
  have s2 := str_of (some ⟨b, off, none⟩) cap L wC b off rfl (HC.out.kept HK.out)
  have s3 : ((strL (secR q e (cut L 8 n))).toList == (strL L).toList) = false := by rw [strL_beq]; exact decide_eq_false HEQ.out
  generalize (secR q e (cut L 8 n)) = M at *
  clear hbo
  have c0 := own_cellS HR.out 0 (by simp) (v := .int .i64 0) rfl
  have c1 := own_cellS HR.out 1 (by simp) (v := .int .i64 0) rfl
  have c2 := own_cellS HR.out 2 (by simp) (v := .slice none 0 0) rfl
  have fR := own_freeS HR.out (by simp)
  have HF := hide (own_threeB HR.out (.int .i64 0) (.int .i64 0) (.slice none 0 0))
  have HK2 := hide (keeps_threeB HK.out (Nat.le_refl w.heap.size) (.int .i64 0) (.int .i64 0) (.slice none 0 0))
  go_wp2_with fail
  generalize (((wC.setCell ⟨w.heap.size, 0, none⟩ (.int .i64 0)).setCell ⟨w.heap.size, 1, none⟩ (.int .i64 0)).setCell ⟨w.heap.size, 2, none⟩ (.slice none 0 0)) = wF at *
  clear c0 c1 c2
  have c0 := own_cellS HF.out 0 (by simp) (v := .int .i64 0) rfl
  have c1 := own_cellS HF.out 1 (by simp) (v := .int .i64 0) rfl
  have c2 := own_cellS HF.out 2 (by simp) (v := .slice none 0 0) rfl
  refine bodyPost_ret (v := .tuple #[.agg #[.int .i64 0, .int .i64 0, .slice none 0 0], .bool false]) ?_ rfl (SrPost.no HSR.out HK2.out)
  simp [results, Tryz.results42, go_sem, c0, c1, c2]
set_option maxHeartbeats 4000000 in
theorem secspec_n_ok (b off : Nat) (L : List UInt8) (cap : Nat) (w : World) (hc : Cells w (some ⟨b, off, none⟩) (bys L)) (hl : L.length ≤ 16777216) (q e n : Nat) (eq : getV L 1 3 = (q : Nat)) (ee : getV L 4 3 = (e : Nat)) (en : getV L 7 1 = (n : Nat)) (hb : ¬ (n ≤ 100 ∧ L.length = 128)) (hok : secB q e (([] : List UInt8)).length = false) (hsr : srB L = false) :
    Calls Tryz.prog 42 #[.slice (some ⟨b, off, none⟩) L.length cap] w (SrPost w L) := by
  have hbR := born_alloc w #[.int .i64 0, .int .i64 0, .slice none 0 0] 72
  have hkR := Keeps.alloc (Keeps.refl w) (.cells #[.int .i64 0, .int .i64 0, .slice none 0 0] 72)
  have hbV := born_alloc (w.alloc (.cells #[.int .i64 0, .int .i64 0, .slice none 0 0] 72)) #[.int .i64 0, .int .i64 0, .slice none 0 0] 72
  have hkV := Keeps.alloc (Keeps.refl (w.alloc (.cells #[.int .i64 0, .int .i64 0, .slice none 0 0] 72))) (.cells #[.int .i64 0, .int .i64 0, .slice none 0 0] 72)
  dsimp only at hbR hbV
  rw [World.size_alloc] at hbV
  have HR := hide (hbR.toOwn.kept hkV)
  have HV := hide hbV.toOwn
  have HK := hide (hkR.trans hkV)
  have HSZ : Hid (w.heap.size + 2 ≤ ((w.alloc (.cells #[.int .i64 0, .int .i64 0, .slice none 0 0] 72)).alloc (.cells #[.int .i64 0, .int .i64 0, .slice none 0 0] 72)).heap.size) := by show _ ≤ _; simp
  have HC := hide hc
  have HL := hide hl
  have HOK := hide hok
  have HSR := hide hsr
  have Nq := hide eq
  have Ne := hide ee
  have Nn := hide en
  clear hbR hkR hbV hkV hc hl hok hsr eq ee en
  have hb2 : (decide ((n : Int) ≤ 100) && ((L.length : Int) == 128)) = false := by
    rw [Bool.eq_false_iff]
    intro h
    simp only [Bool.and_eq_true, decide_eq_true_eq, beq_iff_eq] at h
    exact hb ⟨by omega, by omega⟩
  by_cases hn2 : (n : Int) ≤ 100
  case' pos => have hb3 : ((L.length : Int) == 128) = false := by rw [decide_eq_true hn2, Bool.true_and] at hb2; exact hb2
  case' neg => have hb3 : decide ((n : Int) ≤ 100) = false := decide_eq_false hn2
  all_goals clear hb2 hb
  all_goals
    have HNV : Hid (w.heap.size + 1 ≠ w.heap.size) := by show _ ≠ _; omega
    go_enter Tryz.func42, Tryz.ntmps42
    go_wp2_with fail
    generalize (w.alloc (.cells #[.int .i64 0, .int .i64 0, .slice none 0 0] 72)).alloc (.cells #[.int .i64 0, .int .i64 0, .slice none 0 0] 72) = w1 at *
    go_at_call 79
    refine (get_isS b off L cap 1 3 (q : Nat) Nq.out _ (HC.out.kept HK.out) HL.out).mono ?_
    rintro x w' ⟨rfl, hw'⟩
    obtain rfl := Eq.symm hw'
    clear hw'
    have cV := own_cellS HV.out 0 (by simp) (v := .int .i64 0) rfl
    have fV := own_freeS HV.out (by simp) 0
    replace HV : Hid (Own (w1.setCell ⟨w.heap.size + 1, 0, none⟩ (.int .i64 (q : Int))) [(some ⟨w.heap.size + 1, 0, none⟩, [.int .i64 (q : Int), .int .i64 0, .slice none 0 0])]) := own_set HV.out 0 (by simp) (.int .i64 (q : Int))
    replace HR := hide (own_setB (a := ⟨w.heap.size + 1, 0, none⟩) HR.out (.int .i64 (q : Int)) (fp_ne HNV.out.symm))
    replace HK := hide (HK.out.setCell (p := ⟨w.heap.size + 1, 0, none⟩) (Nat.le_succ _) (.int .i64 (q : Int)))
    replace HSZ : Hid (w.heap.size + 2 ≤ (w1.setCell ⟨w.heap.size + 1, 0, none⟩ (.int .i64 (q : Int))).heap.size) := by show _ ≤ _; rw [nblk_setCell]; exact HSZ.out
    go_wp2_with fail
    clear cV fV
    generalize w1.setCell ⟨w.heap.size + 1, 0, none⟩ (.int .i64 (q : Int)) = w2 at *
    clear w1
    go_at_call 79
    refine (get_isS b off L cap 4 3 (e : Nat) Ne.out _ (HC.out.kept HK.out) HL.out).mono ?_
    rintro x w' ⟨rfl, hw'⟩
    obtain rfl := Eq.symm hw'
    clear hw'
    have cV := own_cellS HV.out 1 (by simp) (v := .int .i64 0) rfl
    have fV := own_freeS HV.out (by simp) 1
    replace HV : Hid (Own (w2.setCell ⟨w.heap.size + 1, 1, none⟩ (.int .i64 (e : Int))) [(some ⟨w.heap.size + 1, 0, none⟩, [.int .i64 (q : Int), .int .i64 (e : Int), .slice none 0 0])]) := own_set HV.out 1 (by simp) (.int .i64 (e : Int))
    replace HR := hide (own_setB (a := ⟨w.heap.size + 1, 1, none⟩) HR.out (.int .i64 (e : Int)) (fp_ne HNV.out.symm))
    replace HK := hide (HK.out.setCell (p := ⟨w.heap.size + 1, 1, none⟩) (Nat.le_succ _) (.int .i64 (e : Int)))
    replace HSZ : Hid (w.heap.size + 2 ≤ (w2.setCell ⟨w.heap.size + 1, 1, none⟩ (.int .i64 (e : Int))).heap.size) := by show _ ≤ _; rw [nblk_setCell]; exact HSZ.out
    go_wp2_with fail
    clear cV fV
    generalize w2.setCell ⟨w.heap.size + 1, 1, none⟩ (.int .i64 (e : Int)) = w3 at *
    clear w2
    go_at_call 79
    refine (get_isS b off L cap 7 1 (n : Nat) Nn.out _ (HC.out.kept HK.out) HL.out).mono ?_
    rintro x w' ⟨rfl, hw'⟩
    obtain rfl := Eq.symm hw'
    clear hw'
    have e0 := own_cellS HV.out 0 (by simp) (v := .int .i64 (q : Int)) rfl
    have e1 := own_cellS HV.out 1 (by simp) (v := .int .i64 (e : Int)) rfl
    have e2 := own_cellS HV.out 2 (by simp) (v := .slice none 0 0) rfl
    go_wp2_with fail
    clear e0 e1 e2 HSZ
    go_at_call 39
    refine (secbytes_spec q e none 0 [] w3 (Cells.nil _ _) (fun _ => rfl) (by simp)).mono ?_
    rintro x wC ⟨v, rfl, ho, hk⟩
    rw [HOK.out]
    replace HR := hide (HR.out.kept hk)
    replace HV := hide (HV.out.kept hk)
    have HO := hide ho
    replace HK := hide (HK.out.trans hk)
    clear hk ho
    have c0 := own_cellS HR.out 0 (by simp) (v := .int .i64 0) rfl
    have c1 := own_cellS HR.out 1 (by simp) (v := .int .i64 0) rfl
    have c2 := own_cellS HR.out 2 (by simp) (v := .slice none 0 0) rfl
    have fR := own_freeS HR.out (by simp)
    have HF := hide (own_threeB HR.out (.int .i64 0) (.int .i64 0) (.slice none 0 0))
    have HK2 := hide (keeps_threeB HK.out (Nat.le_refl w.heap.size) (.int .i64 0) (.int .i64 0) (.slice none 0 0))
    go_wp2_with fail
    generalize (((wC.setCell ⟨w.heap.size, 0, none⟩ (.int .i64 0)).setCell ⟨w.heap.size, 1, none⟩ (.int .i64 0)).setCell ⟨w.heap.size, 2, none⟩ (.slice none 0 0)) = wF at *
    clear c0 c1 c2
    have c0 := own_cellS HF.out 0 (by simp) (v := .int .i64 0) rfl
    have c1 := own_cellS HF.out 1 (by simp) (v := .int .i64 0) rfl
    have c2 := own_cellS HF.out 2 (by simp) (v := .slice none 0 0) rfl
    refine bodyPost_ret (v := .tuple #[.agg #[.int .i64 0, .int .i64 0, .slice none 0 0], .bool false]) ?_ rfl (SrPost.no HSR.out HK2.out)
    simp [results, Tryz.results42, go_sem, c0, c1, c2]
set_option maxHeartbeats 4000000 in
theorem secspec_n_ne (b off : Nat) (L : List UInt8) (cap : Nat) (w : World) (hc : Cells w (some ⟨b, off, none⟩) (bys L)) (hl : L.length ≤ 16777216) (q e n : Nat) (eq : getV L 1 3 = (q : Nat)) (ee : getV L 4 3 = (e : Nat)) (en : getV L 7 1 = (n : Nat)) (hb : ¬ (n ≤ 100 ∧ L.length = 128)) (hok : secB q e (([] : List UInt8)).length = true) (heq : secR q e (([] : List UInt8)) ≠ L) (hsr : srB L = false) :
    Calls Tryz.prog 42 #[.slice (some ⟨b, off, none⟩) L.length cap] w (SrPost w L) := by
  have hbR := born_alloc w #[.int .i64 0, .int .i64 0, .slice none 0 0] 72
  have hkR := Keeps.alloc (Keeps.refl w) (.cells #[.int .i64 0, .int .i64 0, .slice none 0 0] 72)
  have hbV := born_alloc (w.alloc (.cells #[.int .i64 0, .int .i64 0, .slice none 0 0] 72)) #[.int .i64 0, .int .i64 0, .slice none 0 0] 72
  have hkV := Keeps.alloc (Keeps.refl (w.alloc (.cells #[.int .i64 0, .int .i64 0, .slice none 0 0] 72))) (.cells #[.int .i64 0, .int .i64 0, .slice none 0 0] 72)
  dsimp only at hbR hbV
  rw [World.size_alloc] at hbV
  have HR := hide (hbR.toOwn.kept hkV)
  have HV := hide hbV.toOwn
  have HK := hide (hkR.trans hkV)
  have HSZ : Hid (w.heap.size + 2 ≤ ((w.alloc (.cells #[.int .i64 0, .int .i64 0, .slice none 0 0] 72)).alloc (.cells #[.int .i64 0, .int .i64 0, .slice none 0 0] 72)).heap.size) := by show _ ≤ _; simp
  have HC := hide hc
  have HL := hide hl
  have HOK := hide hok
  have HSR := hide hsr
  have Nq := hide eq
  have Ne := hide ee
  have Nn := hide en
  clear hbR hkR hbV hkV hc hl hok hsr eq ee en
  have HEQ := hide heq
  clear heq
  have hb2 : (decide ((n : Int) ≤ 100) && ((L.length : Int) == 128)) = false := by
    rw [Bool.eq_false_iff]
    intro h
    simp only [Bool.and_eq_true, decide_eq_true_eq, beq_iff_eq] at h
    exact hb ⟨by omega, by omega⟩
  by_cases hn2 : (n : Int) ≤ 100
  case' pos => have hb3 : ((L.length : Int) == 128) = false := by rw [decide_eq_true hn2, Bool.true_and] at hb2; exact hb2
  case' neg => have hb3 : decide ((n : Int) ≤ 100) = false := decide_eq_false hn2
  all_goals clear hb2 hb
  all_goals
    have HNV : Hid (w.heap.size + 1 ≠ w.heap.size) := by show _ ≠ _; omega
    go_enter Tryz.func42, Tryz.ntmps42
    go_wp2_with fail
    generalize (w.alloc (.cells #[.int .i64 0, .int .i64 0, .slice none 0 0] 72)).alloc (.cells #[.int .i64 0, .int .i64 0, .slice none 0 0] 72) = w1 at *
    go_at_call 79
    refine (get_isS b off L cap 1 3 (q : Nat) Nq.out _ (HC.out.kept HK.out) HL.out).mono ?_
    rintro x w' ⟨rfl, hw'⟩
    obtain rfl := Eq.symm hw'
    clear hw'
    have cV := own_cellS HV.out 0 (by simp) (v := .int .i64 0) rfl
    have fV := own_freeS HV.out (by simp) 0
    replace HV : Hid (Own (w1.setCell ⟨w.heap.size + 1, 0, none⟩ (.int .i64 (q : Int))) [(some ⟨w.heap.size + 1, 0, none⟩, [.int .i64 (q : Int), .int .i64 0, .slice none 0 0])]) := own_set HV.out 0 (by simp) (.int .i64 (q : Int))
    replace HR := hide (own_setB (a := ⟨w.heap.size + 1, 0, none⟩) HR.out (.int .i64 (q : Int)) (fp_ne HNV.out.symm))
    replace HK := hide (HK.out.setCell (p := ⟨w.heap.size + 1, 0, none⟩) (Nat.le_succ _) (.int .i64 (q : Int)))
    replace HSZ : Hid (w.heap.size + 2 ≤ (w1.setCell ⟨w.heap.size + 1, 0, none⟩ (.int .i64 (q : Int))).heap.size) := by show _ ≤ _; rw [nblk_setCell]; exact HSZ.out
    go_wp2_with fail
    clear cV fV
    generalize w1.setCell ⟨w.heap.size + 1, 0, none⟩ (.int .i64 (q : Int)) = w2 at *
    clear w1
    go_at_call 79
    refine (get_isS b off L cap 4 3 (e : Nat) Ne.out _ (HC.out.kept HK.out) HL.out).mono ?_
    rintro x w' ⟨rfl, hw'⟩
    obtain rfl := Eq.symm hw'
    clear hw'
    have cV := own_cellS HV.out 1 (by simp) (v := .int .i64 0) rfl
    have fV := own_freeS HV.out (by simp) 1
    replace HV : Hid (Own (w2.setCell ⟨w.heap.size + 1, 1, none⟩ (.int .i64 (e : Int))) [(some ⟨w.heap.size + 1, 0, none⟩, [.int .i64 (q : Int), .int .i64 (e : Int), .slice none 0 0])]) := own_set HV.out 1 (by simp) (.int .i64 (e : Int))
    replace HR := hide (own_setB (a := ⟨w.heap.size + 1, 1, none⟩) HR.out (.int .i64 (e : Int)) (fp_ne HNV.out.symm))
    replace HK := hide (HK.out.setCell (p := ⟨w.heap.size + 1, 1, none⟩) (Nat.le_succ _) (.int .i64 (e : Int)))
    replace HSZ : Hid (w.heap.size + 2 ≤ (w2.setCell ⟨w.heap.size + 1, 1, none⟩ (.int .i64 (e : Int))).heap.size) := by show _ ≤ _; rw [nblk_setCell]; exact HSZ.out
    go_wp2_with fail
    clear cV fV
    generalize w2.setCell ⟨w.heap.size + 1, 1, none⟩ (.int .i64 (e : Int)) = w3 at *
    clear w2
    go_at_call 79
    refine (get_isS b off L cap 7 1 (n : Nat) Nn.out _ (HC.out.kept HK.out) HL.out).mono ?_
    rintro x w' ⟨rfl, hw'⟩
    obtain rfl := Eq.symm hw'
    clear hw'
    have e0 := own_cellS HV.out 0 (by simp) (v := .int .i64 (q : Int)) rfl
    have e1 := own_cellS HV.out 1 (by simp) (v := .int .i64 (e : Int)) rfl
    have e2 := own_cellS HV.out 2 (by simp) (v := .slice none 0 0) rfl
    go_wp2_with fail
    clear e0 e1 e2 HSZ
    go_at_call 39
    refine (secbytes_spec q e none 0 [] w3 (Cells.nil _ _) (fun _ => rfl) (by simp)).mono ?_
    rintro x wC ⟨v, rfl, ho, hk⟩
    rw [HOK.out]
    replace HR := hide (HR.out.kept hk)
    replace HV := hide (HV.out.kept hk)
    have HO := hide ho
    replace HK := hide (HK.out.trans hk)
    clear hk ho
    obtain ⟨ax, cx, hve, hcn, hbo⟩ : ∃ (ax : Option Addr) (cx : Nat), v = .slice ax (secR q e (([] : List UInt8))).length cx ∧ (∃ bb ob, ax = some ⟨bb, ob, none⟩) ∧ Cells wC ax (bys (secR q e (([] : List UInt8)))) := by
      obtain ⟨ax, cx, hv, _, _, _, hown, _⟩ := Own.of_owns HO.out
      refine ⟨ax, cx, hv, ?_, hown.one⟩
      have hlen : (secR q e (([] : List UInt8))).length = 128 := by unfold secR; rw [if_pos HOK.out, secL_length ((secB_true HOK.out).2.2.2.2)]
      rcases hown.one with h' | ⟨bb, ob, e, _⟩
      · rw [bys_nil] at h'; rw [h'] at hlen; simp at hlen
      · exact ⟨bb, ob, e⟩
    rw [hve]
    clear hve HO v
    obtain ⟨bb, ob, rfl⟩ := hcn
    have s1 := str_of (some ⟨bb, ob, none⟩) cx (secR q e (([] : List UInt8))) wC bb ob rfl hbo
    have s2 := str_of (some ⟨b, off, none⟩) cap L wC b off rfl (HC.out.kept HK.out)
    have s3 : ((strL (secR q e (([] : List UInt8)))).toList == (strL L).toList) = false := by rw [strL_beq]; exact decide_eq_false HEQ.out
    generalize (secR q e (([] : List UInt8))) = M at *
    clear hbo
    have c0 := own_cellS HR.out 0 (by simp) (v := .int .i64 0) rfl
    have c1 := own_cellS HR.out 1 (by simp) (v := .int .i64 0) rfl
    have c2 := own_cellS HR.out 2 (by simp) (v := .slice none 0 0) rfl
    have fR := own_freeS HR.out (by simp)
    have HF := hide (own_threeB HR.out (.int .i64 0) (.int .i64 0) (.slice none 0 0))
    have HK2 := hide (keeps_threeB HK.out (Nat.le_refl w.heap.size) (.int .i64 0) (.int .i64 0) (.slice none 0 0))
    go_wp2_with fail
    generalize (((wC.setCell ⟨w.heap.size, 0, none⟩ (.int .i64 0)).setCell ⟨w.heap.size, 1, none⟩ (.int .i64 0)).setCell ⟨w.heap.size, 2, none⟩ (.slice none 0 0)) = wF at *
    clear c0 c1 c2
    have c0 := own_cellS HF.out 0 (by simp) (v := .int .i64 0) rfl
    have c1 := own_cellS HF.out 1 (by simp) (v := .int .i64 0) rfl
    have c2 := own_cellS HF.out 2 (by simp) (v := .slice none 0 0) rfl
    refine bodyPost_ret (v := .tuple #[.agg #[.int .i64 0, .int .i64 0, .slice none 0 0], .bool false]) ?_ rfl (SrPost.no HSR.out HK2.out)
    simp [results, Tryz.results42, go_sem, c0, c1, c2]
end Go.Proofs.YtkdnddckogbgaaaGreatDoor
