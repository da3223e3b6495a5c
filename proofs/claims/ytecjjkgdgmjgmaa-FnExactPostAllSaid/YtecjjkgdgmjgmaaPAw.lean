/- PostAll of both, and the laws' words over lists of postings, as the law takes them. -/
import Derived.Test.YtecjjkgdgmjgmaaPAi
import Derived.Test.YtecjjkgdgmjgmaaPGR
namespace Go.Proofs.Ytecjjkgdgmjgmaa
open Go.RowKit Go.Deep
set_option linter.unusedVariables false
/-- The lists of a list of postings. -/
abbrev psg (g : Nat) (nb : List Pg) : List Seg := (some ⟨g, 0, none⟩, pcells nb) :: nb.map Pg.seg
theorem key_length {nb ds : List Pg} (h : nb.map Pg.key = ds.map Pg.key) : nb.length = ds.length := by have := congrArg List.length h; simpa using this
theorem key_len {nb ds : List Pg} {B : Nat} (h : nb.map Pg.key = ds.map Pg.key) (hd : ∀ x ∈ ds, x.b.L.length ≤ B) : ∀ x ∈ nb, x.b.L.length ≤ B := by
  intro x hx
  have h1 : x.key ∈ ds.map Pg.key := by rw [← h]; exact List.mem_map.2 ⟨x, hx, rfl⟩
  obtain ⟨y, hy, e⟩ := List.mem_map.1 h1
  have e2 : y.b.L = x.b.L := congrArg Prod.snd e
  rw [← e2]
  exact hd y hy
theorem key_tot {nb ds : List Pg} (h : nb.map Pg.key = ds.map Pg.key) : totP nb = totP ds := by
  have e : ∀ l : List Pg, totP l = ((l.map Pg.key).map fun k => k.2.length).sum := fun l => by simp [totP, Pg.key, Function.comp_def]
  rw [e, e, h]
theorem aL_len (id : Int) (L : List Ln) (K : List (Int × List Ln)) : (aL id L K).length ≤ 320 := by
  unfold aL
  split
  · rename_i h
    have := (ledgB_lines (aAll_ok h K K.length (Nat.le_refl _)).1).2
    rwa [List.take_length] at this
  · simp
theorem toPS (a : Option Addr) (cap : Nat) (ds : List Pg) (w : World) (hc : Cells w a (pcells ds)) (hm : Mem w (ds.map Pg.seg)) (hl : ds.length ≤ 1048576) (ht : ∀ x ∈ ds, x.b.L.length ≤ 1048576) :
    Calls Try.prog 31 #[.slice a ds.length cap] w fun e w' => ∃ (g : Nat) (nb : List Pg), e = .returned (.slice (some ⟨g, 0, none⟩) ds.length ds.length) ∧ nb.map Pg.key = ds.map Pg.key ∧ Born w w' (psg g nb) ∧ Keeps w w' := by
  refine (toPostingS_k a cap ds w hc hm hl ht).mono ?_
  rintro e w' ⟨g, nb, he, hk, _, hb, hkk⟩
  exact ⟨g, nb, he, hk, hb, hkk⟩
theorem eqPS (g g' m : Nat) (nb nb' : List Pg) (w : World) (he : nb'.map Pg.key = nb.map Pg.key) (hm : nb.length = m) (h : Mem w (psg g nb)) (h' : Mem w (psg g' nb')) (hl : m ≤ 1048576) (ht : ∀ x ∈ nb, x.b.L.length ≤ 1048576) :
    Calls Try.prog 33 #[.slice (some ⟨g, 0, none⟩) m m, .slice (some ⟨g', 0, none⟩) m m] w fun e w' => e = .returned (.bool true) ∧ Keeps w w' := by
  have e' : nb'.length = m := (key_length he).trans hm
  have k := eqPostingS_k (some ⟨g, 0, none⟩) (some ⟨g', 0, none⟩) m m nb nb' w he (mem_cons.1 h).1 (mem_cons.1 h).2 (mem_cons.1 h').1 (mem_cons.1 h').2 (by omega) ht
  rw [hm, e'] at k
  exact k
theorem markPS (g m : Nat) (nb : List Pg) (n : Nat) (w : World) (hm : nb.length = m) (h : Own w (psg g nb)) (hl : m ≤ 1048576) (ht : totP nb ≤ 1048576) (hn : n ≤ 900000000) :
    Calls Try.prog 34 #[.slice (some ⟨g, 0, none⟩) m m, .int .i64 (n : Int)] w fun e w' => ∃ z : Nat, e = .returned (.int .i64 (z : Int)) ∧ Turn (fp (psg g nb)) w w' := by
  have k := markPostingS_k (some ⟨g, 0, none⟩) m nb n w h (by omega) ht hn
  rw [hm] at k
  refine k.mono ?_
  rintro e w' ⟨he, _, htu⟩
  exact ⟨_, he, htu⟩
theorem postallS (id : Int) (L : List Ln) (ds : List Pg) (b g : Nat) (nb : List Pg) (w : World) (hk : nb.map Pg.key = ds.map Pg.key) (hc : Cells w (some ⟨b, 0, none⟩) (flat L)) (hm : Mem w (psg g nb)) (hl : L.length ≤ 1048576) (hld : ds.length ≤ 1048576) (ht : ∀ x ∈ ds, x.b.L.length ≤ 1048576) :
    Calls Try.prog 30 #[.agg #[.int .i64 id, .slice (some ⟨b, 0, none⟩) L.length L.length], .slice (some ⟨g, 0, none⟩) ds.length ds.length] w fun e w' => PostO (aid id L (ds.map Pg.key)) (aL id L (ds.map Pg.key)) (acode id L (ds.map Pg.key)) w w' e ∧ Keeps w w' := by
  have e := key_length hk
  have k := postall_spec id (some ⟨b, 0, none⟩) (some ⟨g, 0, none⟩) L.length ds.length L nb w hc (mem_cons.1 hm).1 (mem_cons.1 hm).2 (fun e => nomatch e) hl (by omega) (key_len hk ht)
  rw [e, hk] at k
  exact k
theorem postallI (id : Int) (L : List Ln) (ds : List Pg) (b g : Nat) (nb : List Pg) (w : World) (hk : nb.map Pg.key = ds.map Pg.key) (hc : Cells w (some ⟨b, 0, none⟩) (flat L)) (hm : Mem w (psg g nb)) (hl : L.length ≤ 1048576) (hld : ds.length ≤ 1048576) (ht : ∀ x ∈ ds, x.b.L.length ≤ 1048576) :
    Calls Try.prog 32 #[.agg #[.int .i64 id, .slice (some ⟨b, 0, none⟩) L.length L.length], .slice (some ⟨g, 0, none⟩) ds.length ds.length] w fun e w' => PostO (aid id L (ds.map Pg.key)) (aL id L (ds.map Pg.key)) (acode id L (ds.map Pg.key)) w w' e ∧ Keeps w w' := by
  have e := key_length hk
  have k := postall_impl id (some ⟨b, 0, none⟩) (some ⟨g, 0, none⟩) L.length ds.length L nb w hc (mem_cons.1 hm).1 (mem_cons.1 hm).2 hl (by omega) (key_len hk ht)
  rw [e, hk] at k
  exact k
end Go.Proofs.Ytecjjkgdgmjgmaa
