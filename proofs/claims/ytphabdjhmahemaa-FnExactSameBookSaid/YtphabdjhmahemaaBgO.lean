/- Books among a law's arguments. -/
import Derived.Test.YtphabdjhmahemaaBgB
import Derived.Deep.RegionHeld3
import Derived.ChangeSame
import Derived.WideShapes
import Derived.Below
namespace Go.Proofs.Ytphabdjhmahemaa
open Go.RowKit Go.ChangeShapes Go.WideShapes Go.Deep
set_option linter.unusedVariables false
set_option maxRecDepth 100000

section
variable {H : Type} {enc : TypeId × Value → H} {W : World} {n : Nat} {cs : List Value} {y : DataW H × List MemPlace} {base : Nat} {sp : Nat → Bool} {hd : Bool}
theorem cellsBoolF : Try.prog.cellsOf 4 = 1 := by kernel_rfl
theorem cellsChan : Try.prog.cellsOf 128 = 7 := by kernel_rfl
theorem open_Chan (h : DataW.trod enc Try.prog W base sp hd n 128 cs = some y) : ∃ x : Chn, cs = x.cells := by
  obtain ⟨xs, n, _, _, hl, hlen, hf⟩ := DataW.trod_struct Try.underlying128 h
  rw [cellsChan] at hl
  match xs, hlen with
  | [x0, x1, x2, x3, x4, x5, x6], _ =>
    match cs, hl with
    | [v0, v1, v2, v3, v4, v5, v6], _ =>
      have h0 := hf 0 _ rfl
      have h1 := hf 1 _ rfl
      have h2 := hf 2 _ rfl
      have h3 := hf 3 _ rfl
      have h4 := hf 4 _ rfl
      have h5 := hf 5 _ rfl
      have h6 := hf 6 _ rfl
      simp [cellsInt] at h0 h1 h2 h3 h4 h5 h6
      obtain ⟨y0, e0, _, _⟩ := DataW.trod_int Try.underlying3 h0
      obtain ⟨y1, e1, _, _⟩ := DataW.trod_int Try.underlying3 h1
      obtain ⟨y2, e2, _, _⟩ := DataW.trod_int Try.underlying3 h2
      obtain ⟨y3, e3, _, _⟩ := DataW.trod_int Try.underlying3 h3
      obtain ⟨y4, e4, _, _⟩ := DataW.trod_int Try.underlying3 h4
      obtain ⟨y5, e5, _, _⟩ := DataW.trod_int Try.underlying3 h5
      obtain ⟨y6, e6, _, _⟩ := DataW.trod_int Try.underlying3 h6
      simp at e0 e1 e2 e3 e4 e5 e6
      exact ⟨⟨y0, y1, y2, y3, y4, y5, y6⟩, by rw [e0, e1, e2, e3, e4, e5, e6]; rfl⟩
theorem chs_of : ∀ M : List (List Value), (∀ c ∈ M, c.length = 7 ∧ ∃ x : Chn, c = x.cells) → ∃ L : List Chn, L.length = M.length ∧ M.flatten = chs L
  | [], _ => ⟨[], rfl, rfl⟩
  | c :: M, h => by
    obtain ⟨L, hl, hf⟩ := chs_of M (fun c hc => h c (List.mem_cons_of_mem _ hc))
    obtain ⟨_, x, rfl⟩ := h c (List.mem_cons_self ..)
    exact ⟨x :: L, by simp [hl], by simp [chs, hf]⟩
theorem open_Chans {v : Value} (h : DataW.trod enc Try.prog W base sp hd n 56 [v] = some y) :
    ∃ (a : Option Addr) (cap : Nat) (L : List Chn), v = .slice a L.length cap ∧ Cells W a (chs L) ∧ ((a = none → cap = 0) ∧ L.length ≤ cap) ∧ L.length ≤ 9223372036854775807 := by
  obtain ⟨a, cap, M, hv, hq, hc, hn, hl⟩ := open_cells' Try.underlying56 cellsChan (by decide) h (fun c => ∃ x : Chn, c = x.cells) (fun _ _ _ h => open_Chan h)
  obtain ⟨L, e, ef⟩ := chs_of M hq
  exact ⟨a, cap, L, by rw [hv, e], by rw [← ef]; exact hc, ⟨hn.1, by rw [e]; exact hn.2⟩, by rw [e]; exact hl⟩
theorem cellsHtlc : Try.prog.cellsOf 130 = 7 := by kernel_rfl
theorem open_Htlc (h : DataW.trod enc Try.prog W base sp hd n 130 cs = some y) : ∃ x : Htl, cs = x.cells := by
  obtain ⟨xs, n, _, _, hl, hlen, hf⟩ := DataW.trod_struct Try.underlying130 h
  rw [cellsHtlc] at hl
  match xs, hlen with
  | [x0, x1, x2, x3, x4, x5, x6], _ =>
    match cs, hl with
    | [v0, v1, v2, v3, v4, v5, v6], _ =>
      have h0 := hf 0 _ rfl
      have h1 := hf 1 _ rfl
      have h2 := hf 2 _ rfl
      have h3 := hf 3 _ rfl
      have h4 := hf 4 _ rfl
      have h5 := hf 5 _ rfl
      have h6 := hf 6 _ rfl
      simp [cellsInt, cellsBoolF] at h0 h1 h2 h3 h4 h5 h6
      obtain ⟨y0, e0, _, _⟩ := DataW.trod_int Try.underlying3 h0
      obtain ⟨y1, e1, _, _⟩ := DataW.trod_int Try.underlying3 h1
      obtain ⟨y2, e2, _, _⟩ := DataW.trod_int Try.underlying3 h2
      obtain ⟨y3, e3, _, _⟩ := DataW.trod_int Try.underlying3 h3
      obtain ⟨y4, e4, _, _⟩ := DataW.trod_int Try.underlying3 h4
      obtain ⟨y5, e5, _⟩ := DataW.trod_bool Try.underlying4 h5
      obtain ⟨y6, e6, _, _⟩ := DataW.trod_int Try.underlying3 h6
      simp at e0 e1 e2 e3 e4 e5 e6
      exact ⟨⟨y0, y1, y2, y3, y4, y5, y6⟩, by rw [e0, e1, e2, e3, e4, e5, e6]; rfl⟩
theorem hts_of : ∀ M : List (List Value), (∀ c ∈ M, c.length = 7 ∧ ∃ x : Htl, c = x.cells) → ∃ L : List Htl, L.length = M.length ∧ M.flatten = hts L
  | [], _ => ⟨[], rfl, rfl⟩
  | c :: M, h => by
    obtain ⟨L, hl, hf⟩ := hts_of M (fun c hc => h c (List.mem_cons_of_mem _ hc))
    obtain ⟨_, x, rfl⟩ := h c (List.mem_cons_self ..)
    exact ⟨x :: L, by simp [hl], by simp [hts, hf]⟩
theorem open_Htlcs {v : Value} (h : DataW.trod enc Try.prog W base sp hd n 57 [v] = some y) :
    ∃ (a : Option Addr) (cap : Nat) (L : List Htl), v = .slice a L.length cap ∧ Cells W a (hts L) ∧ ((a = none → cap = 0) ∧ L.length ≤ cap) ∧ L.length ≤ 9223372036854775807 := by
  obtain ⟨a, cap, M, hv, hq, hc, hn, hl⟩ := open_cells' Try.underlying57 cellsHtlc (by decide) h (fun c => ∃ x : Htl, c = x.cells) (fun _ _ _ h => open_Htlc h)
  obtain ⟨L, e, ef⟩ := hts_of M hq
  exact ⟨a, cap, L, by rw [hv, e], by rw [← ef]; exact hc, ⟨hn.1, by rw [e]; exact hn.2⟩, by rw [e]; exact hl⟩
theorem cellsCircle : Try.prog.cellsOf 132 = 5 := by kernel_rfl
theorem open_Circle (h : DataW.trod enc Try.prog W base sp hd n 132 cs = some y) : ∃ x : Crc, cs = x.cells := by
  obtain ⟨xs, n, _, _, hl, hlen, hf⟩ := DataW.trod_struct Try.underlying132 h
  rw [cellsCircle] at hl
  match xs, hlen with
  | [x0, x1, x2, x3, x4], _ =>
    match cs, hl with
    | [v0, v1, v2, v3, v4], _ =>
      have h0 := hf 0 _ rfl
      have h1 := hf 1 _ rfl
      have h2 := hf 2 _ rfl
      have h3 := hf 3 _ rfl
      have h4 := hf 4 _ rfl
      simp [cellsInt] at h0 h1 h2 h3 h4
      obtain ⟨y0, e0, _, _⟩ := DataW.trod_int Try.underlying3 h0
      obtain ⟨y1, e1, _, _⟩ := DataW.trod_int Try.underlying3 h1
      obtain ⟨y2, e2, _, _⟩ := DataW.trod_int Try.underlying3 h2
      obtain ⟨y3, e3, _, _⟩ := DataW.trod_int Try.underlying3 h3
      obtain ⟨y4, e4, _, _⟩ := DataW.trod_int Try.underlying3 h4
      simp at e0 e1 e2 e3 e4
      exact ⟨⟨y0, y1, y2, y3, y4⟩, by rw [e0, e1, e2, e3, e4]; rfl⟩
theorem crs_of : ∀ M : List (List Value), (∀ c ∈ M, c.length = 5 ∧ ∃ x : Crc, c = x.cells) → ∃ L : List Crc, L.length = M.length ∧ M.flatten = crs L
  | [], _ => ⟨[], rfl, rfl⟩
  | c :: M, h => by
    obtain ⟨L, hl, hf⟩ := crs_of M (fun c hc => h c (List.mem_cons_of_mem _ hc))
    obtain ⟨_, x, rfl⟩ := h c (List.mem_cons_self ..)
    exact ⟨x :: L, by simp [hl], by simp [crs, hf]⟩
theorem open_Circles {v : Value} (h : DataW.trod enc Try.prog W base sp hd n 58 [v] = some y) :
    ∃ (a : Option Addr) (cap : Nat) (L : List Crc), v = .slice a L.length cap ∧ Cells W a (crs L) ∧ ((a = none → cap = 0) ∧ L.length ≤ cap) ∧ L.length ≤ 9223372036854775807 := by
  obtain ⟨a, cap, M, hv, hq, hc, hn, hl⟩ := open_cells' Try.underlying58 cellsCircle (by decide) h (fun c => ∃ x : Crc, c = x.cells) (fun _ _ _ h => open_Circle h)
  obtain ⟨L, e, ef⟩ := crs_of M hq
  exact ⟨a, cap, L, by rw [hv, e], by rw [← ef]; exact hc, ⟨hn.1, by rw [e]; exact hn.2⟩, by rw [e]; exact hl⟩
theorem cellsBook : Try.prog.cellsOf 60 = 6 := by kernel_rfl
theorem cellsChans : Try.prog.cellsOf 56 = 1 := by kernel_rfl
theorem cellsHtlcs : Try.prog.cellsOf 57 = 1 := by kernel_rfl
theorem cellsCircles : Try.prog.cellsOf 58 = 1 := by kernel_rfl
variable {v : Value} {d : DataW H} {ps : List MemPlace}
theorem book_row {b0 : Nat} (hv : Value.okWide Try.prog W .any b0 60 v) (h : DataW.Trod enc Try.prog W base sp hd 60 v d ps) :
    ∃ B : Bo, v = B.v ∧ Mem W B.segs ∧ B.fit ∧ B.big := by
  obtain ⟨cs, rfl, hz⟩ := okWide_struct Try.underlying60 hv
  obtain ⟨m, h⟩ := h
  obtain ⟨xs, n, _, _, hl, hlen, hf⟩ := DataW.trod_struct Try.underlying60 h
  rw [cellsBook] at hz
  match xs, hlen with
  | [x0, x1, x2, x3, x4, x5], _ =>
    match cs, hz with
    | ⟨[v0, v1, v2, v3, v4, v5]⟩, _ =>
      have h0 := hf 0 _ rfl
      have h1 := hf 1 _ rfl
      have h2 := hf 2 _ rfl
      have h3 := hf 3 _ rfl
      have h4 := hf 4 _ rfl
      have h5 := hf 5 _ rfl
      simp [Value.cells, cellsInt, cellsChans, cellsHtlcs, cellsCircles] at h0 h1 h2 h3 h4 h5
      obtain ⟨tk, e0, _, _⟩ := DataW.trod_int Try.underlying3 h0
      obtain ⟨nx, e1, _, _⟩ := DataW.trod_int Try.underlying3 h1
      obtain ⟨wa, e2, _, _⟩ := DataW.trod_int Try.underlying3 h2
      obtain ⟨ca, cc, C, e3, c3, f3, l3⟩ := open_Chans h3
      obtain ⟨ha, hc, Hs, e4, c4, f4, l4⟩ := open_Htlcs h4
      obtain ⟨ra, rc, R, e5, c5, f5, l5⟩ := open_Circles h5
      simp at e0 e1 e2
      exact ⟨⟨tk, nx, wa, ca, cc, C, ha, hc, Hs, ra, rc, R⟩, by rw [e0, e1, e2, e3, e4, e5]; rfl, mem_cons.2 ⟨c3, mem_cons.2 ⟨c4, mem_cons.2 ⟨c5, Mem.nil _⟩⟩⟩, ⟨f3.1, f4.1, f5.1, f3.2, f4.2, f5.2⟩, l3, l4, l5⟩
end
end Go.Proofs.Ytphabdjhmahemaa
