/- The book as data: channels, payments, circles; their lists in memory. -/
import Derived.Test.YtjihinkjcplgcaaDoorInt0
import Derived.Test.YtjihinkjcplgcaaDoorJam2
namespace Go.Proofs.YtjihinkjcplgcaaDoor
open Go.RowKit Go.Deep
set_option linter.unusedVariables false
set_option maxRecDepth 10000

structure Chn where
  id : Int
  sz : Int
  lo : Int
  re : Int
  ba : Int
  pp : Int
  sc : Int
def Chn.cells (x : Chn) : List Value := [.int .i64 x.id, .int .i64 x.sz, .int .i64 x.lo, .int .i64 x.re, .int .i64 x.ba, .int .i64 x.pp, .int .i64 x.sc]
def chs (xs : List Chn) : List Value := xs.flatMap Chn.cells
theorem chs_len (xs : List Chn) : (chs xs).length = xs.length * 7 := flatMap_len (f := Chn.cells) (sz := 7) (fun _ => rfl) xs
theorem chs_append (xs ys : List Chn) : chs (xs ++ ys) = chs xs ++ chs ys := by simp [chs]
theorem chs_at {w : World} {a : Option Addr} {xs : List Chn} (h : Cells w a (chs xs)) (k : Nat) (hk : k < xs.length) :
    ∃ b off, a = some ⟨b, off, none⟩ ∧ w.cell? ⟨b, off + k * 7, none⟩ = some (.int .i64 xs[k].id) ∧ w.cell? ⟨b, off + k * 7 + 1, none⟩ = some (.int .i64 xs[k].sz) ∧ w.cell? ⟨b, off + k * 7 + 2, none⟩ = some (.int .i64 xs[k].lo) ∧ w.cell? ⟨b, off + k * 7 + 3, none⟩ = some (.int .i64 xs[k].re) ∧ w.cell? ⟨b, off + k * 7 + 4, none⟩ = some (.int .i64 xs[k].ba) ∧ w.cell? ⟨b, off + k * 7 + 5, none⟩ = some (.int .i64 xs[k].pp) ∧ w.cell? ⟨b, off + k * 7 + 6, none⟩ = some (.int .i64 xs[k].sc) := by
  obtain ⟨b, off, e, h⟩ := elem_at (f := Chn.cells) (sz := 7) (fun _ => rfl) h k hk (by decide)
  exact ⟨b, off, e, h 0 (by simp [Chn.cells]), h 1 (by simp [Chn.cells]), h 2 (by simp [Chn.cells]), h 3 (by simp [Chn.cells]), h 4 (by simp [Chn.cells]), h 5 (by simp [Chn.cells]), h 6 (by simp [Chn.cells])⟩
structure Htl where
  ky : Int
  inn : Int
  out : Int
  ai : Int
  ao : Int
  kp : Bool
  ag : Int
def Htl.cells (x : Htl) : List Value := [.int .i64 x.ky, .int .i64 x.inn, .int .i64 x.out, .int .i64 x.ai, .int .i64 x.ao, .bool x.kp, .int .i64 x.ag]
def hts (xs : List Htl) : List Value := xs.flatMap Htl.cells
theorem hts_len (xs : List Htl) : (hts xs).length = xs.length * 7 := flatMap_len (f := Htl.cells) (sz := 7) (fun _ => rfl) xs
theorem hts_append (xs ys : List Htl) : hts (xs ++ ys) = hts xs ++ hts ys := by simp [hts]
theorem hts_at {w : World} {a : Option Addr} {xs : List Htl} (h : Cells w a (hts xs)) (k : Nat) (hk : k < xs.length) :
    ∃ b off, a = some ⟨b, off, none⟩ ∧ w.cell? ⟨b, off + k * 7, none⟩ = some (.int .i64 xs[k].ky) ∧ w.cell? ⟨b, off + k * 7 + 1, none⟩ = some (.int .i64 xs[k].inn) ∧ w.cell? ⟨b, off + k * 7 + 2, none⟩ = some (.int .i64 xs[k].out) ∧ w.cell? ⟨b, off + k * 7 + 3, none⟩ = some (.int .i64 xs[k].ai) ∧ w.cell? ⟨b, off + k * 7 + 4, none⟩ = some (.int .i64 xs[k].ao) ∧ w.cell? ⟨b, off + k * 7 + 5, none⟩ = some (.bool xs[k].kp) ∧ w.cell? ⟨b, off + k * 7 + 6, none⟩ = some (.int .i64 xs[k].ag) := by
  obtain ⟨b, off, e, h⟩ := elem_at (f := Htl.cells) (sz := 7) (fun _ => rfl) h k hk (by decide)
  exact ⟨b, off, e, h 0 (by simp [Htl.cells]), h 1 (by simp [Htl.cells]), h 2 (by simp [Htl.cells]), h 3 (by simp [Htl.cells]), h 4 (by simp [Htl.cells]), h 5 (by simp [Htl.cells]), h 6 (by simp [Htl.cells])⟩
structure Crc where
  ky : Int
  fr : Int
  to : Int
  am : Int
  fe : Int
def Crc.cells (x : Crc) : List Value := [.int .i64 x.ky, .int .i64 x.fr, .int .i64 x.to, .int .i64 x.am, .int .i64 x.fe]
def crs (xs : List Crc) : List Value := xs.flatMap Crc.cells
theorem crs_len (xs : List Crc) : (crs xs).length = xs.length * 5 := flatMap_len (f := Crc.cells) (sz := 5) (fun _ => rfl) xs
theorem crs_append (xs ys : List Crc) : crs (xs ++ ys) = crs xs ++ crs ys := by simp [crs]
theorem crs_at {w : World} {a : Option Addr} {xs : List Crc} (h : Cells w a (crs xs)) (k : Nat) (hk : k < xs.length) :
    ∃ b off, a = some ⟨b, off, none⟩ ∧ w.cell? ⟨b, off + k * 5, none⟩ = some (.int .i64 xs[k].ky) ∧ w.cell? ⟨b, off + k * 5 + 1, none⟩ = some (.int .i64 xs[k].fr) ∧ w.cell? ⟨b, off + k * 5 + 2, none⟩ = some (.int .i64 xs[k].to) ∧ w.cell? ⟨b, off + k * 5 + 3, none⟩ = some (.int .i64 xs[k].am) ∧ w.cell? ⟨b, off + k * 5 + 4, none⟩ = some (.int .i64 xs[k].fe) := by
  obtain ⟨b, off, e, h⟩ := elem_at (f := Crc.cells) (sz := 5) (fun _ => rfl) h k hk (by decide)
  exact ⟨b, off, e, h 0 (by simp [Crc.cells]), h 1 (by simp [Crc.cells]), h 2 (by simp [Crc.cells]), h 3 (by simp [Crc.cells]), h 4 (by simp [Crc.cells])⟩
/-- A book: what it says. -/
structure Bk where
  tk : Int
  nx : Int
  wa : Int
  C : List Chn
  Hs : List Htl
  R : List Crc
/-- A book in memory. -/
structure Bo where
  tk : Int
  nx : Int
  wa : Int
  ca : Option Addr
  cc : Nat
  C : List Chn
  ha : Option Addr
  hc : Nat
  Hs : List Htl
  ra : Option Addr
  rc : Nat
  R : List Crc
def Bo.v (B : Bo) : Value := .agg #[.int .i64 B.tk, .int .i64 B.nx, .int .i64 B.wa, .slice B.ca B.C.length B.cc, .slice B.ha B.Hs.length B.hc, .slice B.ra B.R.length B.rc]
def Bo.segs (B : Bo) : List Seg := [(B.ca, chs B.C), (B.ha, hts B.Hs), (B.ra, crs B.R)]
def Bo.d (B : Bo) : Bk := ⟨B.tk, B.nx, B.wa, B.C, B.Hs, B.R⟩
/-- Of moderate size. -/
def Bo.fit (B : Bo) : Prop := (B.ca = none → B.cc = 0) ∧ (B.ha = none → B.hc = 0) ∧ (B.ra = none → B.rc = 0) ∧ B.C.length ≤ B.cc ∧ B.Hs.length ≤ B.hc ∧ B.R.length ≤ B.rc
def Bo.len (B : Bo) : Prop := B.C.length ≤ 1048576 ∧ B.Hs.length ≤ 1048576 ∧ B.R.length ≤ 1048576
theorem Bo.memC {B : Bo} {w : World} (h : Mem w B.segs) : Cells w B.ca (chs B.C) := h (B.ca, chs B.C) (by simp [Bo.segs])
theorem Bo.memH {B : Bo} {w : World} (h : Mem w B.segs) : Cells w B.ha (hts B.Hs) := h (B.ha, hts B.Hs) (by simp [Bo.segs])
theorem Bo.memR {B : Bo} {w : World} (h : Mem w B.segs) : Cells w B.ra (crs B.R) := h (B.ra, crs B.R) (by simp [Bo.segs])

/-- Is there such a channel? -/
def hasC (C : List Chn) (ch : Int) : Bool := C.any fun c => decide (c.id = ch)
def atC (C : List Chn) (ch : Int) : Option Nat := C.findIdx? fun c => decide (c.id = ch)
theorem atC_none {C : List Chn} {ch : Int} (h : ∀ j (hj : j < C.length), C[j].id ≠ ch) : atC C ch = none := by
  unfold atC
  rw [List.findIdx?_eq_none_iff]
  intro c hc
  obtain ⟨j, hj, rfl⟩ := List.getElem_of_mem hc
  simpa using h j hj
theorem atC_some {C : List Chn} {ch : Int} {k : Nat} (hk : k < C.length) (he : C[k].id = ch) (h : ∀ j (hj : j < C.length), j < k → C[j].id ≠ ch) : atC C ch = some k := by
  unfold atC
  rw [List.findIdx?_eq_some_iff_getElem]
  exact ⟨hk, by simpa using he, fun j hj => by simpa using h j (by omega) hj⟩
theorem atC_lt {C : List Chn} {ch : Int} {k : Nat} (h : atC C ch = some k) : ∃ hk : k < C.length, C[k].id = ch := by
  unfold atC at h
  rw [List.findIdx?_eq_some_iff_getElem] at h
  obtain ⟨hk, he, _⟩ := h
  exact ⟨hk, by simpa using he⟩
theorem hasC_at (C : List Chn) (ch : Int) : hasC C ch = (atC C ch).isSome := by
  unfold hasC atC
  rw [List.findIdx?_isSome]
theorem hasC_iff {C : List Chn} {ch : Int} : hasC C ch = true ↔ ∃ c ∈ C, c.id = ch := by simp [hasC]
/-- Two channels that are there, and differ. -/
def twoB (C : List Chn) (x y : Int) : Bool := decide (x ≠ y) && hasC C x && hasC C y
/-- What is under way out of a channel, and in. -/
def outH (H : List Htl) (ch : Int) : Int := (H.map fun h => if h.out = ch then h.ao else 0).sum
def outR (R : List Crc) (ch : Int) : Int := (R.map fun c => if c.fr = ch then c.am + c.fe else 0).sum
def inH (H : List Htl) (ch : Int) : Int := (H.map fun h => if h.inn = ch then h.ai else 0).sum
def inR (R : List Crc) (ch : Int) : Int := (R.map fun c => if c.to = ch then c.am else 0).sum
def outV (B : Bk) (ch : Int) : Int := outH B.Hs ch + outR B.R ch
def inV (B : Bk) (ch : Int) : Int := inH B.Hs ch + inR B.R ch
def keyB (k : Int) : Bool := decide (1 ≤ k) && decide (k ≤ 1000000)
def chB (k : Int) : Bool := decide (1 ≤ k) && decide (k ≤ 99)
def ppmB (k : Int) : Bool := decide (0 ≤ k) && decide (k ≤ 1000000)
def posB (n : Int) : Bool := amtB n && decide (0 < n)
def htB (C : List Chn) (h : Htl) : Bool := posB h.ao && amtB h.ai && decide (h.ao ≤ h.ai) && amtB h.ag && twoB C h.inn h.out
def crB (C : List Chn) (c : Crc) : Bool := posB c.am && amtB c.fe && twoB C c.fr c.to
def keysL (B : Bk) : List Int := B.Hs.map Htl.ky ++ B.R.map Crc.ky
def keysB (L : List Int) : Bool := L.all keyB && decide L.Nodup
/-- Channel k's number is right, and above the one ahead of it. -/
def idAt (C : List Chn) (k : Nat) : Bool := match C[k]? with
  | none => true
  | some c => chB c.id && (decide (k = 0) || match C[k - 1]? with | none => true | some p => decide (p.id < c.id))
def idsB (C : List Chn) : Bool := (List.range C.length).all (idAt C)
def fieldsB (c : Chn) : Bool := amtB c.lo && amtB c.re && amtB c.ba && ppmB c.pp && okS c.sc
def sizeB (B : Bk) (c : Chn) : Bool := amtB c.sz && decide (c.sz = c.lo + c.re + outV B c.id + inV B c.id)
def chanB (B : Bk) (c : Chn) : Bool := fieldsB c && sizeB B c
def headB (B : Bk) : Bool := amtB B.tk && amtB B.wa && posB B.nx && decide (B.C.length ≤ 20) && decide (B.Hs.length ≤ 60) && decide (B.R.length ≤ 20)
def underB (B : Bk) : Bool := B.Hs.all (htB B.C) && B.R.all (crB B.C) && keysB (keysL B)
/-- Is the book right? -/
def bookB (B : Bk) : Bool := headB B && underB B && idsB B.C && B.C.all (chanB B)
theorem all_no {α : Type} {p : α → Bool} {xs : List α} {k : Nat} (hk : k < xs.length) (h : p xs[k] = false) : xs.all p = false := by
  rw [List.all_eq_false]; exact ⟨_, List.getElem_mem hk, by simp [h]⟩
theorem all_yes {α : Type} {p : α → Bool} {xs : List α} (h : ∀ j (hj : j < xs.length), p xs[j] = true) : xs.all p = true := by
  rw [List.all_eq_true]; intro x hx
  obtain ⟨j, hj, rfl⟩ := List.getElem_of_mem hx
  exact h j hj
theorem sum_take_succ {α : Type} (f : α → Int) (xs : List α) (k : Nat) (hk : k < xs.length) : ((xs.take (k + 1)).map f).sum = ((xs.take k).map f).sum + f xs[k] := by
  rw [List.take_add_one, List.getElem?_eq_getElem hk, Option.toList_some, List.map_append, List.sum_append]; simp
/-- Sums of numbers from 0 to M. -/
theorem sum_bound {α : Type} (f : α → Int) (M : Int) : ∀ (xs : List α), (∀ x ∈ xs, 0 ≤ f x ∧ f x ≤ M) → 0 ≤ (xs.map f).sum ∧ (xs.map f).sum ≤ M * xs.length
  | [], _ => by simp
  | x :: t, h => by
    have h1 := sum_bound f M t (fun y hy => h y (List.mem_cons_of_mem _ hy))
    have h2 := h x (List.mem_cons_self ..)
    simp only [List.map_cons, List.sum_cons, List.length_cons]
    have e : M * ((t.length + 1 : Nat) : Int) = M * t.length + M := by rw [Int.natCast_add, Int.mul_add]; simp
    rw [e]
    omega
end Go.Proofs.YtjihinkjcplgcaaDoor
