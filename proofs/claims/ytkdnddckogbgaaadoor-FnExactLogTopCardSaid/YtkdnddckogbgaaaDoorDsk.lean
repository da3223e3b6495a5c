/- Sectors and disks in memory: their lists, and what a law reads of its arguments. -/
import Derived.Test.YtkdnddckogbgaaaDoorByt
import Derived.Test.YtkdnddckogbgaaaDoorLst0
import Derived.ChangeSame
import Derived.WideShapes
import Derived.Below
import Derived.Deep.Strs
namespace Go.Proofs.YtkdnddckogbgaaaDoor
open Go.RowKit Go.ChangeShapes Go.WideShapes Go.Deep
set_option linter.unusedVariables false
set_option maxRecDepth 100000

/-- A list of bytes: where it lies, and its bytes. -/
structure Bs where
  a : Option Addr
  cap : Nat
  L : List UInt8
def Bs.v (b : Bs) : Value := .slice b.a b.L.length b.cap
def Bs.cells (b : Bs) : List Value := [b.v]
def Bs.seg (b : Bs) : Seg := (b.a, bys b.L)
def ccells (cs : List Bs) : List Value := cs.flatMap Bs.cells
def Bs.fit (b : Bs) : Prop := (b.a = none → b.cap = 0) ∧ b.L.length ≤ b.cap
def Bs.ok (b : Bs) : Prop := b.fit ∧ b.L.length ≤ 9223372036854775807
/-- A write that waits. -/
structure Wr where
  i : Int
  b : Bs
def Wr.cells (x : Wr) : List Value := [.int .i64 x.i, x.b.v]
def wcells (ds : List Wr) : List Value := ds.flatMap Wr.cells
/-- A disk: its two lists and what lies in them. -/
structure Dk where
  ca : Option Addr
  cc : Nat
  cs : List Bs
  da : Option Addr
  dc : Nat
  ds : List Wr
def Dk.v (d : Dk) : Value := .agg #[.slice d.ca d.cs.length d.cc, .slice d.da d.ds.length d.dc]
def Dk.csegs (d : Dk) : List Seg := (d.ca, ccells d.cs) :: d.cs.map Bs.seg
def Dk.dsegs (d : Dk) : List Seg := (d.da, wcells d.ds) :: d.ds.map (fun x => x.b.seg)
def Dk.segs (d : Dk) : List Seg := d.csegs ++ d.dsegs
def Dk.ok (d : Dk) : Prop := (d.ca = none → d.cc = 0) ∧ (d.da = none → d.dc = 0) ∧ d.cs.length ≤ 9223372036854775807 ∧ d.ds.length ≤ 9223372036854775807 ∧ (∀ b ∈ d.cs, b.ok) ∧ (∀ x ∈ d.ds, x.b.ok ∧ (Lit.int .i64 x.i).wf = true)
/-- What a disk says. -/
structure DkM where
  cells : List (List UInt8)
  dirty : List (Int × List UInt8)
def Dk.dat (d : Dk) : DkM := ⟨d.cs.map Bs.L, d.ds.map fun x => (x.i, x.b.L)⟩

section
variable {H : Type} {enc : TypeId × Value → H} {W : World} {n : Nat} {cs : List Value} {y : DataW H × List MemPlace} {base : Nat} {sp : Nat → Bool} {hd : Bool}
theorem cellsByte : Tryd.prog.cellsOf 5 = 1 := by kernel_rfl
theorem cellsBytes : Tryd.prog.cellsOf 48 = 1 := by kernel_rfl
theorem open_byte (h : DataW.trod enc Tryd.prog W base sp hd n 5 cs = some y) : ∃ x : UInt8, cs = [byV x] := by
  obtain ⟨k, e, _, hw⟩ := DataW.trod_int Tryd.underlying5 h
  have hb : 0 ≤ k ∧ k ≤ 255 := by simpa [Lit.wf, IntKind.min, IntKind.max, IntKind.signed, IntKind.bits] using hw
  refine ⟨UInt8.ofNat k.toNat, ?_⟩
  rw [e, byV_ofNat]
  congr 2
  omega
theorem bytes_of : ∀ M : List (List Value), (∀ c ∈ M, c.length = 1 ∧ ∃ x : UInt8, c = [byV x]) → ∃ L : List UInt8, L.length = M.length ∧ M.flatten = bys L
  | [], _ => ⟨[], rfl, rfl⟩
  | c :: M, h => by
    obtain ⟨L, hl, hf⟩ := bytes_of M (fun c hc => h c (List.mem_cons_of_mem _ hc))
    obtain ⟨_, x, rfl⟩ := h c (List.mem_cons_self ..)
    exact ⟨x :: L, by simp [hl], by simp [bys, hf]⟩
/-- A list of bytes among what is read. -/
theorem open_bytes {v : Value} (h : DataW.trod enc Tryd.prog W base sp hd n 48 [v] = some y) : ∃ b : Bs, v = b.v ∧ Cells W b.a (bys b.L) ∧ b.ok := by
  obtain ⟨a, cap, M, hv, hq, hc, hn, hl⟩ := open_cells' underBytes cellsByte (by decide) h (fun c => ∃ x : UInt8, c = [byV x]) (fun _ _ _ h => open_byte h)
  obtain ⟨L, e, ef⟩ := bytes_of M hq
  exact ⟨⟨a, cap, L⟩, by rw [hv, ← e]; rfl, by rw [← ef]; exact hc, ⟨hn.1, by show L.length ≤ cap; rw [e]; exact hn.2⟩, by show L.length ≤ _; rw [e]; exact hl⟩
variable {v : Value} {d : DataW H} {ps : List MemPlace}
theorem bytes_row {b0 : Nat} (hv : Value.okWide Tryd.prog W .any b0 48 v) (h : DataW.Trod enc Tryd.prog W base sp hd 48 v d ps) :
    ∃ (a : Option Addr) (cap : Nat) (L : List UInt8), v = .slice a L.length cap ∧ Cells W a (bys L) ∧ (a = none → cap = 0) ∧ L.length ≤ 9223372036854775807 := by
  obtain ⟨a, len, cap, rfl⟩ := okWide_slice underBytes hv
  obtain ⟨m, h⟩ := h
  obtain ⟨b, e, hc, ho⟩ := open_bytes (v := .slice a len cap) (by simpa [Value.cells] using h)
  exact ⟨b.a, b.cap, b.L, e, hc, ho.1.1, ho.2⟩
end
end Go.Proofs.YtkdnddckogbgaaaDoor
