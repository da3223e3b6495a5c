/- Disks as objects: what they say, and the laws' glue over them. -/
import Derived.Test.YtkgpoghoilffhaaDOk
namespace Go.Proofs.Ytkgpoghoilffhaa
open Go.RowKit Go.Deep
set_option linter.unusedVariables false
set_option maxRecDepth 10000

def dat (cs : List Bs) (ds : List Wr) : DkM := ⟨cs.map Bs.L, ds.map Wr.key⟩
/-- A disk of moderate size, no list of which is nil and has room. -/
structure DOk (cs : List Bs) (ds : List Wr) : Prop where
  c : cs.length ≤ 1048576
  d : ds.length ≤ 1048576
  tc : tot cs ≤ 1048576
  td : totW ds ≤ 1048576
  nc : ∀ b ∈ cs, b.fit
  nd : ∀ x ∈ ds, x.b.fit
theorem dat_len {cs cs' : List Bs} {ds ds' : List Wr} (h : dat cs' ds' = dat cs ds) : cs'.length = cs.length ∧ ds'.length = ds.length := by
  injection h with h1 h2
  exact ⟨by simpa using congrArg List.length h1, by simpa using congrArg List.length h2⟩
def DkM.tot (m : DkM) : Nat := (m.cells.map List.length).sum
def DkM.totW (m : DkM) : Nat := (m.dirty.map fun x => x.2.length).sum
theorem tot_dat (cs : List Bs) (ds : List Wr) : Go.Proofs.Ytkgpoghoilffhaa.tot cs = (dat cs ds).tot := by simp [Go.Proofs.Ytkgpoghoilffhaa.tot, DkM.tot, dat, Function.comp_def]
theorem totW_dat (cs : List Bs) (ds : List Wr) : Go.Proofs.Ytkgpoghoilffhaa.totW ds = (dat cs ds).totW := by simp [Go.Proofs.Ytkgpoghoilffhaa.totW, DkM.totW, dat, Function.comp_def, Wr.key]
theorem DOk.like {cs cs' : List Bs} {ds ds' : List Wr} (h : DOk cs ds) (e : dat cs' ds' = dat cs ds) (nc : ∀ b ∈ cs', b.fit) (nd : ∀ x ∈ ds', x.b.fit) : DOk cs' ds' :=
  ⟨by rw [(dat_len e).1]; exact h.c, by rw [(dat_len e).2]; exact h.d, by rw [tot_dat cs' ds', e, ← tot_dat]; exact h.tc, by rw [totW_dat cs' ds', e, ← totW_dat]; exact h.td, nc, nd⟩
/-- Is the disk right? By what it says. -/
def dokM (m : DkM) : Bool := decide (1 ≤ m.cells.length) && decide (m.cells.length ≤ 600) && decide (m.dirty.length ≤ 600) && m.cells.all (fun L => decide (L.length = 0) || decide (L.length = 128)) && m.dirty.all (fun x => decide (0 ≤ x.1) && decide (x.1 < m.cells.length) && decide (x.2.length = 128))
theorem dok_dat (cs : List Bs) (ds : List Wr) : dokB cs ds = dokM (dat cs ds) := by
  unfold dokB dokM dat
  simp only [List.length_map, List.all_map]
  rfl
/-- A disk that was made behind w. -/
def DiskRes (w w' : World) (v : Value) (M : DkM) : Prop := ∃ (ca : Option Addr) (cc : Nat) (cs : List Bs) (da : Option Addr) (dc : Nat) (ds : List Wr), v = dskV ca cs.length cc da ds.length dc ∧ dat cs ds = M ∧ DOk cs ds ∧ (ca = none → cc = 0) ∧ (da = none → dc = 0) ∧ Born w w' (dsk ca cs da ds)
theorem eqDisk' (ca : Option Addr) (cc : Nat) (cs : List Bs) (da : Option Addr) (dc : Nat) (ds : List Wr) (ca' : Option Addr) (cc' : Nat) (cs' : List Bs) (da' : Option Addr) (dc' : Nat) (ds' : List Wr) (w : World)
    (e : dat cs' ds' = dat cs ds) (hm : Mem w (dsk ca cs da ds)) (hm' : Mem w (dsk ca' cs' da' ds')) (h : DOk cs ds) :
    Calls Try.prog 12 #[dskV ca cs.length cc da ds.length dc, dskV ca' cs'.length cc' da' ds'.length dc'] w fun e w' => e = .returned (.bool true) ∧ Keeps w w' :=
  eqDisk_k ca cc cs da dc ds ca' cc' cs' da' dc' ds' w (congrArg DkM.cells e) (congrArg DkM.dirty e) hm hm' h.c h.d (fun b hb => Nat.le_trans (tot_le hb) (Nat.le_trans h.tc (by decide))) (fun x hx => Nat.le_trans (totW_le hx) (Nat.le_trans h.td (by decide)))
theorem markDisk' (ca : Option Addr) (cc : Nat) (cs : List Bs) (da : Option Addr) (dc : Nat) (ds : List Wr) (w : World) (ho : Own w (dsk ca cs da ds)) (h : DOk cs ds) :
    Calls Try.prog 16 #[dskV ca cs.length cc da ds.length dc, .int .i64 1] w fun e w' => e = .returned (.int .i64 ((1 + tot cs + ds.length + totW ds : Nat) : Int)) ∧ Own w' (dsk ca (markC 1 cs) da (markW (1 + tot cs) ds)) ∧ Turn (fp (dsk ca cs da ds)) w w' :=
  markDisk_k ca cc cs da dc ds 1 w ho h.c h.d (Nat.le_trans h.tc (by decide)) (Nat.le_trans h.td (by decide)) (by decide)
theorem heldDisk' (ca : Option Addr) (cc : Nat) (cs : List Bs) (da : Option Addr) (dc : Nat) (ds : List Wr) (w : World) (hm : Mem w (dsk ca (markC 1 cs) da (markW (1 + tot cs) ds))) (h : DOk cs ds) :
    Calls Try.prog 20 #[dskV ca cs.length cc da ds.length dc, .int .i64 1] w fun e w' => e = .returned (.int .i64 ((1 + tot cs + ds.length + totW ds : Nat) : Int)) ∧ Keeps w w' :=
  heldDisk_k ca cc cs da dc ds 1 w hm h.c h.d (Nat.le_trans h.tc (by decide)) (Nat.le_trans h.td (by decide)) (by decide)
theorem DOk.big {cs : List Bs} {ds : List Wr} (h : DOk cs ds) : cs.length ≤ 9223372036854775807 ∧ ds.length ≤ 9223372036854775807 ∧ (∀ b ∈ cs, b.L.length ≤ 9223372036854775807) ∧ (∀ x ∈ ds, x.b.L.length ≤ 9223372036854775807) :=
  ⟨Nat.le_trans h.c (by decide), Nat.le_trans h.d (by decide), fun b hb => Nat.le_trans (tot_le hb) (Nat.le_trans h.tc (by decide)), fun x hx => Nat.le_trans (totW_le hx) (Nat.le_trans h.td (by decide))⟩
end Go.Proofs.Ytkgpoghoilffhaa
