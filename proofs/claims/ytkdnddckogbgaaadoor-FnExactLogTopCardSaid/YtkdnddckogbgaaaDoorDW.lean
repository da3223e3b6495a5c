/- Disks as objects: what they say, and the laws' glue over them. -/
import Derived.Test.YtkdnddckogbgaaaDoorDOk
namespace Go.Proofs.YtkdnddckogbgaaaDoor
open Go.RowKit Go.Deep
set_option linter.unusedVariables false
set_option maxRecDepth 10000

def dat (cs : List Bs) (ds : List Wr) : DkM := ⟨cs.map Bs.L, ds.map Wr.key⟩
/-- A disk of moderate size, no list of which is nil and has room. -/
structure DOk (cs : List Bs) (ds : List Wr) : Prop where
  c : cs.length ≤ 1048576
  d : ds.length ≤ 1048576
  tc : tot cs ≤ 1048576
  td : totW ds ≤ 1048576
  nc : ∀ b ∈ cs, b.fit
  nd : ∀ x ∈ ds, x.b.fit
theorem dat_len {cs cs' : List Bs} {ds ds' : List Wr} (h : dat cs' ds' = dat cs ds) : cs'.length = cs.length ∧ ds'.length = ds.length := by
  injection h with h1 h2
  exact ⟨by simpa using congrArg List.length h1, by simpa using congrArg List.length h2⟩
def DkM.tot (m : DkM) : Nat := (m.cells.map List.length).sum
def DkM.totW (m : DkM) : Nat := (m.dirty.map fun x => x.2.length).sum
theorem tot_dat (cs : List Bs) (ds : List Wr) : Go.Proofs.YtkdnddckogbgaaaDoor.tot cs = (dat cs ds).tot := by simp [Go.Proofs.YtkdnddckogbgaaaDoor.tot, DkM.tot, dat, Function.comp_def]
theorem totW_dat (cs : List Bs) (ds : List Wr) : Go.Proofs.YtkdnddckogbgaaaDoor.totW ds = (dat cs ds).totW := by simp [Go.Proofs.YtkdnddckogbgaaaDoor.totW, DkM.totW, dat, Function.comp_def, Wr.key]
theorem DOk.like {cs cs' : List Bs} {ds ds' : List Wr} (h : DOk cs ds) (e : dat cs' ds' = dat cs ds) (nc : ∀ b ∈ cs', b.fit) (nd : ∀ x ∈ ds', x.b.fit) : DOk cs' ds' :=
  ⟨by rw [(dat_len e).1]; exact h.c, by rw [(dat_len e).2]; exact h.d, by rw [tot_dat cs' ds', e, ← tot_dat]; exact h.tc, by rw [totW_dat cs' ds', e, ← totW_dat]; exact h.td, nc, nd⟩
/-- Is the disk right? By what it says. -/
def dokM (m : DkM) : Bool := decide (1 ≤ m.cells.length) && decide (m.cells.length ≤ 600) && decide (m.dirty.length ≤ 600) && m.cells.all (fun L => decide (L.length = 0) || decide (L.length = 128)) && m.dirty.all (fun x => decide (0 ≤ x.1) && decide (x.1 < m.cells.length) && decide (x.2.length = 128))
theorem dok_dat (cs : List Bs) (ds : List Wr) : dokB cs ds = dokM (dat cs ds) := by
  unfold dokB dokM dat
  simp only [List.length_map, List.all_map]
  rfl
/-- A disk that was made behind w. -/
def DiskRes (w w' : World) (v : Value) (M : DkM) : Prop := ∃ (ca : Option Addr) (cc : Nat) (cs : List Bs) (da : Option Addr) (dc : Nat) (ds : List Wr), v = dskV ca cs.length cc da ds.length dc ∧ dat cs ds = M ∧ DOk cs ds ∧ (ca = none → cc = 0) ∧ (da = none → dc = 0) ∧ Born w w' (dsk ca cs da ds)
theorem toDisk' (ca : Option Addr) (cc : Nat) (cs : List Bs) (da : Option Addr) (dc : Nat) (ds : List Wr) (w : World) (hm : Mem w (dsk ca cs da ds)) (h : DOk cs ds) :
    Calls Tryd.prog 8 #[dskV ca cs.length cc da ds.length dc] w fun e w' => ∃ v, e = .returned v ∧ DiskRes w w' v (dat cs ds) ∧ Keeps w w' := by
  refine (toDisk_k ca cc cs da dc ds w hm h.c h.d (fun b hb => Nat.le_trans (tot_le hb) h.tc) (fun x hx => Nat.le_trans (totW_le hx) h.td)).mono ?_
  rintro e w' ⟨g1, g2, nb, nw, rfl, h1, h2, h3, h4, hb, hk⟩
  have e : dat nb nw = dat cs ds := by unfold dat; rw [h1, h2]
  refine ⟨_, rfl, ⟨some ⟨g1, 0, none⟩, cs.length, nb, some ⟨g2, 0, none⟩, ds.length, nw, ?_, e, h.like e h3 h4, (fun e => nomatch e), (fun e => nomatch e), hb⟩, hk⟩
  rw [(dat_len e).1, (dat_len e).2]
theorem eqDisk' (ca : Option Addr) (cc : Nat) (cs : List Bs) (da : Option Addr) (dc : Nat) (ds : List Wr) (ca' : Option Addr) (cc' : Nat) (cs' : List Bs) (da' : Option Addr) (dc' : Nat) (ds' : List Wr) (w : World)
    (e : dat cs' ds' = dat cs ds) (hm : Mem w (dsk ca cs da ds)) (hm' : Mem w (dsk ca' cs' da' ds')) (h : DOk cs ds) :
    Calls Tryd.prog 11 #[dskV ca cs.length cc da ds.length dc, dskV ca' cs'.length cc' da' ds'.length dc'] w fun e w' => e = .returned (.bool true) ∧ Keeps w w' :=
  eqDisk_k ca cc cs da dc ds ca' cc' cs' da' dc' ds' w (congrArg DkM.cells e) (congrArg DkM.dirty e) hm hm' h.c h.d (fun b hb => Nat.le_trans (tot_le hb) (Nat.le_trans h.tc (by decide))) (fun x hx => Nat.le_trans (totW_le hx) (Nat.le_trans h.td (by decide)))
theorem markDisk' (ca : Option Addr) (cc : Nat) (cs : List Bs) (da : Option Addr) (dc : Nat) (ds : List Wr) (w : World) (ho : Own w (dsk ca cs da ds)) (h : DOk cs ds) :
    Calls Tryd.prog 12 #[dskV ca cs.length cc da ds.length dc, .int .i64 1] w fun e w' => e = .returned (.int .i64 ((1 + tot cs + ds.length + totW ds : Nat) : Int)) ∧ Own w' (dsk ca (markC 1 cs) da (markW (1 + tot cs) ds)) ∧ Turn (fp (dsk ca cs da ds)) w w' :=
  markDisk_k ca cc cs da dc ds 1 w ho h.c h.d (Nat.le_trans h.tc (by decide)) (Nat.le_trans h.td (by decide)) (by decide)
theorem DOk.big {cs : List Bs} {ds : List Wr} (h : DOk cs ds) : cs.length ≤ 9223372036854775807 ∧ ds.length ≤ 9223372036854775807 ∧ (∀ b ∈ cs, b.L.length ≤ 9223372036854775807) ∧ (∀ x ∈ ds, x.b.L.length ≤ 9223372036854775807) :=
  ⟨Nat.le_trans h.c (by decide), Nat.le_trans h.d (by decide), fun b hb => Nat.le_trans (tot_le hb) (Nat.le_trans h.tc (by decide)), fun x hx => Nat.le_trans (totW_le hx) (Nat.le_trans h.td (by decide))⟩
theorem diskok_spec' (ca : Option Addr) (cc : Nat) (cs : List Bs) (da : Option Addr) (dc : Nat) (ds : List Wr) (w : World) (hm : Mem w (dsk ca cs da ds)) (h : DOk cs ds) :
    Calls Tryd.prog 24 #[dskV ca cs.length cc da ds.length dc] w fun e w' => e = .returned (.bool (dokM (dat cs ds))) ∧ Keeps w w' := by
  rw [← dok_dat]; exact diskok_spec ca cc cs da dc ds w hm h.big.1 h.big.2.1 h.big.2.2.1 h.big.2.2.2
theorem diskok_impl' (ca : Option Addr) (cc : Nat) (cs : List Bs) (da : Option Addr) (dc : Nat) (ds : List Wr) (w : World) (hm : Mem w (dsk ca cs da ds)) (h : DOk cs ds) :
    Calls Tryd.prog 53 #[dskV ca cs.length cc da ds.length dc] w fun e w' => e = .returned (.bool (dokM (dat cs ds))) ∧ Keeps w w' := by
  rw [← dok_dat]; exact diskok_impl ca cc cs da dc ds w hm h.big.1 h.big.2.1 h.big.2.2.1 h.big.2.2.2
/-- The gate of a law over a disk. -/
theorem szDisk' (ca : Option Addr) (cc : Nat) (cs : List Bs) (da : Option Addr) (dc : Nat) (ds : List Wr) (w : World) (hm : Mem w (dsk ca cs da ds)) (ho : Dk.ok ⟨ca, cc, cs, da, dc, ds⟩) :
    Calls Tryd.prog 6 #[dskV ca cs.length cc da ds.length dc, .int .i64 1048576] w fun e w' => ∃ r : Int, e = .returned (.int .i64 r) ∧ (0 ≤ r → DOk cs ds) ∧ Keeps w w' := by
  obtain ⟨h1, h2, h3, h4, h5, h6⟩ := ho
  refine (szDisk_k ca cc cs da dc ds w hm (fun b hb => (h5 b hb).2) (fun x hx => (h6 x hx).1.2) h3 h4).mono ?_
  rintro e w' ⟨r, rfl, hr, hk⟩
  refine ⟨r, rfl, fun h => ?_, hk⟩
  have := hr h
  exact ⟨by omega, by omega, by omega, by omega, fun b hb => (h5 b hb).1, fun x hx => (h6 x hx).1.1⟩
end Go.Proofs.YtkdnddckogbgaaaDoor
