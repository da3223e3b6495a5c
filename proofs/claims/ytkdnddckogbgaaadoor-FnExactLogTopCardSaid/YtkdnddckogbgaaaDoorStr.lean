/- Bytes as a text. -/
import Derived.Test.YtkdnddckogbgaaaDoorApn
import Derived.Laws.BytesString
import Derived.Laws.Cells
namespace Go.Proofs.YtkdnddckogbgaaaDoor
open Go.RowKit Go.Deep
set_option linter.unusedVariables false

/-- A list of bytes as a text. -/
def strL (L : List UInt8) : ByteArray := ⟨L.toArray⟩
theorem strL_inj {L M : List UInt8} (h : strL L = strL M) : L = M := by
  have := congrArg (fun s : ByteArray => s.data.toList) h
  simpa [strL] using this
theorem push_fold : ∀ (L : List UInt8) (r : ByteArray), (L.map (fun x => (x.toNat : Int))).foldl (fun (r : ByteArray) (n : Int) => r.push (UInt8.ofNat n.toNat)) r = ⟨r.data ++ L.toArray⟩
  | [], r => by simp
  | x :: t, r => by
    rw [List.map_cons, List.foldl_cons, push_fold t]
    have e : UInt8.ofNat (Int.toNat (x.toNat : Int)) = x := by simp
    rw [e]
    simp [ByteArray.push]
theorem str_of (a : Option Addr) (cap : Nat) (L : List UInt8) (w : World) (b off : Nat) (ha : a = some ⟨b, off, none⟩) (hc : Cells w a (bys L)) :
    (convert 48 9 (.slice a L.length cap)).run Tryd.prog w = .ok (.string (strL L)) w := by
  subst ha
  rw [run_convert_bytes_string w 48 9 5 _ _ _ underBytes Tryd.underlying5 Tryd.underlying9]
  have hl : (loadCells ⟨b, off, none⟩ L.length).run Tryd.prog w = .ok (bys L).toArray w := by
    have h := run_loadCells_list (P := Tryd.prog) (w := w) ⟨b, off, none⟩ (bys L) (fun j v hj => by
      obtain ⟨hj', e⟩ := List.getElem?_eq_some_iff.1 hj
      rw [add_at]
      rcases hc with h' | ⟨b', off', e', h'⟩
      · rw [h'] at hj'; simp at hj'
      · have e2 := Option.some.inj e'
        injection e2 with e3 e4
        subst e3 e4
        rw [h' j hj', e])
    rw [bys_length] at h
    exact h
  have e : bys L = (L.map (fun x => (x.toNat : Int))).map (Value.int .u8) := by simp [bys, byV]
  rw [e] at hl
  rw [run_bytesToString w _ _ cap _ hl, push_fold]
  simp [strL]
theorem strL_ne {L M : List UInt8} (h : L ≠ M) : strL L ≠ strL M := fun e => h (strL_inj e)
theorem strL_list (L : List UInt8) : (strL L).toList = L := by rw [ByteArray.toList_eq]; simp [strL]
theorem strL_beq (L M : List UInt8) : ((strL L).toList == (strL M).toList) = decide (L = M) := by
  rw [strL_list, strL_list, Bool.eq_iff_iff]; simp
end Go.Proofs.YtkdnddckogbgaaaDoor
