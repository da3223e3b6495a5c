/- Texts of the verifier, joined: Fy, Prt, Pae. -/
import Derived.Test.YtkgpoghoilffhaaGreatDoorSC21
import Derived.Test.YtkgpoghoilffhaaGreatDoorSC23
import Derived.Test.YtkgpoghoilffhaaGreatDoorSC22
import Derived.Test.YtkgpoghoilffhaaGreatDoorSC3
import Derived.Test.YtkgpoghoilffhaaGreatDoorSC14
import Derived.OwnWalk
import Derived.Laws.OwnMore
import Derived.Laws.AppendOwnNone
import Derived.Test.YtkgpoghoilffhaaGreatDoorSC1
import Derived.Test.YtkgpoghoilffhaaGreatDoorSC9
namespace Go.Proofs.YtkgpoghoilffhaaGreatDoor
open Go.RowKit Go.Deep
set_option linter.unusedVariables false
set_option linter.unusedSimpArgs false
set_option maxRecDepth 10000
theorem evT_lenF (k y c t m f : Int) (b : Bool) : (evT k y c t m f b).length ≤ 200 := by
  have h1 := numT_len y
  have h2 := numT_len c
  have h3 := numT_len t
  have h4 := numT_len m
  have h5 := numT_len f
  unfold evT evW
  repeat' split
  all_goals (simp [join] <;> omega)
theorem sen_lenF (W : List UInt8) (ns : List Int) : (sen W ns).length ≤ W.length + 22 * ns.length := by
  unfold sen
  rw [List.length_append]
  have := senN_len ns
  omega
theorem stL_len (D : Stp) (h : D.ks.length ≤ 6) : (stL D).length ≤ 400 := by
  unfold stL
  split
  · unfold stT
    have h1 := evT_lenF D.e.k D.e.y D.e.c D.e.t D.e.m D.e.f D.e.b
    have h2 := sen_lenF [99, 114, 97, 115, 104] D.ks
    have h3 := sen_lenF [116, 117, 114, 110] [D.r.lo, D.r.hi, D.r.st, D.r.mi, D.r.ma]
    simp only [List.length_cons, List.length_nil] at h2 h3
    split
    · rw [List.length_append]; simp only [List.length_cons, List.length_nil]; omega
    · split
      · simp
      · split
        · omega
        · split
          · simp
          · omega
  · simp
theorem txt_size (D : Stp) (h : D.ks.length ≤ 6) : (⟨(stL D).toArray⟩ : ByteArray).size ≤ 400 := by
  have e : (⟨(stL D).toArray⟩ : ByteArray).size = (stL D).length := by show (stL D).toArray.size = _; simp
  rw [e]; exact stL_len D h
theorem add_run (a b : ByteArray) (h : a.size + b.size ≤ 1000000) : ∀ w, (Op.stringOp .add a b).run Tryz.prog w = .ok (.string (a ++ b)) w := fun w => run_string_add_sum w _ _ (by omega)
theorem str13 : ∀ p : Nat, p < 13 → ∃ u : ByteArray, u.size ≤ 20 ∧ (#[.string ⟨#[]⟩, .string ⟨#[32]⟩, .string ⟨#[115, 121, 110, 99]⟩, .string ⟨#[35, 32, 120]⟩, .string ⟨#[32, 49]⟩, .string ⟨#[116, 97, 107, 101]⟩, .string ⟨#[116, 97, 107, 101, 32, 116, 105, 99, 107]⟩, .string ⟨#[99, 114, 97, 115, 104, 32, 48, 49]⟩, .string ⟨#[116, 117, 114, 110, 32, 49, 32, 50, 32, 51, 32, 52]⟩, .string ⟨#[116, 117, 114, 110, 32, 48, 32, 49, 48, 48, 32, 53, 32, 48, 32, 49, 48]⟩, .string ⟨#[115, 116, 97, 114, 116, 32, 110, 111, 119]⟩, .string ⟨#[99, 114, 97, 115, 104, 32, 45, 49]⟩, .string ⟨#[116, 97, 107, 101, 32, 32, 116, 105, 99, 107]⟩] : Array Value)[p]? = some (.string u)
  | 0, _ => ⟨_, by decide, rfl⟩
  | 1, _ => ⟨_, by decide, rfl⟩
  | 2, _ => ⟨_, by decide, rfl⟩
  | 3, _ => ⟨_, by decide, rfl⟩
  | 4, _ => ⟨_, by decide, rfl⟩
  | 5, _ => ⟨_, by decide, rfl⟩
  | 6, _ => ⟨_, by decide, rfl⟩
  | 7, _ => ⟨_, by decide, rfl⟩
  | 8, _ => ⟨_, by decide, rfl⟩
  | 9, _ => ⟨_, by decide, rfl⟩
  | 10, _ => ⟨_, by decide, rfl⟩
  | 11, _ => ⟨_, by decide, rfl⟩
  | 12, _ => ⟨_, by decide, rfl⟩
  | n + 13, h => absurd h (by omega)
theorem str3 : ∀ p : Nat, p < 3 → ∃ u : ByteArray, u.size ≤ 20 ∧ (#[.string ⟨#[]⟩, .string ⟨#[10]⟩, .string ⟨#[10, 10, 35, 32, 101, 110, 100]⟩] : Array Value)[p]? = some (.string u)
  | 0, _ => ⟨_, by decide, rfl⟩
  | 1, _ => ⟨_, by decide, rfl⟩
  | 2, _ => ⟨_, by decide, rfl⟩
  | n + 3, h => absurd h (by omega)
theorem lit_cell {W W' : World} {C : Array Value} {t : TypeId} {B p : Nat} {v : Value} (g : (W.alloc (.cells C t)).grownBy W' (some B)) (h : C[p]? = some v) (hB : B < W.heap.size) : W'.cell? ⟨W.heap.size, p, none⟩ = some v := by
  have hb := g.block W.heap.size (by simp) (by simp; omega)
  have h2 := heap_alloc_last W (.cells C t)
  rw [h2] at hb
  unfold World.cell?
  simp only [hb]
  exact h
def IsTxt (N : Nat) (e : Ending) : Prop := ∃ t : ByteArray, e = .returned (.string t) ∧ t.size ≤ N
set_option maxHeartbeats 8000000 in
theorem line_any {B0 B : Nat} {a : Option Addr} {len cap : Nat} {w : World} (s : Dr B0 B a len cap w) :
    Calls Tryz.prog 16 #[.pointer (some ⟨B, 0, none⟩)] w fun e w' => IsTxt 500 e ∧ Dr B0 B a len cap w' ∧ w.grownBy w' (some B) := by
  have HD := hide (Ds.start s)
  have hB := s.lt
  clear s
  go_enter Tryz.func16, Tryz.ntmps16
  go_wp2_with fail
  refine (anystep_any HD.out.dr).mono ?_
  rintro _ w1 ⟨⟨D, ka, kc, rfl, ho, hks⟩, s1, g1⟩
  replace HD := hide (HD.out.step s1 g1)
  have HS := hide (steps_spec D ka kc w1 (own_seg ho).1.one (by omega))
  have hT := txt_size D hks
  clear s1 g1 ho
  obtain ⟨T, hTT⟩ : ∃ T : ByteArray, (⟨(stL D).toArray⟩ : ByteArray) = T := ⟨_, rfl⟩
  rw [hTT] at HS hT
  clear hTT
  go_wp2_with fail
  refine (unhide HS).mono ?_
  rintro _ w2 ⟨rfl, hk2⟩
  replace HD := hide (HD.out.keep hk2)
  clear hk2 HS
  by_cases h0 : T = ⟨#[]⟩
  · subst h0
    have HBW : Hid (B < w2.heap.size) := by have := HD.out.dr.lt; exact this
    replace HD := hide (HD.out.alloc (.cells #[.string ⟨#[]⟩, .string ⟨#[32]⟩, .string ⟨#[115, 121, 110, 99]⟩, .string ⟨#[35, 32, 120]⟩, .string ⟨#[32, 49]⟩, .string ⟨#[116, 97, 107, 101]⟩, .string ⟨#[116, 97, 107, 101, 32, 116, 105, 99, 107]⟩, .string ⟨#[99, 114, 97, 115, 104, 32, 48, 49]⟩, .string ⟨#[116, 117, 114, 110, 32, 49, 32, 50, 32, 51, 32, 52]⟩, .string ⟨#[116, 117, 114, 110, 32, 48, 32, 49, 48, 48, 32, 53, 32, 48, 32, 49, 48]⟩, .string ⟨#[115, 116, 97, 114, 116, 32, 110, 111, 119]⟩, .string ⟨#[99, 114, 97, 115, 104, 32, 45, 49]⟩, .string ⟨#[116, 97, 107, 101, 32, 32, 116, 105, 99, 107]⟩] 9))
    go_wp2_with fail
    refine (below_any 13 HD.out.dr (by omega) (by omega)).mono ?_
    rintro _ w8 ⟨⟨p, p0, p1, rfl⟩, s1, g1⟩
    obtain ⟨p, rfl⟩ : ∃ p' : Nat, p = p' := ⟨p.toNat, by omega⟩
    obtain ⟨u, hu, hc⟩ := str13 p (by omega)
    have c0 := lit_cell g1 hc HBW.out
    replace HD := hide (HD.out.step s1 g1)
    have qa := add_run (⟨#[]⟩ : ByteArray) u (by have : (⟨#[]⟩ : ByteArray).size = 0 := rfl; omega)
    clear s1 g1 hc
    go_wp2_with fail
    go_ret
    exact ⟨⟨_, rfl, by rw [ByteArray.size_append]; have : (⟨#[]⟩ : ByteArray).size = 0 := rfl; omega⟩, HD.out.dr, HD.out.gr⟩
  · have hd : T.data.toList ≠ [] := fun e => h0 (ByteArray.ext (by simpa using e))
    have hne : ¬ T.toList = [] := by rw [toList_data]; exact hd
    have hie : T.toList.isEmpty = false := by simpa using hne
    have hse : (T.toList == []) = false := by simpa using hne
    clear hd
    go_wp2_with fail
    refine (below_any 8 HD.out.dr (by omega) (by omega)).mono ?_
    rintro _ w3 ⟨⟨q, q0, q1, rfl⟩, s1, g1⟩
    replace HD := hide (HD.out.step s1 g1)
    clear s1 g1
    by_cases hq : q = 0
    · subst hq
      have HBW : Hid (B < w3.heap.size) := by have := HD.out.dr.lt; exact this
      replace HD := hide (HD.out.alloc (.cells #[.string ⟨#[]⟩, .string ⟨#[32]⟩, .string ⟨#[115, 121, 110, 99]⟩, .string ⟨#[35, 32, 120]⟩, .string ⟨#[32, 49]⟩, .string ⟨#[116, 97, 107, 101]⟩, .string ⟨#[116, 97, 107, 101, 32, 116, 105, 99, 107]⟩, .string ⟨#[99, 114, 97, 115, 104, 32, 48, 49]⟩, .string ⟨#[116, 117, 114, 110, 32, 49, 32, 50, 32, 51, 32, 52]⟩, .string ⟨#[116, 117, 114, 110, 32, 48, 32, 49, 48, 48, 32, 53, 32, 48, 32, 49, 48]⟩, .string ⟨#[115, 116, 97, 114, 116, 32, 110, 111, 119]⟩, .string ⟨#[99, 114, 97, 115, 104, 32, 45, 49]⟩, .string ⟨#[116, 97, 107, 101, 32, 32, 116, 105, 99, 107]⟩] 9))
      go_wp2_with fail
      refine (below_any 13 HD.out.dr (by omega) (by omega)).mono ?_
      rintro _ w8 ⟨⟨p, p0, p1, rfl⟩, s1, g1⟩
      obtain ⟨p, rfl⟩ : ∃ p' : Nat, p = p' := ⟨p.toNat, by omega⟩
      obtain ⟨u, hu, hc⟩ := str13 p (by omega)
      have c0 := lit_cell g1 hc HBW.out
      replace HD := hide (HD.out.step s1 g1)
      have qa := add_run T u (by  omega)
      clear s1 g1 hc
      go_wp2_with fail
      go_ret
      exact ⟨⟨_, rfl, by rw [ByteArray.size_append];  omega⟩, HD.out.dr, HD.out.gr⟩
    · have hq' : (q == 0) = false := beq_eq_false_iff_ne.2 hq
      go_wp2_with fail
      go_ret
      exact ⟨⟨T, rfl, by omega⟩, HD.out.dr, HD.out.gr⟩
set_option maxHeartbeats 8000000 in
theorem script_any {B0 B : Nat} {a : Option Addr} {len cap : Nat} {w : World} (s : Dr B0 B a len cap w) (most : Nat) (hmo : most ≤ 100) :
    Calls Tryz.prog 14 #[.pointer (some ⟨B, 0, none⟩), .int .i64 (most : Int)] w fun e w' => IsTxt (401 * (8 + most)) e ∧ Dr B0 B a len cap w' ∧ w.grownBy w' (some B) := by
  have HD := hide (Ds.start s)
  have hB := s.lt
  clear s
  go_enter Tryz.func14, Tryz.ntmps14
  go_wp2_with fail
  refine (steps_any HD.out.dr most hmo).mono ?_
  rintro _ w1 ⟨⟨v, nb, rfl, hl, hn, hk⟩, s1, g1⟩
  replace HD := hide (HD.out.step s1 g1)
  obtain ⟨va, vc, rfl, _, hvo⟩ := own_ofF hl.row
  have HC := hide hvo.one
  have HI := hide hl.inner.mem
  have HKS := hide hk
  clear s1 g1 hl hvo hk
  go_wp2_with fail
  go_loopw [5, 12] (fun t y wr => ∃ (i : Nat) (T : ByteArray), i ≤ nb.length ∧ y = .int .i64 (i : Int) ∧ t = .string T ∧ T.size ≤ 401 * i ∧ Hid (Keeps w1 wr)) (fun _ y _ => nb.length - (intOf y).toNat)
  case atStart => exact ⟨0, ⟨#[]⟩, by omega, rfl, rfl, by show (⟨#[]⟩ : ByteArray).size ≤ _; exact Nat.le_refl 0, Keeps.refl _⟩
  case round =>
    obtain ⟨i, T, hi, rfl, rfl, hT, HK⟩ := hrel
    by_cases hlt : i < nb.length
    · obtain ⟨b, off, e1, c0, c1, c2, c3, c4, c5, c6, c7, c8, c9, c10, c11, c12, c13⟩ := ms_at (HC.out.kept HK.out) i hlt
      have HM := hide ((mem_ms HI.out i hlt).kept HK.out)
      have hks := HKS.out nb[i] (List.getElem_mem hlt)
      have HEA := hide e1
      clear e1
      obtain rfl := HEA.out
      generalize nb[i] = x at *
      obtain ⟨⟨k, ⟨ek, ey, ec, et, em, ef, eb⟩, ks, ⟨lo, hi2, st, mi, ma⟩⟩, ka, kc⟩ := x
      dsimp only at c0 c1 c2 c3 c4 c5 c6 c7 c8 c9 c10 c11 c12 c13 HM hks
      have HA := hide (Keeps.alloc (Keeps.refl wr) (.cells #[.int .i64 k, .int .i64 ek, .int .i64 ey, .int .i64 ec, .int .i64 et, .int .i64 em, .int .i64 ef, .bool eb, .slice ka ks.length kc, .int .i64 lo, .int .i64 hi2, .int .i64 st, .int .i64 mi, .int .i64 ma] 33))
      have HS := hide (steps_spec ⟨k, ⟨ek, ey, ec, et, em, ef, eb⟩, ks, ⟨lo, hi2, st, mi, ma⟩⟩ ka kc _ (HM.out.kept HA.out) (by show ks.length ≤ _; omega))
      have hS := txt_size ⟨k, ⟨ek, ey, ec, et, em, ef, eb⟩, ks, ⟨lo, hi2, st, mi, ma⟩⟩ hks
      obtain ⟨S, hSS⟩ : ∃ S : ByteArray, (⟨(stL ⟨k, ⟨ek, ey, ec, et, em, ef, eb⟩, ks, ⟨lo, hi2, st, mi, ma⟩⟩).toArray⟩ : ByteArray) = S := ⟨_, rfl⟩
      rw [hSS] at HS hS
      clear hSS
      have hnl : nb.length ≤ 110 := by omega
      have e1 : (⟨#[10]⟩ : ByteArray).size = 1 := rfl
      have qa := add_run T S (by omega)
      have qb := add_run (T ++ S) ⟨#[10]⟩ (by rw [ByteArray.size_append, e1]; omega)
      go_wp2_with fail
      refine (unhide HS).mono ?_
      rintro _ w3 ⟨rfl, hk3⟩
      have HK3 := hide (HK.out.trans (HA.out.trans hk3))
      clear hk3 HS c0 c1 c2 c3 c4 c5 c6 c7 c8 c9 c10 c11 c12 c13
      go_wp2_with fail
      go_roundw
      case rel => exact ⟨i + 1, T ++ S ++ ⟨#[10]⟩, by omega, by go_num, rfl, by rw [ByteArray.size_append, ByteArray.size_append, e1]; omega, HK3⟩
      case measure => simp [intOf]; omega
    · go_wp2_with fail
      go_ret
      have hd := HD.out.keep HK.out
      exact ⟨⟨T, rfl, by have := Nat.mul_le_mul_left 401 hn; have : i ≤ nb.length := hi; omega⟩, hd.dr, hd.gr⟩
set_option maxHeartbeats 16000000 in
theorem drawscript_any (a : Option Addr) (len cap : Nat) (w : World) (hr : RowAt w.heap.size w a len) (hl : len ≤ 1048576) :
    Calls Tryz.prog 5 #[.slice a len cap] w fun e w' => IsTxt 20000 e ∧ Keeps w w' := by
  go_enter Tryz.func5, Tryz.ntmps5
  go_wp2_with fail
  refine (new_any a len cap w hr hl).mono ?_
  rintro x w1 ⟨he, s1, hk1⟩
  have he1 : x = .returned (.pointer (some ⟨w.heap.size, 0, none⟩)) := he
  subst he1
  have HD := hide (Ds.start s1)
  have HK1 := hide hk1
  have hBw := s1.lt
  clear he s1 hk1 hr
  go_wp2_with fail
  refine (script_any HD.out.dr 10 (by omega)).mono ?_
  rintro _ w2 ⟨⟨T, rfl, hT⟩, s1, g1⟩
  replace HD := hide (HD.out.step s1 g1)
  clear s1 g1
  go_wp2_with fail
  refine (below_any 2 HD.out.dr (by omega) (by omega)).mono ?_
  rintro _ w3 ⟨⟨x, x0, x1, rfl⟩, s1, g1⟩
  replace HD := hide (HD.out.step s1 g1)
  clear s1 g1
  by_cases hx : x = 0
  · subst hx
    go_wp2_with fail
    refine (line_any HD.out.dr).mono ?_
    rintro _ w4 ⟨⟨L, rfl, hL⟩, s1, g1⟩
    replace HD := hide (HD.out.step s1 g1)
    clear s1 g1
    have qa := add_run T L (by omega)
    have HBW : Hid (w.heap.size < w4.heap.size) := by have := HD.out.dr.lt; exact this
    replace HD := hide (HD.out.alloc (.cells #[.string ⟨#[]⟩, .string ⟨#[10]⟩, .string ⟨#[10, 10, 35, 32, 101, 110, 100]⟩] 9))
    go_wp2_with fail
    refine (below_any 3 HD.out.dr (by omega) (by omega)).mono ?_
    rintro _ w5 ⟨⟨p, p0, p1, rfl⟩, s1, g1⟩
    obtain ⟨p, rfl⟩ : ∃ p' : Nat, p = p' := ⟨p.toNat, by omega⟩
    obtain ⟨u, hu, hc⟩ := str3 p (by omega)
    have c0 := lit_cell g1 hc HBW.out
    replace HD := hide (HD.out.step s1 g1)
    have hTL : (T ++ L).size ≤ 7800 := by rw [ByteArray.size_append]; omega
    have qb := add_run (T ++ L) u (by omega)
    have hTu : (T ++ L ++ u).size ≤ 7900 := by rw [ByteArray.size_append]; omega
    clear s1 g1 hc
    go_wp2_with fail
    refine (below_any 40 HD.out.dr (by omega) (by omega)).mono ?_
    rintro _ w6 ⟨⟨y, y0, y1, rfl⟩, s1, g1⟩
    replace HD := hide (HD.out.step s1 g1)
    clear s1 g1
    by_cases hy : y = 0
    · subst hy
      go_wp2_with fail
      go_loopw [4, 5] (fun t y wr => ∃ (m : Nat) (T' : ByteArray), y = .int .i64 (m : Int) ∧ t = .string T' ∧ T'.size + 5 * m ≤ 10000 ∧ Hid (Ds w1 (w.heap.size) (w.heap.size) a len cap wr)) (fun _ y _ => (intOf y).toNat)
      case atStart => exact ⟨292, (T ++ L ++ u), rfl, rfl, by omega, HD.out⟩
      case round =>
        clear HD
        obtain ⟨m, T', rfl, rfl, hT', HD⟩ := hrel
        by_cases hm : 0 < m
        · obtain ⟨j, rfl⟩ : ∃ j, m = j + 1 := ⟨m - 1, by omega⟩
          have hj5 : j ≤ 2000 := by omega
          have e1 : (⟨#[115, 121, 110, 99, 10]⟩ : ByteArray).size = 5 := rfl
          have qa := add_run T' ⟨#[115, 121, 110, 99, 10]⟩ (by omega)
          go_wp2_with fail
          go_roundw
          case rel => exact ⟨j, T' ++ ⟨#[115, 121, 110, 99, 10]⟩, by go_num, rfl, by rw [ByteArray.size_append, e1]; omega, HD⟩
          case measure => simp [intOf]
        · obtain rfl : m = 0 := by omega
          go_wp2_with fail
          refine (below_any 60 HD.out.dr (by omega) (by omega)).mono ?_
          rintro _ w7 ⟨⟨z, z0, z1, rfl⟩, s1, g1⟩
          replace HD := hide (HD.out.step s1 g1)
          clear s1 g1
          by_cases hz : z = 0
          · subst hz
            go_wp2_with fail
            go_loopw [4] (fun t wr => ∃ T' : ByteArray, t = .string T' ∧ T'.size ≤ 20000 ∧ Hid (Ds w1 (w.heap.size) (w.heap.size) a len cap wr)) (fun t _ => 8002 - (match t with | .string T' => T'.size | _ => 0))
            case atStart => exact ⟨T', rfl, by omega, HD.out⟩
            case round =>
              clear HD
              obtain ⟨T', rfl, hT', HD⟩ := hrel
              go_wp2_with fail
              refine (below_any 2 HD.out.dr (by omega) (by omega)).mono ?_
              rintro _ w8 ⟨⟨y, y0, y1, rfl⟩, s1, g1⟩
              replace HD := hide (HD.out.step s1 g1)
              clear s1 g1
              by_cases hlt : (T'.size : Int) < 8000 + y
              · have e1 : (⟨#[35]⟩ : ByteArray).size = 1 := rfl
                have qa := add_run T' ⟨#[35]⟩ (by omega)
                go_wp2_with fail
                go_roundw
                case rel => exact ⟨T' ++ ⟨#[35]⟩, rfl, by rw [ByteArray.size_append, e1]; omega, HD⟩
                case measure => simp [ByteArray.size_append, e1]; omega
              · go_wp2_with fail
                go_ret
                exact ⟨⟨T', rfl, by omega⟩, keeps_of HK1.out HD.out.gr (fun r hr => by injection hr with hr; omega)⟩
          · have hz' : (z == 0) = false := beq_eq_false_iff_ne.2 hz
            go_wp2_with fail
            go_ret
            exact ⟨⟨T', rfl, by omega⟩, keeps_of HK1.out HD.out.gr (fun r hr => by injection hr with hr; omega)⟩
    · have hy' : (y == 0) = false := beq_eq_false_iff_ne.2 hy
      go_wp2_with fail
      refine (below_any 60 HD.out.dr (by omega) (by omega)).mono ?_
      rintro _ w7 ⟨⟨z, z0, z1, rfl⟩, s1, g1⟩
      replace HD := hide (HD.out.step s1 g1)
      clear s1 g1
      by_cases hz : z = 0
      · subst hz
        go_wp2_with fail
        go_loopw [4] (fun t wr => ∃ T' : ByteArray, t = .string T' ∧ T'.size ≤ 20000 ∧ Hid (Ds w1 (w.heap.size) (w.heap.size) a len cap wr)) (fun t _ => 8002 - (match t with | .string T' => T'.size | _ => 0))
        case atStart => exact ⟨(T ++ L ++ u), rfl, by omega, HD.out⟩
        case round =>
          clear HD
          obtain ⟨T', rfl, hT', HD⟩ := hrel
          go_wp2_with fail
          refine (below_any 2 HD.out.dr (by omega) (by omega)).mono ?_
          rintro _ w8 ⟨⟨y, y0, y1, rfl⟩, s1, g1⟩
          replace HD := hide (HD.out.step s1 g1)
          clear s1 g1
          by_cases hlt : (T'.size : Int) < 8000 + y
          · have e1 : (⟨#[35]⟩ : ByteArray).size = 1 := rfl
            have qa := add_run T' ⟨#[35]⟩ (by omega)
            go_wp2_with fail
            go_roundw
            case rel => exact ⟨T' ++ ⟨#[35]⟩, rfl, by rw [ByteArray.size_append, e1]; omega, HD⟩
            case measure => simp [ByteArray.size_append, e1]; omega
          · go_wp2_with fail
            go_ret
            exact ⟨⟨T', rfl, by omega⟩, keeps_of HK1.out HD.out.gr (fun r hr => by injection hr with hr; omega)⟩
      · have hz' : (z == 0) = false := beq_eq_false_iff_ne.2 hz
        go_wp2_with fail
        go_ret
        exact ⟨⟨(T ++ L ++ u), rfl, by omega⟩, keeps_of HK1.out HD.out.gr (fun r hr => by injection hr with hr; omega)⟩
  · have hx' : (x == 0) = false := beq_eq_false_iff_ne.2 hx
    go_wp2_with fail
    refine (below_any 40 HD.out.dr (by omega) (by omega)).mono ?_
    rintro _ w6 ⟨⟨y, y0, y1, rfl⟩, s1, g1⟩
    replace HD := hide (HD.out.step s1 g1)
    clear s1 g1
    by_cases hy : y = 0
    · subst hy
      go_wp2_with fail
      go_loopw [4, 5] (fun t y wr => ∃ (m : Nat) (T' : ByteArray), y = .int .i64 (m : Int) ∧ t = .string T' ∧ T'.size + 5 * m ≤ 10000 ∧ Hid (Ds w1 (w.heap.size) (w.heap.size) a len cap wr)) (fun _ y _ => (intOf y).toNat)
      case atStart => exact ⟨292, T, rfl, rfl, by omega, HD.out⟩
      case round =>
        clear HD
        obtain ⟨m, T', rfl, rfl, hT', HD⟩ := hrel
        by_cases hm : 0 < m
        · obtain ⟨j, rfl⟩ : ∃ j, m = j + 1 := ⟨m - 1, by omega⟩
          have hj5 : j ≤ 2000 := by omega
          have e1 : (⟨#[115, 121, 110, 99, 10]⟩ : ByteArray).size = 5 := rfl
          have qa := add_run T' ⟨#[115, 121, 110, 99, 10]⟩ (by omega)
          go_wp2_with fail
          go_roundw
          case rel => exact ⟨j, T' ++ ⟨#[115, 121, 110, 99, 10]⟩, by go_num, rfl, by rw [ByteArray.size_append, e1]; omega, HD⟩
          case measure => simp [intOf]
        · obtain rfl : m = 0 := by omega
          go_wp2_with fail
          refine (below_any 60 HD.out.dr (by omega) (by omega)).mono ?_
          rintro _ w7 ⟨⟨z, z0, z1, rfl⟩, s1, g1⟩
          replace HD := hide (HD.out.step s1 g1)
          clear s1 g1
          by_cases hz : z = 0
          · subst hz
            go_wp2_with fail
            go_loopw [4] (fun t wr => ∃ T' : ByteArray, t = .string T' ∧ T'.size ≤ 20000 ∧ Hid (Ds w1 (w.heap.size) (w.heap.size) a len cap wr)) (fun t _ => 8002 - (match t with | .string T' => T'.size | _ => 0))
            case atStart => exact ⟨T', rfl, by omega, HD.out⟩
            case round =>
              clear HD
              obtain ⟨T', rfl, hT', HD⟩ := hrel
              go_wp2_with fail
              refine (below_any 2 HD.out.dr (by omega) (by omega)).mono ?_
              rintro _ w8 ⟨⟨y, y0, y1, rfl⟩, s1, g1⟩
              replace HD := hide (HD.out.step s1 g1)
              clear s1 g1
              by_cases hlt : (T'.size : Int) < 8000 + y
              · have e1 : (⟨#[35]⟩ : ByteArray).size = 1 := rfl
                have qa := add_run T' ⟨#[35]⟩ (by omega)
                go_wp2_with fail
                go_roundw
                case rel => exact ⟨T' ++ ⟨#[35]⟩, rfl, by rw [ByteArray.size_append, e1]; omega, HD⟩
                case measure => simp [ByteArray.size_append, e1]; omega
              · go_wp2_with fail
                go_ret
                exact ⟨⟨T', rfl, by omega⟩, keeps_of HK1.out HD.out.gr (fun r hr => by injection hr with hr; omega)⟩
          · have hz' : (z == 0) = false := beq_eq_false_iff_ne.2 hz
            go_wp2_with fail
            go_ret
            exact ⟨⟨T', rfl, by omega⟩, keeps_of HK1.out HD.out.gr (fun r hr => by injection hr with hr; omega)⟩
    · have hy' : (y == 0) = false := beq_eq_false_iff_ne.2 hy
      go_wp2_with fail
      refine (below_any 60 HD.out.dr (by omega) (by omega)).mono ?_
      rintro _ w7 ⟨⟨z, z0, z1, rfl⟩, s1, g1⟩
      replace HD := hide (HD.out.step s1 g1)
      clear s1 g1
      by_cases hz : z = 0
      · subst hz
        go_wp2_with fail
        go_loopw [4] (fun t wr => ∃ T' : ByteArray, t = .string T' ∧ T'.size ≤ 20000 ∧ Hid (Ds w1 (w.heap.size) (w.heap.size) a len cap wr)) (fun t _ => 8002 - (match t with | .string T' => T'.size | _ => 0))
        case atStart => exact ⟨T, rfl, by omega, HD.out⟩
        case round =>
          clear HD
          obtain ⟨T', rfl, hT', HD⟩ := hrel
          go_wp2_with fail
          refine (below_any 2 HD.out.dr (by omega) (by omega)).mono ?_
          rintro _ w8 ⟨⟨y, y0, y1, rfl⟩, s1, g1⟩
          replace HD := hide (HD.out.step s1 g1)
          clear s1 g1
          by_cases hlt : (T'.size : Int) < 8000 + y
          · have e1 : (⟨#[35]⟩ : ByteArray).size = 1 := rfl
            have qa := add_run T' ⟨#[35]⟩ (by omega)
            go_wp2_with fail
            go_roundw
            case rel => exact ⟨T' ++ ⟨#[35]⟩, rfl, by rw [ByteArray.size_append, e1]; omega, HD⟩
            case measure => simp [ByteArray.size_append, e1]; omega
          · go_wp2_with fail
            go_ret
            exact ⟨⟨T', rfl, by omega⟩, keeps_of HK1.out HD.out.gr (fun r hr => by injection hr with hr; omega)⟩
      · have hz' : (z == 0) = false := beq_eq_false_iff_ne.2 hz
        go_wp2_with fail
        go_ret
        exact ⟨⟨T, rfl, by omega⟩, keeps_of HK1.out HD.out.gr (fun r hr => by injection hr with hr; omega)⟩
end Go.Proofs.YtkgpoghoilffhaaGreatDoor
namespace Go.Proofs.YtkgpoghoilffhaaGreatDoor
open Go.RowKit
set_option linter.unusedVariables false
set_option linter.unusedSimpArgs false
set_option maxRecDepth 10000
theorem underStrs : Tryz.prog.underlying 46 = some (.slice 9) := Tryz.underlying46
theorem infoStr : (Tryz.prog.info? 9).map (fun i => (i.zero, i.size, i.bytes)) = some (some (.string ByteArray.empty), 1, 16) := by kernel_rfl
def strs (ws : List ByteArray) : List Value := ws.map .string
theorem app_str {ops : Array Oper} {rest : List Oper} {o : Oper} {a : Act} {Q : Exit → Act → World → Prop} {wr : World} (hgd : o.guard = none) (s x : Operand)
    (ho : o.op = .call { callee := .builtin .append, args := #[s, x], argTypes := #[46, 46] }) (base : Nat) (v : Value) (M : List ByteArray) (y : ByteArray) (hs : a.eval s = v)
    (hx : a.eval x = .slice (some ⟨wr.heap.size, 0, none⟩) 1 1) (hown : wr.ownsRow base 9 1 v M.length (strs M)) (hM : M.length ≤ 4194304) (hbase : base ≤ wr.heap.size)
    (h : ∀ v' w', w'.ownsRow base 9 1 v' (M ++ [y]).length (strs (M ++ [y])) → (wr.alloc (.cells #[.string y] 9)).grownBy w' v.ownBlock → wpList Tryz.prog ops Q rest (a.put o.dst v') w') :
    wpList Tryz.prog ops Q (o :: rest) a (wr.alloc (.cells #[.string y] 9)) := by
  have hI := infoStr
  cases hi : Tryz.prog.info? 9 with
  | none => rw [hi] at hI; simp at hI
  | some i =>
    rw [hi] at hI
    simp at hI
    obtain ⟨hz, hsz, hby⟩ := hI
    refine wpList_append_own _ hgd s x 46 ho base 9 i _ 1 16 underStrs hi hz hsz hby rfl (by decide) v M.length (strs M) hs (hown.alloc _) ⟨wr.heap.size, 0, none⟩ 1 1 [.string y] hx rfl ?_ ?_ ?_ ?_ ?_ ?_
    · intro j u hj
      match j, hj with
      | 0, hj => simp at hj; subst hj; simp [Addr.add]
      | n + 1, hj => simp at hj
    · intro u hu
      simp at hu
      rcases hu with rfl <;> rfl
    · simp only [maxLen]; omega
    · omega
    · simp; omega
    · intro v' w' h1 h2 h3
      refine h v' w' ?_ h2
      unfold strs at h1 ⊢
      rw [List.map_append, List.length_append]; exact h1
/-- Words, each with a blank behind it. -/
def pre (ws : List (List UInt8)) : List UInt8 := ws.flatMap (· ++ [32])
theorem pre_snoc (ws : List (List UInt8)) (x : List UInt8) : pre (ws ++ [x]) = pre ws ++ x ++ [32] := by simp [pre]
theorem join_pre : ∀ (ws : List (List UInt8)) (x : List UInt8), join (ws ++ [x]) = pre ws ++ x
  | [], x => by simp [join, pre]
  | [w], x => by simp [join, pre]
  | w :: v :: r, x => by
    have ih := join_pre (v :: r) x
    have e : (w :: v :: r) ++ [x] = w :: v :: (r ++ [x]) := rfl
    rw [e, join_cons]
    have e2 : v :: (r ++ [x]) = (v :: r) ++ [x] := rfl
    rw [e2, ih]
    simp [pre]
def dl (x : ByteArray) : List UInt8 := x.data.toList
/-- What a text's parts are. -/
structure Spl (s : ByteArray) (ws : List ByteArray) : Prop where
  ne : ws ≠ []
  joined : join (ws.map dl) = dl s
  no : ∀ x ∈ ws, (32 : UInt8) ∉ dl x
  size : ∀ x ∈ ws, x.size ≤ s.size
theorem Spl.eq {s : ByteArray} {ws : List ByteArray} (h : Spl s ws) {W : List (List UInt8)} (hW : W ≠ []) (hn : ∀ w ∈ W, (32 : UInt8) ∉ w) (hj : join W = dl s) : ws.map dl = W := by
  have h1 := split_join (ws.map dl) (ws.length + W.length) (by simpa using h.ne) (by intro w hw; obtain ⟨x, hx, rfl⟩ := List.mem_map.1 hw; exact h.no x hx) (by simp; omega)
  have h2 := split_join W (ws.length + W.length) hW hn (by omega)
  rw [h.joined] at h1
  rw [hj] at h2
  exact h1.symm.trans h2
/-- Where the cutting stands behind i bytes. -/
structure At (s : ByteArray) (i frm : Nat) (ws : List ByteArray) : Prop where
  le : frm ≤ i
  done : pre (ws.map dl) = (dl s).take frm
  clear : ∀ j, frm ≤ j → j < i → (dl s)[j]? ≠ some 32
  no : ∀ x ∈ ws, (32 : UInt8) ∉ dl x
  size : ∀ x ∈ ws, x.size ≤ s.size
  len : ws.length ≤ i
theorem World.ownsRow.from' {w : World} {base n : Nat} {e : TypeId} {sz : Nat} {v : Value} {xs : List Value} (h : w.ownsRow base e sz v n xs) : ∀ k, v.ownBlock = some k → base ≤ k := fun k hk => (h.lt k hk).1
theorem dl_extract (s : ByteArray) (a b : Nat) : dl (s.extract a b) = ((dl s).take b).drop a := by
  unfold dl
  rw [ByteArray.data_extract]
  simp [Array.toList_extract, List.drop_take]
theorem piece_no {s : ByteArray} {frm i : Nat} (hc : ∀ j, frm ≤ j → j < i → (dl s)[j]? ≠ some 32) : (32 : UInt8) ∉ dl (s.extract frm i) := by
  rw [dl_extract]
  intro h
  obtain ⟨j, hj⟩ := List.mem_iff_getElem?.1 h
  rw [List.getElem?_drop, List.getElem?_take] at hj
  split at hj
  · exact hc (frm + j) (by omega) (by omega) hj
  · cases hj
theorem At.miss {s : ByteArray} {i frm : Nat} {ws : List ByteArray} (h : At s i frm ws) (hlt : i < s.size) (hb : (s[i]'hlt).toNat ≠ 32) : At s (i + 1) frm ws := by
  refine ⟨by have := h.le; omega, h.done, ?_, h.no, h.size, by have := h.len; omega⟩
  intro j h1 h2
  by_cases e : j = i
  · subst e
    intro e2
    apply hb
    have e3 : (dl s)[j]? = some (s[j]'hlt) := by
      unfold dl
      rw [Array.getElem?_toList, Array.getElem?_eq_getElem hlt]
      rfl
    rw [e3] at e2
    injection e2 with e2
    rw [e2]; rfl
  · exact h.clear j h1 (by omega)
theorem At.hit {s : ByteArray} {i frm : Nat} {ws : List ByteArray} (h : At s i frm ws) (hlt : i < s.size) (hb : (s[i]'hlt).toNat = 32) : At s (i + 1) (i + 1) (ws ++ [s.extract frm i]) := by
  have e3 : (dl s)[i]? = some 32 := by
    unfold dl
    rw [Array.getElem?_toList, Array.getElem?_eq_getElem hlt]
    exact congrArg some (UInt8.toNat_inj.1 hb)
  refine ⟨by omega, ?_, by intro j h1 h2; omega, ?_, ?_, by have := h.len; simp; omega⟩
  · rw [List.map_append, List.map_cons, List.map_nil, pre_snoc, h.done, dl_extract]
    have hl := h.le
    rw [List.take_add_one, e3]
    have : List.take frm (dl s) = (List.take i (dl s)).take frm := by rw [List.take_take, Nat.min_eq_left hl]
    rw [this, List.take_append_drop]
    rfl
  · intro x hx
    rcases List.mem_append.1 hx with hx | hx
    · exact h.no x hx
    · rw [List.mem_singleton.1 hx]; exact piece_no h.clear
  · intro x hx
    rcases List.mem_append.1 hx with hx | hx
    · exact h.size x hx
    · rw [List.mem_singleton.1 hx, ByteArray.size_extract]; omega
theorem At.last {s : ByteArray} {frm : Nat} {ws : List ByteArray} (h : At s s.size frm ws) : Spl s (ws ++ [s.extract frm s.size]) := by
  refine ⟨by simp, ?_, ?_, ?_⟩
  · rw [List.map_append, List.map_cons, List.map_nil, join_pre, h.done, dl_extract]
    have e : (dl s).take s.size = dl s := List.take_of_length_le (by unfold dl; rw [Array.length_toList]; exact Nat.le_refl _)
    rw [e, List.take_append_drop]
  · intro x hx
    rcases List.mem_append.1 hx with hx | hx
    · exact h.no x hx
    · rw [List.mem_singleton.1 hx]; exact piece_no h.clear
  · intro x hx
    rcases List.mem_append.1 hx with hx | hx
    · exact h.size x hx
    · rw [List.mem_singleton.1 hx, ByteArray.size_extract]; omega
set_option maxRecDepth 100000 in
set_option maxHeartbeats 4000000 in
theorem parts_k (s : ByteArray) (w : World) (hs : s.size ≤ 1048576) :
    Calls Tryz.prog 33 #[.string s, .int .u8 32] w fun e w' => ∃ v ws, e = .returned v ∧ w'.ownsRow w.heap.size 9 1 v ws.length (strs ws) ∧ Spl s ws ∧ Keeps w w' := by
  have hk0 := Keeps.alloc (Keeps.refl w) (.cells #[] 9)
  have HO0 : Hid ((w.alloc (.cells #[] 9)).ownsRow w.heap.size 9 1 (.slice (some ⟨w.heap.size, 0, none⟩) 0 0) 0 []) := World.ownsRow_made (base := w.heap.size) (e := 9) (size := 1) w #[] 0 (Nat.le_refl _) (by decide) rfl
  go_enter Tryz.func33, Tryz.ntmps33
  go_wp2_with fail
  go_loopw [5, 6, 7] (fun o fr y wr => ∃ (i frm : Nat) (ws : List ByteArray), i ≤ s.size ∧ y = .int .i64 (i : Int) ∧ fr = .int .i64 (frm : Int) ∧ Hid (wr.ownsRow w.heap.size 9 1 o ws.length (strs ws)) ∧ Hid (At s i frm ws) ∧ Hid (Keeps w wr)) (fun _ _ y _ => s.size - (intOf y).toNat)
  case atStart => exact ⟨0, 0, [], by omega, rfl, rfl, HO0, ⟨by omega, by simp [pre], by intro j h1 h2; omega, by simp, by simp, by simp⟩, hk0⟩
  case round =>
    clear HO0 hk0
    obtain ⟨i, frm, ws, hi, rfl, rfl, HO, HA, HK⟩ := hrel
    have hfi := HA.out.le
    have hln := HA.out.len
    by_cases hlt : i < s.size
    · have hsz := HK.out.size
      by_cases hb : ((s[i]'hlt).toNat : Int) = 32
      · have HKA := hide (Keeps.alloc HK.out (.cells #[.string (s.extract frm i)] 9))
        have HF := hide (World.ownsRow.from' HO.out)
        go_wp2_with (at_builtin; refine app_str rfl (.tmp 20) (.tmp 25) rfl w.heap.size _ ws (s.extract frm i) rfl rfl HO.out (by omega) hsz ?_; intro v' w' ho hg)
        go_roundw
        case rel => exact ⟨i + 1, i + 1, ws ++ [s.extract frm i], by omega, by go_num, by go_num, ho, HA.out.hit hlt (by omega), Keeps.grown HKA.out hg HF.out⟩
        case measure => simp [intOf]; omega
      · go_wp2_with fail
        go_roundw
        case rel => exact ⟨i + 1, frm, ws, by omega, by go_num, rfl, HO, HA.out.miss hlt (by omega), HK⟩
        case measure => simp [intOf]; omega
    · have e : i = s.size := by omega
      subst e
      have hsz := HK.out.size
      have HKA := hide (Keeps.alloc HK.out (.cells #[.string (s.extract frm s.size)] 9))
      have HF := hide (World.ownsRow.from' HO.out)
      go_wp2_with (at_builtin; refine app_str rfl (.tmp 29) (.tmp 33) rfl w.heap.size _ ws (s.extract frm s.size) rfl rfl HO.out (by omega) hsz ?_; intro v' w' ho hg)
      go_ret
      exact ⟨v', ws ++ [s.extract frm s.size], rfl, ho, HA.out.last, Keeps.grown HKA.out hg HF.out⟩
end Go.Proofs.YtkgpoghoilffhaaGreatDoor
namespace Go.Proofs.YtkgpoghoilffhaaGreatDoor
open Go.RowKit
set_option linter.unusedVariables false
set_option linter.unusedSimpArgs false
set_option maxRecDepth 10000
theorem dl_len (s : ByteArray) : (dl s).length = s.size := by unfold dl; simp
theorem dl_at (s : ByteArray) (c : UInt8) (i : Nat) (h : i < s.size) : (dl s ++ [c])[i]? = some (s[i]'h) := by
  rw [List.getElem?_append_left (by rw [dl_len]; exact h)]
  exact getB_at s i h
theorem dl_end (s : ByteArray) (c : UInt8) : (dl s ++ [c])[s.size]? = some c := by
  rw [List.getElem?_append_right (by rw [dl_len]; exact Nat.le_refl _), dl_len]; simp
theorem dl_piece (s : ByteArray) (c : UInt8) {a b : Nat} (h : b ≤ s.size) : dl (s.extract a b) = ((dl s ++ [c]).take b).drop a := by
  rw [dl_extract, List.take_append_of_le_length (by rw [dl_len]; exact h)]
/-- What the parts of a text are, in memory's words. -/
structure Pts (c : UInt8) (s : ByteArray) (ws : List ByteArray) : Prop where
  eq : ws.map dl = partsE c (dl s ++ [c])
  size : ∀ x ∈ ws, x.size ≤ s.size
  len : ws.length ≤ s.size + 1
theorem Pts.ne {c : UInt8} {s : ByteArray} {ws : List ByteArray} (h : Pts c s ws) : ws ≠ [] := by
  intro e
  have := h.eq
  rw [e] at this
  exact partsE_ne (dl s) this.symm
structure AtP (c : UInt8) (s : ByteArray) (i frm : Nat) (ws : List ByteArray) : Prop where
  at_ : AtE c (dl s ++ [c]) i frm (ws.map dl)
  size : ∀ x ∈ ws, x.size ≤ s.size
  len : ws.length ≤ i
theorem AtP.start (c : UInt8) (s : ByteArray) : AtP c s 0 0 [] := ⟨AtE.start _ _, by simp, by simp⟩
theorem AtP.miss {c : UInt8} {s : ByteArray} {i frm : Nat} {ws : List ByteArray} (h : AtP c s i frm ws) (hlt : i < s.size) (hb : ¬ (s[i]'hlt).toNat = c.toNat) : AtP c s (i + 1) frm ws := by
  refine ⟨h.at_.skip 1 fun j h1 h2 => ?_, h.size, by have := h.len; omega⟩
  obtain rfl : j = i := by omega
  rw [dl_at s c j hlt]
  intro e
  exact hb (congrArg UInt8.toNat (Option.some.inj e))
theorem AtP.hit {c : UInt8} {s : ByteArray} {i frm : Nat} {ws : List ByteArray} (h : AtP c s i frm ws) (hlt : i < s.size) (hb : (s[i]'hlt).toNat = c.toNat) : AtP c s (i + 1) (i + 1) (ws ++ [s.extract frm i]) := by
  refine ⟨?_, ?_, by have := h.len; simp; omega⟩
  · rw [List.map_append, List.map_cons, List.map_nil, dl_piece s c (Nat.le_of_lt hlt)]
    exact h.at_.hit (by rw [dl_at s c i hlt, UInt8.toNat_inj.1 hb])
  · intro x hx
    rcases List.mem_append.1 hx with hx | hx
    · exact h.size x hx
    · rw [List.mem_singleton.1 hx, ByteArray.size_extract]; omega
theorem AtP.last {c : UInt8} {s : ByteArray} {frm : Nat} {ws : List ByteArray} (h : AtP c s s.size frm ws) : Pts c s (ws ++ [s.extract frm s.size]) := by
  refine ⟨?_, ?_, by have := h.len; simp; omega⟩
  · rw [List.map_append, List.map_cons, List.map_nil, dl_piece s c (Nat.le_refl _)]
    exact (((h.at_.hit (dl_end s c)).fin (by rw [dl_len]; omega))).symm
  · intro x hx
    rcases List.mem_append.1 hx with hx | hx
    · exact h.size x hx
    · rw [List.mem_singleton.1 hx, ByteArray.size_extract]; omega
set_option maxRecDepth 100000 in
set_option maxHeartbeats 4000000 in
theorem parts_e (c : UInt8) (s : ByteArray) (w : World) (hs : s.size ≤ 1048576) :
    Calls Tryz.prog 33 #[.string s, .int .u8 (c.toNat : Int)] w fun e w' => ∃ v ws, e = .returned v ∧ w'.ownsRow w.heap.size 9 1 v ws.length (strs ws) ∧ Pts c s ws ∧ Keeps w w' := by
  have hk0 := Keeps.alloc (Keeps.refl w) (.cells #[] 9)
  have HO0 : Hid ((w.alloc (.cells #[] 9)).ownsRow w.heap.size 9 1 (.slice (some ⟨w.heap.size, 0, none⟩) 0 0) 0 []) := World.ownsRow_made (base := w.heap.size) (e := 9) (size := 1) w #[] 0 (Nat.le_refl _) (by decide) rfl
  have hc8 : c.toNat < 256 := c.toNat_lt
  have hcv : Hid (c.toNat = c.toNat) := rfl
  go_enter Tryz.func33, Tryz.ntmps33
  go_wp2_with fail
  go_loopw [5, 6, 7] (fun o fr y wr => ∃ (i frm : Nat) (ws : List ByteArray), i ≤ s.size ∧ y = .int .i64 (i : Int) ∧ fr = .int .i64 (frm : Int) ∧ Hid (wr.ownsRow w.heap.size 9 1 o ws.length (strs ws)) ∧ Hid (AtP c s i frm ws) ∧ Hid (Keeps w wr)) (fun _ _ y _ => s.size - (intOf y).toNat)
  case atStart => exact ⟨0, 0, [], by omega, rfl, rfl, HO0, AtP.start c s, hk0⟩
  case round =>
    clear HO0 hk0
    obtain ⟨i, frm, ws, hi, rfl, rfl, HO, HA, HK⟩ := hrel
    have hfi := HA.out.at_.le
    have hln := HA.out.len
    by_cases hlt : i < s.size
    · have hsz := HK.out.size
      by_cases hb : ((s[i]'hlt).toNat : Int) = (c.toNat : Int)
      · have HKA := hide (Keeps.alloc HK.out (.cells #[.string (s.extract frm i)] 9))
        have HF := hide (World.ownsRow.from' HO.out)
        go_wp2_with (at_builtin; refine app_str rfl (.tmp 20) (.tmp 25) rfl w.heap.size _ ws (s.extract frm i) rfl rfl HO.out (by omega) hsz ?_; intro v' w' ho hg)
        go_roundw
        case rel => exact ⟨i + 1, i + 1, ws ++ [s.extract frm i], by omega, by go_num, by go_num, ho, HA.out.hit hlt (by omega), Keeps.grown HKA.out hg HF.out⟩
        case measure => simp [intOf]; omega
      · go_wp2_with fail
        go_roundw
        case rel => exact ⟨i + 1, frm, ws, by omega, by go_num, rfl, HO, HA.out.miss hlt (by omega), HK⟩
        case measure => simp [intOf]; omega
    · have e : i = s.size := by omega
      subst e
      have hsz := HK.out.size
      have HKA := hide (Keeps.alloc HK.out (.cells #[.string (s.extract frm s.size)] 9))
      have HF := hide (World.ownsRow.from' HO.out)
      go_wp2_with (at_builtin; refine app_str rfl (.tmp 29) (.tmp 33) rfl w.heap.size _ ws (s.extract frm s.size) rfl rfl HO.out (by omega) hsz ?_; intro v' w' ho hg)
      go_ret
      exact ⟨v', ws ++ [s.extract frm s.size], rfl, ho, HA.out.last, Keeps.grown HKA.out hg HF.out⟩
end Go.Proofs.YtkgpoghoilffhaaGreatDoor
