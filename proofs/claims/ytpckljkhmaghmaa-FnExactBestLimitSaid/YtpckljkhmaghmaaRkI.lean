/-
  Contracts: risks of limits, of the program.
-/
import Derived.Test.YtpckljkhmaghmaaRkK
namespace Go.Proofs.Ytpckljkhmaghmaa
open Go.RowKit Fl Ieee
set_option linter.unusedVariables false

set_option maxRecDepth 100000 in
set_option maxHeartbeats 4000000 in
theorem rkI_ok (v : Value) (xs : List Nat) (a l : Nat) (w : World) (h : Rd w w.heap.size v (fl xs)) (hm : xs.length ≤ 128) (hx : ∀ x ∈ xs, x < 2 ^ 32) (hlong : isL xs = true) (ha : a < 2 ^ 32) (hpa : psB a = true) (hl : l < 2 ^ 32) (hls : lsB l = true) :
    Calls Try.prog 29 #[v, .float .f32 a, .float .f32 l] w (RetFB (fnV (rkX xs a l)) (finB .f32 (rkX xs a l)) w) := by
  have hfin := (isL_len hlong).2.2
  have hfa : finB .f32 a = true := by unfold psB at hpa; rw [Bool.and_eq_true] at hpa; exact hpa.1
  have H1 := Lib.hid (lngI_any v xs w _ h (by omega) hx)
  have H2 := Lib.hid (fun w' => psI_any a w' ha)
  have H3 := Lib.hid (fun w' => lsI_any l w' hl)
  have T1 := Lib.hid hlong
  have T2 := Lib.hid hpa
  have T3 := Lib.hid hls
  obtain ⟨A, c, hv, q1, q2, q3⟩ := id h
  rw [fl_len] at hv q1 q3
  subst hv
  have HQ := Lib.hid q3
  have HX := Lib.hid hx
  have HFL := Lib.hid (lsB_fin' hls)
  have HM := Lib.hid (mul_nums (lsB_fin' hls) (lsB_fin' hls))
  have HA := Lib.hid (show Is .f32 a a from ⟨cn_fin hfa, ha⟩)
  have HLL := Lib.hid (show Is .f32 l l from ⟨cn_fin (lsB_fin' hls), hl⟩)
  have HR := Lib.hid (show rkX xs a l = ar .add .f32 (ar .mul .f32 (ar .mul .f32 a a) (floatOfInt .f32 ((xs.length : Int) - 2 * (cnK xs l xs.length : Int)))) (rsK xs l xs.length) from rfl)
  clear q3 hx h hlong hpa hls
  go_enter Try.func29, Try.ntmps29
  go_wp2_with (first | (go_at_call 54; refine H1.out.mono ?_; rintro e w' ⟨rfl, n1, rfl⟩; rw [T1.out]) | (go_at_call 66; refine (H2.out _).mono ?_; rintro e w' ⟨rfl, n2, rfl⟩; rw [T2.out]) | (go_at_call 60; refine (H3.out _).mono ?_; rintro e w' ⟨rfl, n3, rfl⟩; rw [T3.out]) | (refine up_ar (op := .mul) rfl ?_; intro rp np hp; have hpe := is_eq hp HM.out; clear hp; subst hpe))
  go_loopw [9, 10, 33] (RsRelI w xs l) (fun _ _ i _ => xs.length - (intOf i).toNat)
  case atStart => exact ⟨0, _, 0, Nat.zero_le _, rfl, by simp [cnK], rfl, is_lit (by decide), rfl⟩
  case round =>
    obtain ⟨k, m, r0, hk, rfl, rfl, rfl, hr0, rfl⟩ := hrel
    by_cases hlt : k < xs.length
    · obtain ⟨b, off, rfl, hbl, hcc⟩ := HQ.out (by omega)
      have h1 : w.cell? ⟨b, off + k, none⟩ = some (.float .f32 xs[k]) := hcc k _ (fl_get xs k hlt)
      have HS := Lib.hid (rsK_succ xs l k hlt)
      have HC := Lib.hid (cnK_succ xs l k hlt)
      have hfk := finA_out hfin k hlt
      have HP := Lib.hid (mul_nums hfk hfk)
      have HZ := Lib.hid (fun w' => absI_fin xs[k] w' hfk)
      have hle := le_gt (abs_fin hfk) HFL.out
      have hcn := cnK_le xs l k
      clear hcc hfk
      generalize xs[k] = x at *
      have hmn : ∀ (ts : Array TypeId) (t : TypeId) (w : World), (Builtin.min_ ts t #[.float .f32 (ar .mul .f32 x x), .float .f32 (ar .mul .f32 l l)]).run Try.prog w = .ok (.float .f32 (mnF (ar .mul .f32 x x) (ar .mul .f32 l l))) w := fun ts t w => run_minF ts t _ _ w HP.out HM.out
      obtain ⟨y, hy⟩ : ∃ y, x % 2 ^ 31 = y := ⟨_, rfl⟩
      obtain ⟨n, hn⟩ : ∃ n, cnK xs l k = n := ⟨_, rfl⟩
      have HN := Lib.hid hn
      rw [hn] at hcn
      rw [hn]
      rw [hy] at HZ HC hle
      clear hy hn
      have hw2 : IntKind.i64.wrap ((xs.length : Int) - 2 * (n : Int) - 2) = (xs.length : Int) - 2 * (n : Int) - 2 := by rw [IntKind.wrap_i64]; omega
      cases hg : gt32 y l
      all_goals
        rw [hg] at HC hle
        simp only [Bool.not_true, Bool.not_false] at hle
        clear hg
        go_wp2_with (first | (go_at_call 67; refine (HZ.out _).mono ?_; rintro e w' ⟨rfl, n1, rfl⟩) | (refine up_ar (op := .mul) rfl ?_; intro rp np hp; have hpe := is_eq hp HP.out; clear hp; subst hpe) | (refine up_ar (op := .add) rfl ?_; intro rs ns hs))
        go_roundw
        case rel => exact ⟨k + 1, _, _, by omega, by go_num, by rw [HC.out]; first | rfl | (rw [HN.out]; go_num) | (rw [HN.out]; congr 1; simp only [Bool.false_eq_true, if_false, if_true]; omega), rfl, by rw [HS.out, ← ar_is_l hr0]; assumption, rfl⟩
        case measure => simp [intOf]; omega
    · obtain rfl : k = xs.length := by omega
      generalize cnK xs l xs.length = n at *
      go_wp2_with (first | (refine up_ar2 (op := .mul) rfl HA.out HA.out ?_; intro rp np hp) | (refine up_ar2 (op := .mul) rfl hp (is_int32 _) ?_; intro rq nq hq) | (refine up_ar2 (op := .add) rfl hq hr0 ?_; intro rs ns hs) | (go_at_call 61; refine (ifI_any _ _ _ hs).mono ?_; rintro e w' ⟨r9, n9, rfl, h9, rfl⟩))
      go_ret2
      rw [HR.out]
      exact ⟨_, _, rfl, h9, rfl⟩
end Go.Proofs.Ytpckljkhmaghmaa
