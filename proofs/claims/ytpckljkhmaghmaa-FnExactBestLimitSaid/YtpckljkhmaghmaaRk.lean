/-
  Contracts: risks of limits, of the model.
-/
import Derived.Test.YtpckljkhmaghmaaRkK
namespace Go.Proofs.Ytpckljkhmaghmaa
open Go.RowKit Fl Ieee
set_option linter.unusedVariables false

set_option maxRecDepth 100000 in
set_option maxHeartbeats 4000000 in
theorem rkS_any (v : Value) (xs : List Nat) (a l : Nat) (w : World) (h : Rd w w.heap.size v (fl xs)) (hm : xs.length ≤ 128) (hx : ∀ x ∈ xs, x < 2 ^ 32) (hfin : finA xs = true) (ha : a < 2 ^ 32) (hfa : finB .f32 a = true) (hl : l < 2 ^ 32) (hls : lsB l = true) :
    Calls Try.prog 65 #[v, .float .f32 a, .float .f32 l] w (RetF32 (rkX xs a l) w) := by
  obtain ⟨A, c, hv, q1, q2, q3⟩ := h
  rw [fl_len] at hv q1 q3
  subst hv
  have HQ := Lib.hid q3
  have HX := Lib.hid hx
  have HFL := Lib.hid (lsB_fin' hls)
  have HM := Lib.hid (mul_nums (lsB_fin' hls) (lsB_fin' hls))
  have HA := Lib.hid (show Is .f32 a a from ⟨cn_fin hfa, ha⟩)
  have HR := Lib.hid (show rkX xs a l = ar .add .f32 (ar .mul .f32 (ar .mul .f32 a a) (floatOfInt .f32 ((xs.length : Int) - 2 * (cnK xs l xs.length : Int)))) (rsK xs l xs.length) from rfl)
  clear q3 hx
  go_enter Try.func65, Try.ntmps65
  go_wp2
  go_loopw [7, 8, 12] (RsRel w xs l) (fun _ _ i _ => xs.length - (intOf i).toNat)
  case atStart => exact ⟨0, 0, 0, Nat.zero_le _, rfl, rfl, rfl, is_lit (by decide), rfl⟩
  case round =>
    obtain ⟨k, m, r0, hk, rfl, rfl, rfl, hr0, rfl⟩ := hrel
    by_cases hlt : k < xs.length
    · obtain ⟨b, off, rfl, hbl, hcc⟩ := HQ.out (by omega)
      have h1 : w.cell? ⟨b, off + k, none⟩ = some (.float .f32 xs[k]) := hcc k _ (fl_get xs k hlt)
      have HS := Lib.hid (rsK_succ xs l k hlt)
      have HC := Lib.hid (cnK_succ xs l k hlt)
      have hfk := finA_out hfin k hlt
      have hxk := HX.out _ (List.getElem_mem hlt)
      have HP := Lib.hid (mul_nums hfk hfk)
      have HZ := Lib.hid (fun w' => sizS_any xs[k] w' hxk hfk)
      have hcn := cnK_le xs l k
      clear hcc hfk hxk
      generalize xs[k] = x at *
      have hmn : ∀ (ts : Array TypeId) (t : TypeId) (w : World), (Builtin.min_ ts t #[.float .f32 (ar .mul .f32 x x), .float .f32 (ar .mul .f32 l l)]).run Try.prog w = .ok (.float .f32 (mnF (ar .mul .f32 x x) (ar .mul .f32 l l))) w := fun ts t w => run_minF ts t _ _ w HP.out HM.out
      obtain ⟨y, hy⟩ : ∃ y, x % 2 ^ 31 = y := ⟨_, rfl⟩
      have HY := Lib.hid hy
      obtain ⟨n, hn⟩ : ∃ n, cnK xs l k = n := ⟨_, rfl⟩
      have HN := Lib.hid hn
      rw [hn] at hcn
      rw [hn]
      rw [hy] at HZ HC
      clear hy hn
      cases hg : gt32 y l
      all_goals
        have hg' : (FloatKind.f32.format.order y l == some .gt) = _ := hg
        rw [hg] at HC
        clear hg
        go_wp2_with (go_at_call 68; refine (HZ.out _).mono ?_; rintro e w' ⟨rfl, n1, rfl⟩)
        go_region_with (first | (refine up_ar (op := .mul) rfl ?_; intro rp np hp; first | (have hpe := is_eq hp HP.out; clear hp; subst hpe) | (have hpe := is_eq hp HM.out; clear hp; subst hpe)) | (refine up_ar (op := .add) rfl ?_; intro rs ns hs))
        all_goals
          go_wp2_with fail
          go_roundw
          case rel => exact ⟨k + 1, _, _, by omega, by go_num, by rw [HC.out]; first | rfl | (rw [HN.out]; go_num) | go_num, rfl, by rw [HS.out, ← ar_is_l hr0]; assumption, rfl⟩
          case measure => simp [intOf]; omega
    · obtain rfl : k = xs.length := by omega
      have hcn := cnK_le xs l xs.length
      generalize cnK xs l xs.length = n at *
      have hw1 : IntKind.i64.wrap (2 * (n : Int)) = 2 * (n : Int) := by rw [IntKind.wrap_i64]; omega
      have hw2 : IntKind.i64.wrap ((xs.length : Int) - 2 * (n : Int)) = (xs.length : Int) - 2 * (n : Int) := by rw [IntKind.wrap_i64]; omega
      go_wp2_with (first | (refine up_ar2 (op := .mul) rfl HA.out HA.out ?_; intro rp np hp) | (refine up_ar2 (op := .mul) rfl hp (is_int32 _) ?_; intro rq nq hq) | (refine up_ar2 (op := .add) rfl hq hr0 ?_; intro rs ns hs))
      go_ret
      exact ⟨_, _, rfl, by rw [HR.out]; assumption, rfl⟩
end Go.Proofs.Ytpckljkhmaghmaa
