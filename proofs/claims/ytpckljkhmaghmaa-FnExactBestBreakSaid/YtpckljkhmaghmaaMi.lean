/-
  Contracts: means of squares, of the program; misses, of both sides.
-/
import Derived.Test.YtpckljkhmaghmaaDf
import Derived.Test.YtpckljkhmaghmaaIff
import Derived.Test.YtpckljkhmaghmaaLng
import Derived.Test.YtpckljkhmaghmaaFloQn
namespace Go.Proofs.Ytpckljkhmaghmaa
open Go.RowKit Fl
set_option linter.unusedVariables false

theorem is_int32 (n : Int) : Is .f32 (floatOfInt .f32 n) (floatOfInt .f32 n) := by
  refine ⟨cn_of_not ?_, wf_lt (floatOfInt_wf .f32 n)⟩
  unfold floatOfInt FloatKind.nearest isN
  exact read_write _ _ rfl
def msX (xs : List Nat) : Nat := ar .quo .f32 (enF xs) (floatOfInt .f32 (xs.length : Int))
theorem is_lt {r c : Nat} (h : Is .f32 r c) : c < 2 ^ 32 := by
  rw [← h.1]
  unfold cn
  split
  · decide
  · exact h.2
theorem msX_fin {xs : List Nat} {r : Nat} (hr : Is .f32 r (enF xs)) (h1 : 1 ≤ xs.length) (h2 : xs.length ≤ 256) : finB .f32 (msX xs) = enO xs := quo_fin _ _ (is_lt hr) h1 h2
theorem msI_any (v : Value) (xs : List Nat) (w : World) (B : Nat) (h : Rd w B v (fl xs)) (h1 : 1 ≤ xs.length) (hm : xs.length ≤ 256) (hen : ∃ r, Is .f32 r (enF xs)) :
    Calls Try.prog 72 #[v] w (RetFB (fnV (msX xs)) (finB .f32 (msX xs)) w) := by
  obtain ⟨r0, hr0⟩ := hen
  have HM := Lib.hid (msX_fin hr0 h1 hm)
  have HE := Lib.hid (enI_any v xs w B h (by omega))
  obtain ⟨A, c, ev, _, _, _⟩ := h
  rw [fl_len] at ev
  subst ev
  cases he : enO xs with
  | true =>
    have HT := Lib.hid he
    have HV := Lib.hid (enV_yes he)
    clear he
    go_enter Try.func72, Try.ntmps72
    go_wp2_with (first | (go_at_call 97; refine HE.out.mono ?_; rintro e w' ⟨r, n, rfl, hr, rfl⟩; rw [HT.out]; rw [HV.out] at hr) | (refine up_ar2 (op := .quo) rfl hr (is_int32 _) ?_; intro rq nq hq))
    go_ret2
    unfold fnV
    rw [HM.out, HT.out]
    exact ⟨_, _, rfl, hq, rfl⟩
  | false =>
    have HT := Lib.hid he
    clear he
    go_enter Try.func72, Try.ntmps72
    go_wp2_with (go_at_call 97; refine HE.out.mono ?_; rintro e w' ⟨r, n, rfl, hr, rfl⟩; rw [HT.out])
    go_ret2
    unfold fnV
    rw [HM.out, HT.out]
    exact ⟨_, _, rfl, is_nought, rfl⟩
def MiRel (w : World) (xs ys : List Nat) (s i : Value) (wr : World) : Prop := ∃ k m r : Nat, k ≤ xs.length ∧ i = .int .i64 k ∧ s = .float .f32 r ∧ Is .f32 r (dotK (dfL xs ys) (dfL xs ys) k) ∧ wr = w.drewN m
set_option maxHeartbeats 2000000 in
theorem miS_any (va vb : Value) (xs ys : List Nat) (w : World) (B : Nat) (ha : Rd w B va (fl xs)) (hb : Rd w B vb (fl ys)) (hl : ys.length = xs.length) (hm : xs.length ≤ 1048576) (hfa : finA xs = true) (hfb : finA ys = true) :
    Calls Try.prog 70 #[va, vb] w (RetF32 (msX (dfL xs ys)) w) := by
  obtain ⟨A, c, hva, hc1, hc2, hca⟩ := ha
  obtain ⟨A', c', hvb, hc1', hc2', hcb⟩ := hb
  rw [fl_len] at hva hvb hc1 hc1' hca hcb
  rw [hl] at hvb hcb
  subst hva hvb
  have hCa := Lib.hid hca
  have hCb := Lib.hid hcb
  have hL := Lib.hid hl
  have HR := Lib.hid (show msX (dfL xs ys) = ar .quo .f32 (dotK (dfL xs ys) (dfL xs ys) xs.length) (floatOfInt .f32 (xs.length : Int)) by unfold msX enF; rw [dfL_len])
  clear hca hcb hl
  go_enter Try.func70, Try.ntmps70
  go_wp2
  go_loopw [5, 10] (MiRel w xs ys) (fun _ i _ => xs.length - (intOf i).toNat)
  case atStart => exact ⟨0, 0, 0, Nat.zero_le _, rfl, rfl, is_lit (by decide), rfl⟩
  case round =>
    obtain ⟨k, m, r0, hk, rfl, rfl, hr0, rfl⟩ := hrel
    by_cases hlt : k < xs.length
    · obtain ⟨b, off, rfl, hbl, hcc⟩ := hCa.out (by omega)
      obtain ⟨b', off', rfl, hbl', hcc'⟩ := hCb.out (by omega)
      have hk2 : k < ys.length := by have := hL.out; omega
      have h1 : w.cell? ⟨b, off + k, none⟩ = some (.float .f32 xs[k]) := hcc k _ (fl_get xs k hlt)
      have h2 : w.cell? ⟨b', off' + k, none⟩ = some (.float .f32 ys[k]) := hcc' k _ (fl_get ys k hk2)
      have HD := Lib.hid (dif_nums (finA_out hfa k hlt) (finA_out hfb k hk2))
      have HS := Lib.hid (show dotK (dfL xs ys) (dfL xs ys) (k + 1) = ar .add .f32 (dotK (dfL xs ys) (dfL xs ys) k) (ar .mul .f32 (ar .sub .f32 xs[k] ys[k]) (ar .sub .f32 xs[k] ys[k])) by rw [dotK_succ _ _ k (by rw [dfL_len]; exact hlt) (by rw [dfL_len]; exact hlt), dfL_get xs ys k hlt hk2])
      clear hcc hcc' hCa hCb hL
      generalize xs[k] = x at *
      generalize ys[k] = y at *
      go_wp2_with fail
      go_region_with (refine up_ar (op := .sub) rfl ?_; intro rd nd hd; have hde := is_eq hd HD.out; clear hd; subst hde)
      all_goals
        go_wp2_with (first | (refine up_ar (op := .mul) rfl ?_; intro rp np hp) | (refine up_ar2 (op := .add) rfl hr0 hp ?_; intro rs ns hs))
        go_roundw
        case rel => exact ⟨k + 1, _, _, by omega, by go_num, rfl, by rw [HS.out]; exact hs, rfl⟩
        case measure => simp [intOf]; omega
    · obtain rfl : k = xs.length := by omega
      go_wp2_with (refine up_ar2 (op := .quo) rfl hr0 (is_int32 _) ?_; intro rs ns hs)
      go_ret
      exact ⟨_, _, rfl, by rw [HR.out]; exact hs, rfl⟩
end Go.Proofs.Ytpckljkhmaghmaa
