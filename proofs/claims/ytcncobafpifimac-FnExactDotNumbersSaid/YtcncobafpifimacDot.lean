/-
  Contracts: sums of products of both sides, from left to right.
-/
import Derived.Test.YtcncobafpifimacSum
namespace Go.Proofs.Ytcncobafpifimac
open Go.RowKit Fl
set_option linter.unusedVariables false

def dotK (xs ys : List Nat) : Nat → Nat
  | 0 => 0
  | k + 1 => ar .add .f32 (dotK xs ys k) (ar .mul .f32 (xs.getD k 0) (ys.getD k 0))
theorem dotK_succ (xs ys : List Nat) (k : Nat) (h1 : k < xs.length) (h2 : k < ys.length) : dotK xs ys (k + 1) = ar .add .f32 (dotK xs ys k) (ar .mul .f32 xs[k] ys[k]) := by
  show ar .add .f32 _ (ar .mul .f32 (xs.getD k 0) (ys.getD k 0)) = _
  simp [h1, h2]
def DotRel (w : World) (xs ys : List Nat) (s i : Value) (wr : World) : Prop := ∃ k m r : Nat, k ≤ xs.length ∧ i = .int .i64 k ∧ s = .float .f32 r ∧ Is .f32 r (dotK xs ys k) ∧ wr = w.drewN m

theorem prod_any (x y : Nat) (w : World) : Calls Try.prog 23 #[.float .f32 x, .float .f32 y] w (RetF32 (ar .mul .f32 x y) w) := by
  go_enter Try.func23, Try.ntmps23
  go_wp2_with (refine up_ar rfl ?_; intro r n hr)
  go_ret
  exact ⟨_, _, rfl, hr, rfl⟩

set_option maxHeartbeats 2000000 in
theorem dotS_any (va vb : Value) (xs ys : List Nat) (w : World) (B : Nat) (ha : Rd w B va (fl xs)) (hb : Rd w B vb (fl ys)) (hl : ys.length = xs.length) (hm : xs.length ≤ 256) :
    Calls Try.prog 21 #[va, vb] w (RetF32 (dotK xs ys xs.length) w) := by
  obtain ⟨A, c, hva, hc1, hc2, hca⟩ := ha
  obtain ⟨A', c', hvb, hc1', hc2', hcb⟩ := hb
  rw [fl_len] at hva hvb hc1 hc1' hca hcb
  rw [hl] at hvb hcb
  subst hva hvb
  have hCa := Lib.hid hca
  have hCb := Lib.hid hcb
  have hL := Lib.hid hl
  clear hca hcb hl
  go_enter Try.func21, Try.ntmps21
  go_wp2
  go_loopw [5, 6] (DotRel w xs ys) (fun _ i _ => xs.length - (intOf i).toNat)
  case atStart => exact ⟨0, 0, 0, Nat.zero_le _, rfl, rfl, is_lit (by decide), rfl⟩
  case round =>
    obtain ⟨k, m, r0, hk, rfl, rfl, hr0, rfl⟩ := hrel
    by_cases hlt : k < xs.length
    · obtain ⟨b, off, rfl, hbl, hcc⟩ := hCa.out (by omega)
      obtain ⟨b', off', rfl, hbl', hcc'⟩ := hCb.out (by omega)
      have hk2 : k < ys.length := by have := hL.out; omega
      have h1 : w.cell? ⟨b, off + k, none⟩ = some (.float .f32 xs[k]) := hcc k _ (fl_get xs k hlt)
      have h2 : w.cell? ⟨b', off' + k, none⟩ = some (.float .f32 ys[k]) := hcc' k _ (fl_get ys k hk2)
      have hS := Lib.hid (dotK_succ xs ys k hlt hk2)
      clear hcc hcc' hCa hCb hL
      generalize xs[k] = x at *
      generalize ys[k] = y at *
      go_wp2
      go_region_with (first | (refine up_ar (op := .mul) rfl ?_; intro rp np hp) | (refine up_ar2 (op := .add) rfl hr0 hp ?_; intro rs ns hs))
      all_goals
        go_wp2
        go_roundw
        case rel => exact ⟨k + 1, _, _, by omega, by go_num, rfl, by rw [hS.out]; exact hs, rfl⟩
        case measure => simp [intOf]; omega
    · obtain rfl : k = xs.length := by omega
      go_wp2
      go_ret
      exact ⟨_, _, rfl, hr0, rfl⟩
set_option maxHeartbeats 2000000 in
theorem dotI_any (va vb : Value) (xs ys : List Nat) (w : World) (B : Nat) (ha : Rd w B va (fl xs)) (hb : Rd w B vb (fl ys)) (hl : ys.length = xs.length) (hm : xs.length ≤ 256) :
    Calls Try.prog 22 #[va, vb, .func (.func 23) #[] #[]] w (RetFB (dotK xs ys xs.length) true w) := by
  obtain ⟨A, c, hva, hc1, hc2, hca⟩ := ha
  obtain ⟨A', c', hvb, hc1', hc2', hcb⟩ := hb
  rw [fl_len] at hva hvb hc1 hc1' hca hcb
  rw [hl] at hvb hcb
  subst hva hvb
  have hCa := Lib.hid hca
  have hCb := Lib.hid hcb
  have hL := Lib.hid hl
  clear hca hcb hl
  go_enter Try.func22, Try.ntmps22
  go_wp2
  go_loopw [8, 24] (DotRel w xs ys) (fun _ i _ => xs.length - (intOf i).toNat)
  case atStart => exact ⟨0, 0, 0, Nat.zero_le _, rfl, rfl, is_lit (by decide), rfl⟩
  case round =>
    obtain ⟨k, m, r0, hk, rfl, rfl, hr0, rfl⟩ := hrel
    by_cases hlt : k < xs.length
    · obtain ⟨b, off, rfl, hbl, hcc⟩ := hCa.out (by omega)
      obtain ⟨b', off', rfl, hbl', hcc'⟩ := hCb.out (by omega)
      have hk2 : k < ys.length := by have := hL.out; omega
      have h1 : w.cell? ⟨b, off + k, none⟩ = some (.float .f32 xs[k]) := hcc k _ (fl_get xs k hlt)
      have h2 : w.cell? ⟨b', off' + k, none⟩ = some (.float .f32 ys[k]) := hcc' k _ (fl_get ys k hk2)
      have hS := Lib.hid (dotK_succ xs ys k hlt hk2)
      clear hcc hcc' hCa hCb hL
      generalize xs[k] = x at *
      generalize ys[k] = y at *
      go_wp2_with (first | (go_at_call 23; refine (prod_any _ _ _).mono ?_; rintro e w' ⟨rp, np, rfl, hp, rfl⟩) | (refine up_ar2 (op := .add) rfl hr0 hp ?_; intro rs ns hs))
      go_roundw
      case rel => exact ⟨k + 1, _, _, by omega, by go_num, rfl, by rw [hS.out]; exact hs, rfl⟩
      case measure => simp [intOf]; omega
    · obtain rfl : k = xs.length := by omega
      go_wp2
      go_ret2
      exact ⟨_, _, rfl, hr0, rfl⟩
theorem dotI_no (va vb : Value) (xs ys : List Nat) (w : World) (B : Nat) (ha : Rd w B va (fl xs)) (hb : Rd w B vb (fl ys)) (h : 256 < xs.length ∨ ys.length ≠ xs.length) (hm : xs.length ≤ 1048576) (hm' : ys.length ≤ 1048576) :
    Calls Try.prog 22 #[va, vb, .func (.func 23) #[] #[]] w (RetFB 0 false w) := by
  obtain ⟨A, c, hva, hc1, hc2, hca⟩ := ha
  obtain ⟨A', c', hvb, hc1', hc2', hcb⟩ := hb
  rw [fl_len] at hva hvb
  subst hva hvb
  clear hca hcb
  by_cases h1 : 256 < xs.length
  · clear h
    go_enter Try.func22, Try.ntmps22
    go_wp2
    go_ret2
    exact ⟨_, 0, rfl, is_lit (by decide), rfl⟩
  · have h2 : (((xs.length : Int) != (ys.length : Int)) : Bool) = true := by simp; omega
    have h3 : xs.length ≤ 256 := by omega
    clear h h1
    go_enter Try.func22, Try.ntmps22
    go_wp2
    go_ret2
    exact ⟨_, 0, rfl, is_lit (by decide), rfl⟩
theorem dotSp_yes (va vb : Value) (xs ys : List Nat) (w : World) (B : Nat) (ha : Rd w B va (fl xs)) (hb : Rd w B vb (fl ys)) (hl : ys.length = xs.length) (hm : xs.length ≤ 256) :
    Calls Try.prog 12 #[va, vb] w (RetFB (dotK xs ys xs.length) true w) := by
  obtain ⟨A, c, hva, q1, q2, q3⟩ := id ha
  obtain ⟨A', c', hvb, q4, q5, q6⟩ := id hb
  clear q1 q2 q3 q4 q5 q6
  rw [fl_len] at hva hvb
  rw [hl] at hvb
  subst hva hvb
  have hd := Lib.hid (decide_eq_true hm)
  have hL := Lib.hid hl
  clear hl
  go_enter Try.func12, Try.ntmps12
  go_wp2_with (first | (go_at_call 18; refine (few_any _ _ _ _ ha (by omega)).mono ?_; rintro e w' ⟨rfl, rfl⟩; rw [hd.out]) | (go_at_call 21; refine (dotS_any _ _ _ _ _ _ ha hb hL.out hm).mono ?_; rintro e w' ⟨r, n, rfl, hr, rfl⟩))
  go_ret2
  exact ⟨_, _, rfl, hr, rfl⟩
theorem dotSp_no (va vb : Value) (xs ys : List Nat) (w : World) (B : Nat) (ha : Rd w B va (fl xs)) (hb : Rd w B vb (fl ys)) (h : 256 < xs.length ∨ ys.length ≠ xs.length) (hm : xs.length ≤ 1048576) (hm' : ys.length ≤ 1048576) :
    Calls Try.prog 12 #[va, vb] w (RetFB 0 false w) := by
  obtain ⟨A, c, hva, q1, q2, q3⟩ := id ha
  obtain ⟨A', c', hvb, q4, q5, q6⟩ := id hb
  clear q1 q2 q3 q4 q5 q6
  rw [fl_len] at hva hvb
  subst hva hvb
  by_cases h1 : xs.length ≤ 256
  · have hd := Lib.hid (decide_eq_true h1)
    have h2 : (((xs.length : Int) != (ys.length : Int)) : Bool) = true := by simp; omega
    clear h
    go_enter Try.func12, Try.ntmps12
    go_wp2_with (go_at_call 18; refine (few_any _ _ _ _ ha hm).mono ?_; rintro e w' ⟨rfl, rfl⟩; rw [hd.out])
    go_ret2
    exact ⟨_, 0, rfl, is_lit (by decide), rfl⟩
  · have hd := Lib.hid (decide_eq_false h1)
    clear h
    go_enter Try.func12, Try.ntmps12
    go_wp2_with (go_at_call 18; refine (few_any _ _ _ _ ha hm).mono ?_; rintro e w' ⟨rfl, rfl⟩; rw [hd.out])
    go_ret2
    exact ⟨_, 0, rfl, is_lit (by decide), rfl⟩
end Go.Proofs.Ytcncobafpifimac
