/-
  Contracts: sums of products of the program's side; parts of lists.
-/
import Derived.Test.YthkklilfignmpaaFin
import Derived.Test.YthkklilfignmpaaFloAbs
import Derived.Test.YthkklilfignmpaaMem
namespace Go.Proofs.Ythkklilfignmpaa
open Go.RowKit Fl
set_option linter.unusedVariables false
def RetF32 (c : Nat) (w : World) (e : Ending) (w' : World) : Prop := ∃ r n, e = .returned (.float .f32 r) ∧ Is .f32 r c ∧ w' = w.drewN n
/-- Returns a number and whether there is one. -/
def RetFB (c : Nat) (b : Bool) (w : World) (e : Ending) (w' : World) : Prop := ∃ r n, e = .returned (.tuple #[.float .f32 r, .bool b]) ∧ Is .f32 r c ∧ w' = w.drewN n
def dotK (xs ys : List Nat) : Nat → Nat
  | 0 => 0
  | k + 1 => ar .add .f32 (dotK xs ys k) (ar .mul .f32 (xs.getD k 0) (ys.getD k 0))
theorem dotK_succ (xs ys : List Nat) (k : Nat) (h1 : k < xs.length) (h2 : k < ys.length) : dotK xs ys (k + 1) = ar .add .f32 (dotK xs ys k) (ar .mul .f32 xs[k] ys[k]) := by
  show ar .add .f32 _ (ar .mul .f32 (xs.getD k 0) (ys.getD k 0)) = _
  simp [h1, h2]
def DotRel (w : World) (xs ys : List Nat) (s i : Value) (wr : World) : Prop := ∃ k m r : Nat, k ≤ xs.length ∧ i = .int .i64 k ∧ s = .float .f32 r ∧ Is .f32 r (dotK xs ys k) ∧ wr = w.drewN m

theorem prod_any (x y : Nat) (w : World) : Calls Try.prog 188 #[.float .f32 x, .float .f32 y] w (RetF32 (ar .mul .f32 x y) w) := by
  go_enter Try.func188, Try.ntmps188
  go_wp2_with (refine up_ar rfl ?_; intro r n hr)
  go_ret
  exact ⟨_, _, rfl, hr, rfl⟩

set_option maxHeartbeats 2000000 in
theorem dotI_any (va vb : Value) (xs ys : List Nat) (w : World) (B : Nat) (ha : Rd w B va (fl xs)) (hb : Rd w B vb (fl ys)) (hl : ys.length = xs.length) (hm : xs.length ≤ 256) :
    Calls Try.prog 187 #[va, vb, .func (.func 188) #[] #[]] w (RetFB (dotK xs ys xs.length) true w) := by
  obtain ⟨A, c, hva, hc1, hc2, hca⟩ := ha
  obtain ⟨A', c', hvb, hc1', hc2', hcb⟩ := hb
  rw [fl_len] at hva hvb hc1 hc1' hca hcb
  rw [hl] at hvb hcb
  subst hva hvb
  have hCa := Lib.hid hca
  have hCb := Lib.hid hcb
  have hL := Lib.hid hl
  clear hca hcb hl
  go_enter Try.func187, Try.ntmps187
  go_wp2
  go_loopw [8, 24] (DotRel w xs ys) (fun _ i _ => xs.length - (intOf i).toNat)
  case atStart => exact ⟨0, 0, 0, Nat.zero_le _, rfl, rfl, is_lit (by decide), rfl⟩
  case round =>
    obtain ⟨k, m, r0, hk, rfl, rfl, hr0, rfl⟩ := hrel
    by_cases hlt : k < xs.length
    · obtain ⟨b, off, rfl, hbl, hcc⟩ := hCa.out (by omega)
      obtain ⟨b', off', rfl, hbl', hcc'⟩ := hCb.out (by omega)
      have hk2 : k < ys.length := by have := hL.out; omega
      have h1 : w.cell? ⟨b, off + k, none⟩ = some (.float .f32 xs[k]) := hcc k _ (fl_get xs k hlt)
      have h2 : w.cell? ⟨b', off' + k, none⟩ = some (.float .f32 ys[k]) := hcc' k _ (fl_get ys k hk2)
      have hS := Lib.hid (dotK_succ xs ys k hlt hk2)
      clear hcc hcc' hCa hCb hL
      generalize xs[k] = x at *
      generalize ys[k] = y at *
      go_wp2_with (first | (go_at_call 188; refine (prod_any _ _ _).mono ?_; rintro e w' ⟨rp, np, rfl, hp, rfl⟩) | (refine up_ar2 (op := .add) rfl hr0 hp ?_; intro rs ns hs))
      go_roundw
      case rel => exact ⟨k + 1, _, _, by omega, by go_num, rfl, by rw [hS.out]; exact hs, rfl⟩
      case measure => simp [intOf]; omega
    · obtain rfl : k = xs.length := by omega
      go_wp2
      go_ret2
      exact ⟨_, _, rfl, hr0, rfl⟩

set_option maxRecDepth 100000 in
theorem fl_take (xs : List Nat) (k : Nat) : fl (xs.take k) = (fl xs).take k := by simp [fl, List.map_take]
theorem fl_drop (xs : List Nat) (k : Nat) : fl (xs.drop k) = (fl xs).drop k := by simp [fl, List.map_drop]
theorem Rd.prefix' {w : World} {B b off n c : Nat} {xs : List Value} (h : Rd w B (.slice (some ⟨b, off, none⟩) n c) xs) (k : Nat) (hk : k ≤ n) : Rd w B (.slice (some ⟨b, off, none⟩) k c) (xs.take k) := by
  obtain ⟨A, c', hv, h1, h2, h3⟩ := h
  simp only [Value.slice.injEq] at hv
  obtain ⟨rfl, rfl, rfl⟩ := hv
  have hl : (xs.take k).length = k := by rw [List.length_take]; omega
  refine ⟨_, c, by rw [hl], by omega, h2, fun hp => ?_⟩
  obtain ⟨b', off', e, hb, hc⟩ := h3 (by omega)
  refine ⟨b', off', e, hb, fun i x hx => hc i x ?_⟩
  have hi : i < k := by have := (List.getElem?_eq_some_iff.1 hx).1; omega
  rw [List.getElem?_take, if_pos hi] at hx
  exact hx
theorem Rd.suffix' {w : World} {B b off n c : Nat} {xs : List Value} (h : Rd w B (.slice (some ⟨b, off, none⟩) n c) xs) (k : Nat) (hk : k ≤ n) : Rd w B (.slice (some ⟨b, off + k, none⟩) (n - k) (c - k)) (xs.drop k) := by
  obtain ⟨A, c', hv, h1, h2, h3⟩ := h
  simp only [Value.slice.injEq] at hv
  obtain ⟨rfl, rfl, rfl⟩ := hv
  have hl : (xs.drop k).length = xs.length - k := by rw [List.length_drop]
  refine ⟨_, c - k, by rw [hl], by omega, by omega, fun hp => ?_⟩
  obtain ⟨b', off', e, hb, hc⟩ := h3 (by omega)
  cases e
  refine ⟨b, off + k, rfl, hb, fun i x hx => ?_⟩
  rw [List.getElem?_drop] at hx
  rw [Nat.add_assoc]
  exact hc _ x hx
theorem dotK_take (xs ys : List Nat) (m : Nat) : ∀ k, k ≤ m → dotK (xs.take m) ys k = dotK xs ys k := by
  intro k
  induction k with
  | zero => intro _; rfl
  | succ k ih =>
    intro hk
    show ar .add .f32 _ (ar .mul .f32 ((xs.take m).getD k 0) _) = ar .add .f32 _ (ar .mul .f32 (xs.getD k 0) _)
    rw [ih (by omega)]
    congr 2
    simp only [List.getD, List.getElem?_take, if_pos (show k < m by omega)]
end Go.Proofs.Ythkklilfignmpaa
