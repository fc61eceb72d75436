/-
  Contracts: the energy of a picture, of both sides.
-/
import Derived.Test.YtgfdgcoimfjhbaaPv
import Derived.Test.YtgfdgcoimfjhbaaPiL
import Derived.Test.YtgfdgcoimfjhbaaEn
namespace Go.Proofs.Ytgfdgcoimfjhbaa
open Go.RowKit Fl
set_option linter.unusedVariables false

def epB (p q : Int) (xs : List Nat) : Bool := vpcB p q xs && enO xs
def epV (p q : Int) (xs : List Nat) : Nat := if vpcB p q xs then enV xs else 0
theorem is_zero : Is .f32 0 0 := ⟨rfl, by decide⟩
set_option maxHeartbeats 1000000 in
theorem epI_any (v : Value) (p q : Int) (xs : List Nat) (w : World) (h : Rd w w.heap.size v (fl xs)) (hm : xs.length ≤ 1048576) (hx : ∀ x ∈ xs, x < 2 ^ 32) :
    Calls Try.prog 37 #[.agg #[.int .i64 p, .int .i64 q, v]] w (RetFb (epV p q xs) (epB p q xs) w) := by
  obtain ⟨A, c, hv, q1, q2, q3⟩ := id h
  clear q1 q2 q3
  rw [fl_len] at hv
  subst hv
  have h1 : Rd (w.alloc (.cells #[.int .i64 p, .int .i64 q, .slice A xs.length c] 27)) w.heap.size (.slice A xs.length c) (fl xs) := h.below ((Below.refl _ _).alloc (Nat.le_refl _) _)
  have HB := Lib.hid (show Below w.heap.size w (w.alloc (.cells #[.int .i64 p, .int .i64 q, .slice A xs.length c] 27)) from (Below.refl _ _).alloc (Nat.le_refl _) _)
  have HV := Lib.hid (vpI_any (.slice A xs.length c) p q xs _ (h1.more (by simp)) hm hx)
  clear h hx
  go_enter Try.func37, Try.ntmps37
  go_wp2_with fail
  refine HV.out.mono ?_
  rintro e w1 ⟨rfl, hb⟩
  obtain ⟨hc, hf⟩ := bcell hb
  have c2 : w1.cell? ⟨w.heap.size, 2, none⟩ = some (.slice A xs.length c) := (hc _ _ (by simp)).trans (by simp [go_sem])
  have h2 : Rd w1 w.heap.size (.slice A xs.length c) (fl xs) := h1.below (hb.mono (by simp))
  have HB2 := Lib.hid (HB.out.trans (hb.mono (by simp)))
  clear hc hf hb h1
  cases hs : vpcB p q xs with
  | false =>
    have HR := Lib.hid (show epV p q xs = 0 ∧ epB p q xs = false by simp [epV, epB, hs])
    clear hs
    go_wp2_with fail
    go_ret2
    exact ⟨0, (by rw [HR.out.2]; rfl), by rw [HR.out.1]; exact is_zero, HB2.out⟩
  | true =>
    have HR := Lib.hid (show epV p q xs = enV xs ∧ epB p q xs = enO xs by simp [epV, epB, hs])
    clear hs
    go_wp2_with fail
    refine (enI_any _ _ _ _ h2 hm).mono ?_
    rintro e w3 ⟨r, n, rfl, hr, rfl⟩
    go_wp2_with fail
    go_ret2
    exact ⟨r, (by rw [HR.out.2]; rfl), by rw [HR.out.1]; exact hr, below_drawn HB2.out _⟩
set_option maxHeartbeats 1000000 in
theorem epS_any (v : Value) (p q : Int) (xs : List Nat) (w : World) (h : Rd w w.heap.size v (fl xs)) (hm : xs.length ≤ 1048576) (hx : ∀ x ∈ xs, x < 2 ^ 32) :
    Calls Try.prog 36 #[.agg #[.int .i64 p, .int .i64 q, v]] w (RetFb (epV p q xs) (epB p q xs) w) := by
  obtain ⟨A, c, hv, q1, q2, q3⟩ := id h
  clear q1 q2 q3
  rw [fl_len] at hv
  subst hv
  have h1 : Rd (w.alloc (.cells #[.int .i64 p, .int .i64 q, .slice A xs.length c] 27)) w.heap.size (.slice A xs.length c) (fl xs) := h.below ((Below.refl _ _).alloc (Nat.le_refl _) _)
  have HB := Lib.hid (show Below w.heap.size w (w.alloc (.cells #[.int .i64 p, .int .i64 q, .slice A xs.length c] 27)) from (Below.refl _ _).alloc (Nat.le_refl _) _)
  have HV := Lib.hid (vpP_any w.heap.size (.slice A xs.length c) p q xs (w.alloc (.cells #[.int .i64 p, .int .i64 q, .slice A xs.length c] 27)) w.heap.size h1 (by simp [go_sem]) (by simp [go_sem]) (by simp [go_sem]) hm hx)
  clear h hx
  go_enter Try.func36, Try.ntmps36
  go_wp2_with fail
  refine HV.out.mono ?_
  rintro e w1 ⟨rfl, n, rfl⟩
  cases hs : vpcB p q xs with
  | false =>
    have HR := Lib.hid (show epV p q xs = 0 ∧ epB p q xs = false by simp [epV, epB, hs])
    clear hs
    go_wp2_with fail
    go_ret2
    exact ⟨0, (by rw [HR.out.2]; rfl), by rw [HR.out.1]; exact is_zero, below_drawn HB.out _⟩
  | true =>
    have HR := Lib.hid (show epV p q xs = enV xs ∧ epB p q xs = enO xs by simp [epV, epB, hs])
    have HN := Lib.hid (show enV xs = (if finB .f32 (enF xs) then enF xs else 0) from rfl)
    clear hs
    go_wp2_with fail
    refine (enS_any _ _ _ _ (h1.drewN n) hm).mono ?_
    rintro e w3 ⟨r, n3, rfl, hr, rfl⟩
    go_wp2_with fail
    refine (numS_any r _ _ hr).mono ?_
    rintro e w4 ⟨r4, n4, rfl, hr4, rfl⟩
    go_wp2_with fail
    go_ret2
    exact ⟨r4, (by rw [HR.out.2]; rfl), by rw [HR.out.1, HN.out]; exact hr4, below_drawn HB.out _⟩
end Go.Proofs.Ytgfdgcoimfjhbaa
