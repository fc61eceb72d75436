/-
  Contracts: means of what is near, of both sides, whether there are any.
-/
import Derived.Test.YtlagmkpofibibaaKmS
import Derived.Test.YtlagmkpofibibaaKmI
import Derived.Test.YtlagmkpofibibaaKmN
import Derived.Deep.RegionWith
namespace Go.Proofs.Ytlagmkpofibibaa
open Go.RowKit Fl Ieee
set_option linter.unusedVariables false

theorem kmI_any (va vb : Value) (xs ys : List Nat) (a b : Nat) (w : World) (hva : Rd w w.heap.size va (fl xs)) (hvb : Rd w w.heap.size vb (fl ys)) (hm : xs.length ≤ 1048576) (hm2 : ys.length ≤ 1048576) (hx : ∀ x ∈ xs, x < 2 ^ 32) (hy : ∀ x ∈ ys, x < 2 ^ 32) (ha : a < 2 ^ 32) (hb : b < 2 ^ 32) : Calls Try.prog 16 #[va, vb, .float .f32 a, .float .f32 b] w (RetB1 (kmV a b xs ys) (kmB a b xs ys) w) := by
  cases h : (mlG xs ys && finB .f32 a && psB b) with
  | false => exact kmI_no va vb xs ys a b w hva hvb hm hm2 hx hy ha hb h
  | true =>
    rw [Bool.and_eq_true, Bool.and_eq_true] at h
    exact kmI_ok va vb xs ys a b w hva hvb hm hm2 hx hy ha hb h.1.1 h.1.2 h.2
theorem kmS_any (va vb : Value) (xs ys : List Nat) (a b : Nat) (w : World) (hva : Rd w w.heap.size va (fl xs)) (hvb : Rd w w.heap.size vb (fl ys)) (hm : xs.length ≤ 1048576) (hm2 : ys.length ≤ 1048576) (hx : ∀ x ∈ xs, x < 2 ^ 32) (hy : ∀ x ∈ ys, x < 2 ^ 32) (ha : a < 2 ^ 32) (hb : b < 2 ^ 32) : Calls Try.prog 14 #[va, vb, .float .f32 a, .float .f32 b] w (RetB1 (kmV a b xs ys) (kmB a b xs ys) w) := by
  by_cases hl : ys.length = xs.length
  · cases h : (mlG xs ys && finB .f32 a && psB b) with
    | false => exact kmS_no va vb xs ys a b w hva hvb hm hm2 hx hy ha hb hl h
    | true =>
      rw [Bool.and_eq_true, Bool.and_eq_true] at h
      exact kmS_ok va vb xs ys a b w hva hvb hm hm2 hx hy ha hb h.1.1 h.1.2 h.2
  · exact kmS_ne va vb xs ys a b w hva hvb hm hm2 hx hy ha hb (fun h => hl h.symm)
end Go.Proofs.Ytlagmkpofibibaa
