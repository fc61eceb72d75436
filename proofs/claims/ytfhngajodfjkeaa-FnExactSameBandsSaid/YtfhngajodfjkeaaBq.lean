/-
  What is left when bands are taken off, and what that tells of them (no program in it).
-/
import Derived.Test.YtfhngajodfjkeaaSb
import Derived.Deep.RegionHeld3
namespace Go.Proofs.Ytfhngajodfjkeaa
open Go.RowKit Fl
theorem szB_ok {l : Int} {xs : List Nat} {xss : List (List Nat)} (h : 0 ≤ szB l xs xss) : (xs.length : Int) ≤ l ∧ ((xss.length : Int) + ofsF xss xss.length) ≤ l ∧ szB l xs xss ≤ l := by
  unfold szB at h ⊢
  split at h
  · omega
  · rename_i h1
    rw [if_neg h1]
    unfold szR at h ⊢
    split at h
    · omega
    · rename_i h2
      rw [if_neg h2]
      omega
end Go.Proofs.Ytfhngajodfjkeaa
