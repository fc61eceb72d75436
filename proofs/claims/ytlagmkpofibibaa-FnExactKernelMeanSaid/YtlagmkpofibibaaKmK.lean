/-
  Contracts: means of what is near, of both sides.
-/
import Derived.Test.YtlagmkpofibibaaExq
import Derived.Test.YtlagmkpofibibaaMio
import Derived.Test.YtlagmkpofibibaaIff
import Derived.Test.YtlagmkpofibibaaAbs
import Derived.Deep.RegionWith
namespace Go.Proofs.Ytlagmkpofibibaa
open Go.RowKit Fl Ieee
set_option linter.unusedVariables false

/-- How far a time is; its weight; the sums below k. -/
def uX (a b x : Nat) : Nat := ar .quo .f32 (ar .sub .f32 x a) b
def wX (a b x : Nat) : Nat := exX (beX (uX a b x))
def sS (a b : Nat) (xs vs : List Nat) : Nat → Nat
  | 0 => 0
  | k + 1 => ar .add .f32 (sS a b xs vs k) (ar .mul .f32 (wX a b (xs.getD k 0)) (vs.getD k 0))
def sW (a b : Nat) (xs : List Nat) : Nat → Nat
  | 0 => 0
  | k + 1 => ar .add .f32 (sW a b xs k) (wX a b (xs.getD k 0))
theorem sS_succ (a b : Nat) (xs vs : List Nat) (k : Nat) (h1 : k < xs.length) (h2 : k < vs.length) : sS a b xs vs (k + 1) = ar .add .f32 (sS a b xs vs k) (ar .mul .f32 (wX a b xs[k]) vs[k]) := by
  show ar .add .f32 _ (ar .mul .f32 (wX a b (xs.getD k 0)) (vs.getD k 0)) = _
  simp [h1, h2]
theorem sW_succ (a b : Nat) (xs : List Nat) (k : Nat) (h1 : k < xs.length) : sW a b xs (k + 1) = ar .add .f32 (sW a b xs k) (wX a b xs[k]) := by
  show ar .add .f32 _ (wX a b (xs.getD k 0)) = _
  simp [h1]
theorem uX_nn {a b x : Nat} (hx : finB .f32 x = true) (ha : finB .f32 a = true) (hb : psB b = true) : isN .f32 (uX a b x) = false := quo_ps (dif_nums hx ha) hb
theorem wX_fin {a b x : Nat} (hx : finB .f32 x = true) (ha : finB .f32 a = true) (hb : psB b = true) : finB .f32 (wX a b x) = true := by
  have h := beX_le (uX_nn hx ha hb)
  exact exX_fin h.1 h.2
theorem sW_nn {a b : Nat} {xs : List Nat} (hf : finA xs = true) (ha : finB .f32 a = true) (hb : psB b = true) : ∀ k, k ≤ xs.length → isN .f32 (sW a b xs k) = false
  | 0, _ => by show isN .f32 0 = false; decide
  | k + 1, h => by
    rw [sW_succ a b xs k (by omega)]
    exact add_nn (sW_nn hf ha hb k (by omega)) (wX_fin (finA_out hf k (by omega)) ha hb)
def kmR (a b : Nat) (xs vs : List Nat) : Nat := ar .quo .f32 (sS a b xs vs xs.length) (sW a b xs xs.length)
def kmG (a b : Nat) (xs vs : List Nat) : Bool := mlG xs vs && finB .f32 a && psB b && gt32 (sW a b xs xs.length) 0
def kmV (a b : Nat) (xs vs : List Nat) : Nat := if kmG a b xs vs then fnV (kmR a b xs vs) else 0
def kmB (a b : Nat) (xs vs : List Nat) : Bool := kmG a b xs vs && finB .f32 (kmR a b xs vs)
theorem km_yes {a b : Nat} {xs vs : List Nat} (h : kmG a b xs vs = true) : kmV a b xs vs = fnV (kmR a b xs vs) ∧ kmB a b xs vs = finB .f32 (kmR a b xs vs) := by unfold kmV kmB; rw [h]; exact ⟨rfl, rfl⟩
theorem retB1_km {a b : Nat} {xs vs : List Nat} {w w' : World} (hG : kmG a b xs vs = false) (h : Below w.heap.size w w') : RetB1 (kmV a b xs vs) (kmB a b xs vs) w (.returned (.tuple #[.float .f32 0, .bool false])) w' := by
  unfold kmV kmB; rw [hG]; exact retB1_no h
theorem exX_lt (x : Nat) : exX x < 2 ^ 32 := by
  unfold exX
  split
  · decide
  · exact na_lt _
def KmRel (w0 : World) (a b : Nat) (xs vs : List Nat) (s q i : Value) (wr : World) : Prop := ∃ k m rs rw : Nat, k ≤ xs.length ∧ i = .int .i64 k ∧ s = .float .f32 rs ∧ q = .float .f32 rw ∧ Is .f32 rs (sS a b xs vs k) ∧ Is .f32 rw (sW a b xs k) ∧ wr = w0.drewN m
end Go.Proofs.Ytlagmkpofibibaa
