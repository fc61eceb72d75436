/-
  What a band of a picture is (no walk in it).
-/
import Derived.Test.YtfbdmhkmkmbipaaCrK
import Derived.Test.YtfbdmhkmkmbipaaRgr
namespace Go.Proofs.Ytfbdmhkmkmbipaa
open Go.RowKit Fl
set_option linter.unusedVariables false
set_option maxRecDepth 100000

def bcL (p q : Int) (xs : List Nat) (l : Nat) (b : Int) : List Nat := crL p.toNat xs (rgX l b p q).toNat (rgY l b p q).toNat (rgW l b p q).toNat (rgH l b p q).toNat
def bdE (p q : Int) (l : Nat) (b : Int) : Bool := decide (1 ≤ rgW l b p q ∧ 1 ≤ rgH l b p q)
theorem hv_top {x : Int} (h : 1 ≤ x ∧ x ≤ 16) : ∀ k, hvI k x ≤ x
  | 0 => Int.le_refl _
  | k + 1 => Int.le_trans (hv_le h k) (hv_top h k)
theorem rg_in {p q b : Int} {l : Nat} (hp : 1 ≤ p ∧ p ≤ 16) (hq : 1 ≤ q ∧ q ≤ 16) : (0 ≤ rgX l b p q ∧ rgX l b p q + rgW l b p q ≤ p) ∧ (0 ≤ rgY l b p q ∧ rgY l b p q + rgH l b p q ≤ q) ∧ (0 ≤ rgW l b p q ∧ rgW l b p q ≤ 16) ∧ 0 ≤ rgH l b p q ∧ rgH l b p q ≤ 16 := by
  have h1 := hvI_bd hp l
  have h2 := hvI_bd hq l
  have h3 := hvI_bd hp (l + 1)
  have h4 := hvI_bd hq (l + 1)
  have h5 := hv_le hp l
  have h6 := hv_le hq l
  have h7 := hv_top hp l
  have h8 := hv_top hq l
  unfold rgX rgY rgW rgH
  refine ⟨?_, ?_, ?_, ?_⟩ <;> split <;> omega
theorem bc_len (p q : Int) (xs : List Nat) (l : Nat) (b : Int) : (bcL p q xs l b).length = (rgW l b p q).toNat * (rgH l b p q).toNat := crL_len _ _ _ _ _ _
theorem bc_len_le {p q : Int} (hp : 1 ≤ p ∧ p ≤ 16) (hq : 1 ≤ q ∧ q ≤ 16) (xs : List Nat) (l : Nat) (b : Int) : (bcL p q xs l b).length ≤ 256 := by
  rw [bc_len]
  obtain ⟨-, -, h3, h4⟩ := rg_in (b := b) (l := l) hp hq
  exact Nat.le_trans (Nat.mul_le_mul (show (rgW l b p q).toNat ≤ 16 by omega) (show (rgH l b p q).toNat ≤ 16 by omega)) (by omega)
theorem bc_nil {p q : Int} (hp : 1 ≤ p ∧ p ≤ 16) (hq : 1 ≤ q ∧ q ≤ 16) (xs : List Nat) {l : Nat} {b : Int} (h : bdE p q l b = false) : bcL p q xs l b = [] := by
  obtain ⟨-, -, h3, h4⟩ := rg_in (b := b) (l := l) hp hq
  have h := of_decide_eq_false h
  apply List.eq_nil_of_length_eq_zero
  rw [bc_len]
  by_cases hw : rgW l b p q = 0
  · rw [hw]; simp
  · have : rgH l b p q = 0 := by omega
    rw [this]; simp
def bdP (p q : Int) (l : Nat) (b x : Int) : Int := if bdE p q l b then x else 0
def RetBd (p q : Int) (xs : List Nat) (l : Nat) (b : Int) (w : World) : Ending → World → Prop := RetAg (bdP p q l b (rgW l b p q)) (bdP p q l b (rgH l b p q)) (bcL p q xs l b) w
theorem retBd_yes {p q : Int} {xs : List Nat} {l : Nat} {b : Int} {w : World} (h : bdE p q l b = true) : RetBd p q xs l b w = RetAg (rgW l b p q) (rgH l b p q) (bcL p q xs l b) w := by
  unfold RetBd bdP; rw [h]; rfl
theorem retBd_no {p q : Int} {xs : List Nat} {l : Nat} {b : Int} {w : World} (hp : 1 ≤ p ∧ p ≤ 16) (hq : 1 ≤ q ∧ q ≤ 16) (h : bdE p q l b = false) : RetBd p q xs l b w = RetAg 0 0 [] w := by
  unfold RetBd bdP; rw [h, bc_nil hp hq xs h]; rfl
end Go.Proofs.Ytfbdmhkmkmbipaa
