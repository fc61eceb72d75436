/-
  What SoftPicture answers (no walk in it).
-/
import Derived.Test.YtfbdmhkmkmbipaaSof
import Derived.Test.YtfbdmhkmkmbipaaCrK
namespace Go.Proofs.Ytfbdmhkmkmbipaa
open Go.RowKit Fl
set_option linter.unusedVariables false
set_option maxRecDepth 100000

def sfB (p q : Int) (xs : List Nat) (l : Int) (b : Nat) : Bool := vpcB p q xs && lvB l && lsB b
def sfV (p q : Int) (xs : List Nat) (l : Int) (b : Nat) : List Nat := if sfB p q xs l b then chK (sofF b) xs (rpL p q l) else []
def RetSf (p q : Int) (xs : List Nat) (l : Int) (b : Nat) (w : World) : Ending → World → Prop := RetPc (crP (sfB p q xs l b) p) (crP (sfB p q xs l b) q) (sfV p q xs l b) (sfB p q xs l b) w
theorem retSf_no {p q l : Int} {xs : List Nat} {b : Nat} {w : World} (h : sfB p q xs l b = false) : RetSf p q xs l b w = RetPc 0 0 [] false w := by
  unfold RetSf sfV crP; rw [h]; rfl
theorem retSf_yes {p q l : Int} {xs : List Nat} {b : Nat} {w : World} (h : sfB p q xs l b = true) : RetSf p q xs l b w = RetPc p q (chK (sofF b) xs (rpL p q l)) true w := by
  unfold RetSf sfV crP; rw [h]; rfl
theorem sfV_len (p q : Int) (xs : List Nat) (l : Int) (b : Nat) : (sfV p q xs l b).length ≤ 1048576 := by
  unfold sfV
  split
  · rename_i h
    unfold sfB at h
    rw [Bool.and_eq_true, Bool.and_eq_true] at h
    obtain ⟨b1, b2, hl, -⟩ := vpcB_out h.1.1
    have := mul_bd b1 b2
    rw [chK_len]; omega
  · simp
end Go.Proofs.Ytfbdmhkmkmbipaa
