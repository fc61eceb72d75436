/-
  What step pictures are (no walk in it).
-/
import Derived.Test.YtfbdmhkmkmbipaaPlK
namespace Go.Proofs.Ytfbdmhkmkmbipaa
open Go.RowKit Fl
set_option linter.unusedVariables false

def okS (at_ : Int) (l r : Nat) : Bool := decide (0 ≤ at_ ∧ at_ ≤ 16) && finB .f32 l && finB .f32 r
def RetSt (p q at_ : Int) (l r : Nat) (w : World) : Ending → World → Prop := if okS at_ l r then RetGr p q (stG at_ l r) w else RetPc 0 0 [] false w
theorem retSt_yes {p q at_ : Int} {l r : Nat} {w : World} (h : okS at_ l r = true) : RetSt p q at_ l r w = RetGr p q (stG at_ l r) w := by unfold RetSt; rw [h]; rfl
theorem retSt_no {p q at_ : Int} {l r : Nat} {w : World} (h : okS at_ l r = false) : RetSt p q at_ l r w = RetPc 0 0 [] false w := by unfold RetSt; rw [h]; rfl
theorem retSt_side {p q at_ : Int} {l r : Nat} {w : World} (h : ssB p q = false) : RetSt p q at_ l r w = RetPc 0 0 [] false w := by
  cases ho : okS at_ l r with
  | false => exact retSt_no ho
  | true => rw [retSt_yes ho, retGr_no (by unfold pcB; rw [h]; rfl)]
theorem pcB_st {p q at_ : Int} {l r : Nat} (h : okS at_ l r = true) (hs : ssB p q = true) : pcB p q (stG at_ l r) = true := by
  unfold okS at h
  rw [Bool.and_eq_true, Bool.and_eq_true] at h
  unfold pcB
  rw [hs, Bool.true_and]
  refine decide_eq_true fun i hi => ?_
  simp only [grd, List.getElem_map, List.getElem_range]
  unfold stG
  rw [finB_cn]
  split
  · exact h.1.2
  · exact h.2
def stP (p q at_ : Int) (l r : Nat) (x : Int) : Int := if okS at_ l r then gP p q (stG at_ l r) x else 0
def stQ (p q at_ : Int) (l r : Nat) : List Nat := if okS at_ l r then gL p q (stG at_ l r) else []
def stB (p q at_ : Int) (l r : Nat) : Bool := okS at_ l r && pcB p q (stG at_ l r)
theorem retSt_pc (p q at_ : Int) (l r : Nat) (w : World) : RetSt p q at_ l r w = RetPc (stP p q at_ l r p) (stP p q at_ l r q) (stQ p q at_ l r) (stB p q at_ l r) w := by
  unfold stP stQ stB
  cases h : okS at_ l r with
  | true => rw [retSt_yes h, retGr_pc]; rfl
  | false => rw [retSt_no h]; rfl
theorem stQ_len (p q at_ : Int) (l r : Nat) : (stQ p q at_ l r).length ≤ 1048576 := by
  unfold stQ
  split
  · exact gL_len _ _ _
  · simp
theorem retPc_drawn {P Q : Int} {L : List Nat} {b : Bool} {w w' : World} {n : Nat} {e : Ending} (h : RetPc P Q L b (w.drewN n) e w') : RetPc P Q L b w e w' := by
  obtain ⟨v, he, ho, hb⟩ := h
  exact ⟨v, he, ho, (below_drawn (Below.refl _ _) n).trans hb⟩
theorem retGr_drawn {p q : Int} {g : Nat → Nat → Nat} {w w' : World} {n : Nat} {e : Ending} (h : RetGr p q g (w.drewN n) e w') : RetGr p q g w e w' := by
  unfold RetGr at h ⊢
  cases hp : pcB p q g with
  | true => rw [hp] at h; exact retPc_drawn h
  | false => rw [hp] at h; exact retPc_drawn h
end Go.Proofs.Ytfbdmhkmkmbipaa
