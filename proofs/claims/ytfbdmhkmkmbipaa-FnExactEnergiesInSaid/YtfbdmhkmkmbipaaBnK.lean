/-
  What BandOf answers (no walk in it).
-/
import Derived.Test.YtfbdmhkmkmbipaaBdK
namespace Go.Proofs.Ytfbdmhkmkmbipaa
open Go.RowKit Fl
set_option linter.unusedVariables false
set_option maxRecDepth 100000

def bnB (p q : Int) (xs : List Nat) (l b : Int) : Bool := vpcB p q xs && lvB l && decide (0 ≤ b ∧ b ≤ 3) && bdE p q (l - 1).toNat b
def bnV (p q : Int) (xs : List Nat) (l b : Int) : List Nat := if bnB p q xs l b then bcL p q xs (l - 1).toNat b else []
def RetBn (p q : Int) (xs : List Nat) (l b : Int) (w : World) : Ending → World → Prop := RetPc (crP (bnB p q xs l b) (rgW (l - 1).toNat b p q)) (crP (bnB p q xs l b) (rgH (l - 1).toNat b p q)) (bnV p q xs l b) (bnB p q xs l b) w
theorem retBn_no {p q : Int} {xs : List Nat} {l b : Int} {w : World} (h : bnB p q xs l b = false) : RetBn p q xs l b w = RetPc 0 0 [] false w := by
  unfold RetBn bnV crP; rw [h]; rfl
theorem retBn_yes {p q b : Int} {xs : List Nat} {m : Nat} {w : World} (h : bnB p q xs ((m : Int) + 1) b = true) : RetBn p q xs ((m : Int) + 1) b w = RetPc (rgW m b p q) (rgH m b p q) (bcL p q xs m b) true w := by
  unfold RetBn bnV crP; rw [h, show ((m : Int) + 1 - 1).toNat = m by omega]; rfl
theorem bnV_len (p q : Int) (xs : List Nat) (l b : Int) : (bnV p q xs l b).length ≤ 1048576 := by
  unfold bnV
  split
  · rename_i h
    unfold bnB at h
    rw [Bool.and_eq_true, Bool.and_eq_true, Bool.and_eq_true] at h
    obtain ⟨b1, b2, -, -⟩ := vpcB_out h.1.1.1
    have := bc_len_le b1 b2 xs (l - 1).toNat b
    omega
  · simp
theorem crB_band {p q b : Int} {xs : List Nat} {m : Nat} (h : rgB p q ((m : Int) + 1) b = true) : crB p q xs (rgX m b p q) (rgY m b p q) (rgW m b p q) (rgH m b p q) = bnB p q xs ((m : Int) + 1) b := by
  unfold rgB at h
  rw [Bool.and_eq_true, Bool.and_eq_true] at h
  obtain ⟨b1, b2⟩ := ssB_out h.1.1
  unfold crB bnB
  rw [h.1.2, h.2, Bool.and_true, Bool.and_true, show ((m : Int) + 1 - 1).toNat = m by omega]
  congr 1
  obtain ⟨h1, h2, h3, h4⟩ := rg_in (b := b) (l := m) b1 b2
  unfold liB bdE ssB sdB
  rw [decide_eq_true (show 0 ≤ rgX m b p q ∧ rgX m b p q ≤ p - rgW m b p q by omega), decide_eq_true (show 0 ≤ rgY m b p q ∧ rgY m b p q ≤ q - rgH m b p q by omega), Bool.and_true, Bool.and_true, ← Bool.decide_and]
  congr 1
  apply propext
  omega
theorem retCr_bn {p q b : Int} {xs : List Nat} {m : Nat} {w : World} (h : rgB p q ((m : Int) + 1) b = true) : RetCr p q xs (rgX m b p q) (rgY m b p q) (rgW m b p q) (rgH m b p q) w = RetBn p q xs ((m : Int) + 1) b w := by
  unfold RetCr RetBn crV bnV
  rw [crB_band h, show ((m : Int) + 1 - 1).toNat = m by omega]
  rfl
theorem bnB_rg {p q l b : Int} {xs : List Nat} (h : rgB p q l b = false) : bnB p q xs l b = false := by
  unfold bnB vpcB
  unfold rgB at h
  cases h1 : ssB p q with
  | false => rfl
  | true =>
    rw [h1, Bool.true_and] at h
    cases h2 : lvB l with
    | false => simp
    | true => rw [h2, Bool.true_and] at h; rw [h]; simp
theorem bn_val {p q : Int} {xs : List Nat} (hv : vpcB p q xs = true) (m : Nat) (b : Int) (he : bdE p q m b = true) : vpcB (rgW m b p q) (rgH m b p q) (bcL p q xs m b) = true := by
  obtain ⟨b1, b2, hl, hf⟩ := vpcB_out hv
  obtain ⟨h1, h2, h3, h4⟩ := rg_in (b := b) (l := m) b1 b2
  obtain ⟨e1, e2⟩ := of_decide_eq_true he
  unfold vpcB ssB sdB
  rw [decide_eq_true ⟨e1, h3.2⟩, decide_eq_true ⟨e2, h4.2⟩, show finA (bcL p q xs m b) = true from crL_fin hf, decide_eq_true (show ((bcL p q xs m b).length : Int) = rgW m b p q * rgH m b p q by rw [bc_len, Int.natCast_mul, Int.toNat_of_nonneg h3.1, Int.toNat_of_nonneg h4.1])]
  rfl
theorem vpc_nil : vpcB 0 0 [] = false := by decide
end Go.Proofs.Ytfbdmhkmkmbipaa
