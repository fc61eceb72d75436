/-
  What a part of a picture is (no walk in it).
-/
import Derived.Test.YtfbdmhkmkmbipaaStK
import Derived.Test.YtfbdmhkmkmbipaaLst
namespace Go.Proofs.Ytfbdmhkmkmbipaa
open Go.RowKit Fl
set_option linter.unusedVariables false
set_option maxRecDepth 100000

theorem getD_ltP {xs : List Nat} (h : ∀ x ∈ xs, x < 2 ^ 32) (i : Nat) : xs.getD i 0 < 2 ^ 32 := by
  by_cases hi : i < xs.length
  · rw [List.getD_eq_getElem?_getD, List.getElem?_eq_getElem hi]; exact h _ (List.getElem_mem hi)
  · rw [List.getD_eq_getElem?_getD, List.getElem?_eq_none (by omega)]; decide
theorem getD_finP {xs : List Nat} (h : finA xs = true) (i : Nat) : finB .f32 (xs.getD i 0) = true := by
  by_cases hi : i < xs.length
  · rw [List.getD_eq_getElem?_getD, List.getElem?_eq_getElem hi]; exact finA_out h i hi
  · rw [List.getD_eq_getElem?_getD, List.getElem?_eq_none (by omega)]; decide
theorem finA_map {n : Nat} {g : Nat → Nat} (h : ∀ i, finB .f32 (g i) = true) : finA ((List.range n).map g) = true := by
  unfold finA
  refine decide_eq_true fun i hi => ?_
  simp only [List.getElem_map, List.getElem_range]
  exact h i
/-- The number i of a part of a picture with sides of P. -/
def crF (P : Nat) (xs : List Nat) (X Y W i : Nat) : Nat := xs.getD ((Y + i / W) * P + X + i % W) 0
def crL (P : Nat) (xs : List Nat) (X Y W H : Nat) : List Nat := (List.range (W * H)).map (crF P xs X Y W)
def crR (P : Nat) (xs : List Nat) (X Y W k : Nat) : List Nat := (List.range W).map fun j => xs.getD ((Y + k) * P + X + j) 0
theorem crL_len (P : Nat) (xs : List Nat) (X Y W H : Nat) : (crL P xs X Y W H).length = W * H := by simp [crL]
theorem crR_len (P : Nat) (xs : List Nat) (X Y W k : Nat) : (crR P xs X Y W k).length = W := by simp [crR]
theorem crL_row (P : Nat) (xs : List Nat) (X Y W k : Nat) : crL P xs X Y W k ++ crR P xs X Y W k = crL P xs X Y W (k + 1) := by
  unfold crL crR
  rw [Nat.mul_succ, List.range_add, List.map_append, List.map_map]
  congr 1
  apply List.map_congr_left
  intro j hj
  have hj := List.mem_range.1 hj
  have hW : 0 < W := by omega
  simp only [Function.comp, crF]
  rw [Nat.mul_add_div hW, Nat.mul_add_mod, Nat.div_eq_of_lt hj, Nat.mod_eq_of_lt hj, Nat.add_zero]
theorem cr_idx {P Q X Y W H k j n : Nat} (hn : n = P * Q) (hx : X + W ≤ P) (hy : Y + H ≤ Q) (hk : k < H) (hj : j < W) : (Y + k) * P + X + j < n := by
  have h1 : (Y + k + 1) * P ≤ Q * P := Nat.mul_le_mul_right _ (by omega)
  rw [Nat.succ_mul] at h1
  rw [hn, Nat.mul_comm P Q]; omega
theorem crL_lt {P : Nat} {xs : List Nat} {X Y W H : Nat} (h : ∀ x ∈ xs, x < 2 ^ 32) : ∀ x ∈ crL P xs X Y W H, x < 2 ^ 32 := by
  intro x hx
  obtain ⟨i, _, rfl⟩ := List.mem_map.1 hx
  exact getD_ltP h _
theorem crL_fin {P : Nat} {xs : List Nat} {X Y W H : Nat} (h : finA xs = true) : finA (crL P xs X Y W H) = true := finA_map fun i => getD_finP h _
def liB (p q x y W H : Int) : Bool := ssB W H && decide (0 ≤ x ∧ x ≤ p - W) && decide (0 ≤ y ∧ y ≤ q - H)
theorem liB_out {p q x y W H : Int} (h : liB p q x y W H = true) : ((1 ≤ W ∧ W ≤ 16) ∧ 1 ≤ H ∧ H ≤ 16) ∧ (0 ≤ x ∧ x ≤ p - W) ∧ 0 ≤ y ∧ y ≤ q - H := by
  unfold liB at h
  rw [Bool.and_eq_true, Bool.and_eq_true, decide_eq_true_eq, decide_eq_true_eq] at h
  exact ⟨ssB_out h.1.1, h.1.2, h.2⟩
def crB (p q : Int) (xs : List Nat) (x y W H : Int) : Bool := vpcB p q xs && liB p q x y W H
def crV (p q : Int) (xs : List Nat) (x y W H : Int) : List Nat := if crB p q xs x y W H then crL p.toNat xs x.toNat y.toNat W.toNat H.toNat else []
def crP (b : Bool) (x : Int) : Int := if b then x else 0
def RetCr (p q : Int) (xs : List Nat) (x y W H : Int) (w : World) : Ending → World → Prop := RetPc (crP (crB p q xs x y W H) W) (crP (crB p q xs x y W H) H) (crV p q xs x y W H) (crB p q xs x y W H) w
theorem retCr_no {p q : Int} {xs : List Nat} {x y W H : Int} {w : World} (h : crB p q xs x y W H = false) : RetCr p q xs x y W H w = RetPc 0 0 [] false w := by
  unfold RetCr crV crP; rw [h]; rfl
theorem retCr_yes {p q : Int} {xs : List Nat} {x y W H : Int} {w : World} (h : crB p q xs x y W H = true) : RetCr p q xs x y W H w = RetPc W H (crL p.toNat xs x.toNat y.toNat W.toNat H.toNat) true w := by
  unfold RetCr crV crP; rw [h]; rfl
theorem crV_len (p q : Int) (xs : List Nat) (x y W H : Int) : (crV p q xs x y W H).length ≤ 1048576 := by
  unfold crV
  split
  · rename_i h
    unfold crB at h
    rw [Bool.and_eq_true] at h
    obtain ⟨⟨⟨a1, a2⟩, a3, a4⟩, -, -⟩ := liB_out h.2
    rw [crL_len]
    have h1 : W.toNat * H.toNat ≤ 16 * 16 := Nat.mul_le_mul (by omega) (by omega)
    omega
  · simp
theorem RowF.step {w0 wr w' : World} {v : Value} {L : List Nat} (h : RowF w0 v L wr) (hb : Below wr.heap.size wr w') : RowF w0 v L w' := ⟨row_step h.1 hb, h.2.trans (hb.mono h.2.size)⟩
theorem RowF.pushL {w0 wa w1 : World} {v' : Value} {L R : List Nat} {row : Option Nat} (ho : w1.ownsRow w0.heap.size 23 1 v' (L.length + R.length) (fl L ++ fl R)) (hb : Below w0.heap.size w0 wa) (hg : wa.grownBy w1 row) (hr : ∀ j, row = some j → w0.heap.size ≤ j) : RowF w0 v' (L ++ R) w1 :=
  ⟨by rw [show fl (L ++ R) = fl L ++ fl R by simp [fl], List.length_append]; exact ho, hb.grown hg hb.size hr⟩
end Go.Proofs.Ytfbdmhkmkmbipaa
