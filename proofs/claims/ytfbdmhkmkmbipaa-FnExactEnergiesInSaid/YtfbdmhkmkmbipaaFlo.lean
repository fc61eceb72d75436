/-
  What floats are worth, NaNs taken for one: the operations, widening, narrowing, bounds (no program in it).
-/
import Derived.WalkKit
import Derived.WalkLawsBesides
import Derived.Deep.Draws
import Derived.RowKit3
import Derived.KernelRfl
namespace Go.Proofs.Ytfbdmhkmkmbipaa.Fl
open Go.RowKit

/-- The NaN that stands for all. -/
def qn : FloatKind → Nat
  | .f32 => 2143289344
  | .f64 => 9221120237041090561
def isN (k : FloatKind) (b : Nat) : Bool := (k.format.read b).isNaN
/-- A float's bits, but one word for each NaN. -/
def cn (k : FloatKind) (b : Nat) : Nat := if isN k b then qn k else b

theorem isN_qn (k : FloatKind) : isN k (qn k) = true := by cases k <;> decide
theorem isN_cn (k : FloatKind) (b : Nat) : isN k (cn k b) = isN k b := by
  unfold cn; split
  · rename_i h; rw [isN_qn, h]
  · rfl
theorem cn_cn (k : FloatKind) (b : Nat) : cn k (cn k b) = cn k b := by
  unfold cn; split <;> simp_all [isN_qn]
theorem cn_of_not {k : FloatKind} {b : Nat} (h : isN k b = false) : cn k b = b := by simp [cn, h]
theorem cn_of_nan {k : FloatKind} {b : Nat} (h : isN k b = true) : cn k b = qn k := by simp [cn, h]

theorem read_nan {k : FloatKind} {b : Nat} (h : isN k b = true) : ∃ s t, k.format.read b = .nan s t := by
  unfold isN at h
  cases hr : k.format.read b <;> simp [hr, Ieee.Datum.isNaN] at h
  exact ⟨_, _, rfl⟩

theorem order_nan_l {k : FloatKind} {x : Nat} (h : isN k x = true) (y : Nat) : k.format.order x y = none := by
  obtain ⟨s, t, h⟩ := read_nan h
  unfold Ieee.Format.order; rw [h]; cases k.format.read y <;> rfl
theorem order_nan_r {k : FloatKind} {y : Nat} (x : Nat) (h : isN k y = true) : k.format.order x y = none := by
  obtain ⟨s, t, h⟩ := read_nan h
  unfold Ieee.Format.order; rw [h]; cases k.format.read x <;> rfl
theorem order_cn_l (k : FloatKind) (x y : Nat) : k.format.order (cn k x) y = k.format.order x y := by
  by_cases h : isN k x
  · rw [order_nan_l h, order_nan_l (by rw [isN_cn]; exact h)]
  · rw [cn_of_not (by simpa using h)]
theorem order_cn_r (k : FloatKind) (x y : Nat) : k.format.order x (cn k y) = k.format.order x y := by
  by_cases h : isN k y
  · rw [order_nan_r _ h, order_nan_r _ (by rw [isN_cn]; exact h)]
  · rw [cn_of_not (by simpa using h)]

def arOp : BinOp → Bool
  | .add | .sub | .mul | .quo => true
  | _ => false

theorem bits_nan_l {k : FloatKind} {x : Nat} (h : isN k x = true) (op : BinOp) (y : Nat) : floatBits op k x y = none := by
  obtain ⟨s, t, h⟩ := read_nan h
  cases op <;> simp only [floatBits, Ieee.Format.add, Ieee.Format.sub, Ieee.Format.mul, Ieee.Format.div, h]
  all_goals (cases k.format.read y <;> rfl)
theorem bits_nan_r {k : FloatKind} {y : Nat} (h : isN k y = true) (op : BinOp) (x : Nat) : floatBits op k x y = none := by
  obtain ⟨s, t, h⟩ := read_nan h
  cases op <;> simp only [floatBits, Ieee.Format.add, Ieee.Format.sub, Ieee.Format.mul, Ieee.Format.div, h]
  all_goals (cases k.format.read x <;> rfl)
theorem bits_cn (op : BinOp) (k : FloatKind) (x y : Nat) : floatBits op k (cn k x) (cn k y) = floatBits op k x y := by
  by_cases hx : isN k x
  · rw [bits_nan_l hx, bits_nan_l (by rw [isN_cn]; exact hx)]
  · rw [cn_of_not (by simpa using hx)]
    by_cases hy : isN k y
    · rw [bits_nan_r hy, bits_nan_r (by rw [isN_cn]; exact hy)]
    · rw [cn_of_not (by simpa using hy)]

/-- An operation, NaNs taken for one. -/
def ar (op : BinOp) (k : FloatKind) (x y : Nat) : Nat := (floatBits op k (cn k x) (cn k y)).getD (qn k)

theorem ar_cn_l (op : BinOp) (k : FloatKind) (x y : Nat) : ar op k (cn k x) y = ar op k x y := by unfold ar; rw [cn_cn]
theorem ar_cn_r (op : BinOp) (k : FloatKind) (x y : Nat) : ar op k x (cn k y) = ar op k x y := by unfold ar; rw [cn_cn]

/-! ### what is written is no NaN -/
theorem read_word (f : Ieee.Format) (s : Bool) (r : Nat) (hr : r ≤ f.infRung) : (f.read (f.word s r)).isNaN = false := by
  have hlt := f.infRung_lt
  have hr' : r < f.signWeight := by omega
  have hrung : f.word s r % f.signWeight = r := by
    unfold Ieee.Format.word
    cases s
    · simp [Nat.mod_eq_of_lt hr']
    · simp [Nat.add_mod_left, Nat.mod_eq_of_lt hr']
  unfold Ieee.Format.read
  simp only [hrung]
  split
  · rfl
  · split
    · rfl
    · split
      · rfl
      · omega
theorem read_nearest (f : Ieee.Format) (s : Bool) (m : Nat) (p : Int) : (f.read (f.nearest s m p)).isNaN = false := by
  unfold Ieee.Format.nearest
  split
  · exact read_word f s 0 (Nat.zero_le _)
  · exact read_word f s _ (Nat.min_le_right _ _)
theorem read_write (f : Ieee.Format) (d : Ieee.Datum) (h : d.isNaN = false) : (f.read (f.write d)).isNaN = false := by
  cases d with
  | number s m p => exact read_nearest f s m p
  | infinity s => exact read_word f s _ (Nat.le_refl _)
  | nan s t => simp [Ieee.Datum.isNaN] at h

theorem sum_not {a b d : Ieee.Datum} (h : a.sum b = some d) : d.isNaN = false := by
  unfold Ieee.Datum.sum at h
  split at h <;> (try split at h) <;> simp at h <;> subst h <;> rfl
theorem product_not {a b d : Ieee.Datum} (h : a.product b = some d) : d.isNaN = false := by
  unfold Ieee.Datum.product at h
  split at h <;> (try split at h) <;> simp at h <;> subst h <;> rfl
theorem quotient_not {n : Nat} {a b d : Ieee.Datum} (h : a.quotient n b = some d) : d.isNaN = false := by
  unfold Ieee.Datum.quotient at h
  split at h <;> (try split at h) <;> (try split at h) <;> simp at h <;> subst h <;> rfl
theorem root_not {n : Nat} {a d : Ieee.Datum} (h : a.root n = some d) : d.isNaN = false := by
  unfold Ieee.Datum.root at h
  split at h <;> (try split at h) <;> (try split at h) <;> simp at h <;> subst h <;> rfl

theorem bits_not {op : BinOp} {k : FloatKind} {x y r : Nat} (h : floatBits op k x y = some r) : isN k r = false := by
  unfold isN
  cases op <;> simp only [floatBits, Ieee.Format.add, Ieee.Format.sub, Ieee.Format.mul, Ieee.Format.div, Option.map_eq_some_iff] at h
  all_goals first | (cases h; done) | skip
  all_goals obtain ⟨d, hd, rfl⟩ := h
  · exact read_write _ _ (sum_not hd)
  · exact read_write _ _ (sum_not hd)
  · exact read_write _ _ (product_not hd)
  · exact read_write _ _ (quotient_not hd)

/-! ### what the model draws for a NaN is one -/
theorem nan32 (t : Nat) : isN .f32 ((t % 2) * 2 ^ 31 + 0x7f800000 + 1 + (t / 2) % (2 ^ 23 - 1)) = true ∧ (t % 2) * 2 ^ 31 + 0x7f800000 + 1 + (t / 2) % (2 ^ 23 - 1) < 2 ^ 32 := by
  have h1 : t % 2 < 2 := Nat.mod_lt _ (by decide)
  have h2 : (t / 2) % (2 ^ 23 - 1) < 2 ^ 23 - 1 := Nat.mod_lt _ (by decide)
  generalize (t / 2) % (2 ^ 23 - 1) = u at h2 ⊢
  generalize t % 2 = s at h1 ⊢
  refine ⟨?_, by omega⟩
  have hs : Ieee.single.signWeight = 2 ^ 31 := by decide
  have hb : Ieee.single.binade = 2 ^ 23 := by decide
  have hi : Ieee.single.infRung = 0x7f800000 := by decide
  have hm : (s * 2 ^ 31 + 0x7f800000 + 1 + u) % 2 ^ 31 = 0x7f800000 + 1 + u := by omega
  show (Ieee.single.read _).isNaN = true
  unfold Ieee.Format.read
  simp only [hs, hb, hi, hm]
  rw [if_neg (by omega), if_neg (by omega), if_neg (by omega)]
  rfl
theorem nan64 (t : Nat) : isN .f64 ((t % 2) * 2 ^ 63 + 0x7ff0000000000000 + 1 + (t / 2) % (2 ^ 52 - 1)) = true ∧ (t % 2) * 2 ^ 63 + 0x7ff0000000000000 + 1 + (t / 2) % (2 ^ 52 - 1) < 2 ^ 64 := by
  have h1 : t % 2 < 2 := Nat.mod_lt _ (by decide)
  have h2 : (t / 2) % (2 ^ 52 - 1) < 2 ^ 52 - 1 := Nat.mod_lt _ (by decide)
  generalize (t / 2) % (2 ^ 52 - 1) = u at h2 ⊢
  generalize t % 2 = s at h1 ⊢
  refine ⟨?_, by omega⟩
  have hs : Ieee.double.signWeight = 2 ^ 63 := by decide
  have hb : Ieee.double.binade = 2 ^ 52 := by decide
  have hi : Ieee.double.infRung = 0x7ff0000000000000 := by decide
  have hm : (s * 2 ^ 63 + 0x7ff0000000000000 + 1 + u) % 2 ^ 63 = 0x7ff0000000000000 + 1 + u := by omega
  show (Ieee.double.read _).isNaN = true
  unfold Ieee.Format.read
  simp only [hs, hb, hi, hm]
  rw [if_neg (by omega), if_neg (by omega), if_neg (by omega)]
  rfl

/-- What a float is worth: its bits but for NaNs; and it fits its kind. -/
def Is (k : FloatKind) (b c : Nat) : Prop := cn k b = c ∧ b < 2 ^ k.format.width

theorem Is.nan {k : FloatKind} {b : Nat} (h : isN k b = true) (hb : b < 2 ^ k.format.width) : Is k b (qn k) := ⟨cn_of_nan h, hb⟩
end Go.Proofs.Ytfbdmhkmkmbipaa.Fl
namespace Go.Proofs.Ytfbdmhkmkmbipaa.Fl
open Go.RowKit
section
variable {P : Program}

theorem cut_nanBits (k : FloatKind) (x y t : Nat) : isN k ((Question.nanBits k x y).cut t) = true ∧ (Question.nanBits k x y).cut t < 2 ^ k.format.width := by
  cases k
  · exact nan32 _
  · exact nan64 _
theorem cut_nanConv (k : FloatKind) (x t : Nat) : isN k ((Question.nanConv k x).cut t) = true ∧ (Question.nanConv k x).cut t < 2 ^ k.format.width := by
  cases k
  · exact nan32 _
  · exact nan64 _
theorem wf_lt {k : FloatKind} {r : Nat} (h : (Lit.float k r).wf = true) : r < 2 ^ k.format.width := by
  cases k
  · have h' : r < 2 ^ 32 := by simpa [Lit.wf] using h
    exact h'
  · have h' : r < 2 ^ 64 := by simpa [Lit.wf] using h
    exact h'
theorem run_nan_ar (op : BinOp) (hop : arOp op = true) (t : TypeId) (k : FloatKind) (x y : Nat) (w : World) (h : floatBits op k x y = none) :
    (binOp op t (.float k x) (.float k y)).run P w = .ok (.float k ((Question.nanBits k x y).cut (w.tape w.drawn (.nanBits k x y)))) (w.drewN 1) := by
  cases op <;> simp [arOp] at hop <;> simp [floatBits] at h <;> simp [binOp, Op.floatArith, h, Question.forced] <;> rfl

theorem run_ar (op : BinOp) (hop : arOp op = true) (t : TypeId) (k : FloatKind) (x y : Nat) (w : World) :
    ∃ r n, (binOp op t (.float k x) (.float k y)).run P w = .ok (.float k r) (w.drewN n) ∧ Is k r (ar op k x y) := by
  cases h : floatBits op k x y with
  | some r =>
    refine ⟨r, 0, run_float_arith w op t k x y r h, ?_, ?_⟩
    · rw [cn_of_not (bits_not h)]; unfold ar; rw [bits_cn, h]; rfl
    · exact wf_lt (floatBits_wf h)
  | none =>
    refine ⟨_, 1, run_nan_ar op hop t k x y w h, ?_, (cut_nanBits _ _ _ _).2⟩
    rw [cn_of_nan (cut_nanBits _ _ _ _).1]; unfold ar; rw [bits_cn, h]; rfl

theorem wp_ar {o : Oper} {a : Act} {w : World} {K : Act → World → Prop} {Q : Exit → Act → World → Prop} {op : BinOp} {t u : TypeId} {X Y : Operand} {k : FloatKind} {x y : Nat}
    (ho : o.op = .binOp op t X Y u) (hX : a.eval X = .float k x) (hY : a.eval Y = .float k y) (hop : arOp op = true)
    (h : ∀ r n, Is k r (ar op k x y) → K (a.put o.dst (.float k r)) (w.drewN n)) : o.wp P a w K Q := by
  obtain ⟨r, n, hr, his⟩ := run_ar (P := P) op hop t k x y w
  have he : (execOp a.eval o).run P w = .ok (.value (.float k r)) (w.drewN n) := by
    unfold execOp
    simp only [ho, hX, hY]
    have hg : eqGuard op t X Y (.float k x) (.float k y) = pure () := by
      unfold eqGuard; cases op <;> simp
    simp [hg, hr]
  unfold Oper.wp
  rw [he]
  exact h r n his

/-- A 32-bit number made a 64-bit one. -/
def wi (x : Nat) : Nat := (floatToFloatBits .f32 (cn .f32 x) .f64).getD (qn .f64)
theorem conv_nan {s k : FloatKind} {b : Nat} (hne : s ≠ k) (h : isN s b = true) : floatToFloatBits s b k = none := by
  obtain ⟨g, t, h⟩ := read_nan h
  unfold floatToFloatBits FloatKind.decode
  rw [if_neg hne, h]
theorem conv_cn {s k : FloatKind} (hne : s ≠ k) (b : Nat) : floatToFloatBits s (cn s b) k = floatToFloatBits s b k := by
  by_cases hx : isN s b
  · rw [conv_nan hne hx, conv_nan hne (by rw [isN_cn]; exact hx)]
  · rw [cn_of_not (by simpa using hx)]
theorem conv_not {s k : FloatKind} {b r : Nat} (hne : s ≠ k) (h : floatToFloatBits s b k = some r) : isN k r = false := by
  unfold floatToFloatBits at h
  rw [if_neg hne] at h
  split at h
  · cases h
  · cases h; exact read_write _ _ rfl
  · split at h
    · cases h
    · cases h; exact read_write _ _ rfl
end
end Go.Proofs.Ytfbdmhkmkmbipaa.Fl
namespace Go.Proofs.Ytfbdmhkmkmbipaa.Fl
open Ieee

theorem cut_zero (s : Bool) (n : Nat) : Toward.even.cut s n 0 = n := by
  unfold Toward.cut
  simp [Nat.mod_one]

theorem dbl_sw : double.signWeight = 2 ^ 63 := by decide
theorem dbl_bi : double.binade = 2 ^ 52 := by decide
theorem dbl_inf : double.infRung = 2047 * 2 ^ 52 := by decide
theorem dbl_lp : double.leastPlace = -1074 := by decide
theorem sgl_sw : single.signWeight = 2 ^ 31 := by decide
theorem sgl_bi : single.binade = 2 ^ 23 := by decide
theorem sgl_inf : single.infRung = 255 * 2 ^ 23 := by decide
theorem sgl_lp : single.leastPlace = -149 := by decide

/-- The rung of a word of a sign and a rung. -/
theorem word_rung (f : Format) (s : Bool) (r : Nat) (hr : r < f.signWeight) : f.word s r % f.signWeight = r ∧ (f.word s r / f.signWeight % 2 == 1) = s := by
  have hp : 0 < f.signWeight := by omega
  unfold Format.word
  cases s
  · simp [Nat.mod_eq_of_lt hr, Nat.div_eq_of_lt hr]
  · have e : (f.signWeight + r) / f.signWeight = 1 := by
      rw [Nat.add_div_left _ hp, Nat.div_eq_of_lt hr]
    simp [Nat.add_mod_left, Nat.mod_eq_of_lt hr, e]

/-- A small number is read back as it was written. -/
theorem wide_exact (s : Bool) (m : Nat) (e : Int) (h0 : 0 < m) (hm : m < 2 ^ 53) (h1 : -1000 ≤ e) (h2 : e ≤ 900) :
    double.read (double.nearest s m e) = .number s (m <<< (52 - m.log2)) (e - (52 - m.log2 : Nat)) := by
  have hL : m.log2 ≤ 52 := by
    have := (Nat.log2_lt (by omega : m ≠ 0) (k := 53)).2 hm
    omega
  have hlo : 2 ^ m.log2 ≤ m := Nat.log2_self_le (by omega)
  have hhi : m < 2 ^ (m.log2 + 1) := Nat.lt_log2_self
  have hk : m <<< (52 - m.log2) = m * 2 ^ (52 - m.log2) := Nat.shiftLeft_eq _ _
  have hk1 : 2 ^ 52 ≤ m * 2 ^ (52 - m.log2) := by
    calc 2 ^ 52 = 2 ^ m.log2 * 2 ^ (52 - m.log2) := by rw [← Nat.pow_add]; congr 1; omega
      _ ≤ _ := Nat.mul_le_mul_right _ hlo
  have hk2 : m * 2 ^ (52 - m.log2) < 2 ^ 53 := by
    calc m * 2 ^ (52 - m.log2) < 2 ^ (m.log2 + 1) * 2 ^ (52 - m.log2) := Nat.mul_lt_mul_of_pos_right hhi (Nat.pow_pos (by decide))
      _ = 2 ^ 53 := by rw [← Nat.pow_add]; congr 1; omega
  rw [hk]
  have hF : (double.fractionBits : Int) = 52 := rfl
  unfold Format.nearest
  rw [if_neg (by omega)]
  simp only [dbl_lp, dbl_bi, dbl_inf, hF]
  have hmax : max (e + (m.log2 : Int) - 52) (-1074) = e + m.log2 - 52 := by omega
  rw [hmax]
  have hd : (e + (m.log2 : Int) - 52 - e).toNat = 0 := by omega
  have hu : (e - (e + (m.log2 : Int) - 52)).toNat = 52 - m.log2 := by omega
  rw [hd, hu, cut_zero, hk]
  generalize m * 2 ^ (52 - m.log2) = M at hk1 hk2
  have hB53 : (2 : Nat) ^ 53 = 2 * 2 ^ 52 := by decide
  have hB63 : (2 : Nat) ^ 63 = 2048 * 2 ^ 52 := by decide
  have hBv : (2 : Nat) ^ 52 = 4503599627370496 := by decide
  rw [hB53] at hk2
  have hT : ((e + (m.log2 : Int) - 52 - -1074).toNat : Int) = e + m.log2 + 1022 := by omega
  generalize hTg : (e + (m.log2 : Int) - 52 - -1074).toNat = T at hT
  have hT2 : T ≤ 1974 := by omega
  have hsw : T * 2 ^ 52 + M < double.signWeight := by rw [dbl_sw, hB63]; clear hB53 hB63; omega
  have hbi := dbl_bi
  have hinf := dbl_inf
  clear hB53 hB63
  generalize (2 : Nat) ^ 52 = B at *
  have hB0 : 0 < B := by omega
  have hTB : T * B ≤ 1974 * B := Nat.mul_le_mul_right _ hT2
  have hmin : min (T * B + M) (2047 * B) = T * B + M := by omega
  rw [hmin]
  obtain ⟨hr, hs⟩ := word_rung double s (T * B + M) hsw
  unfold Format.read
  simp only [hr, hs]
  rw [hbi, hinf, dbl_lp, if_neg (by omega), if_pos (by omega)]
  obtain ⟨c, rfl⟩ : ∃ c, M = B + c := ⟨M - B, by omega⟩
  have hc : c < B := by omega
  have hre : T * B + (B + c) = c + B * (T + 1) := by rw [Nat.mul_comm B, Nat.succ_mul]; omega
  have hq : (T * B + (B + c)) / B = T + 1 := by rw [hre, Nat.add_mul_div_left _ _ hB0, Nat.div_eq_of_lt hc]; omega
  have hrr : (T * B + (B + c)) % B = c := by rw [hre, Nat.add_mul_mod_self_left, Nat.mod_eq_of_lt hc]
  rw [hq, hrr]
  congr 1
  omega

theorem nearest_zero (f : Format) (s : Bool) (e : Int) : f.nearest s 0 e = f.word s 0 := by unfold Format.nearest; simp

/-! ### comparing -/
theorem signed_scale (s : Bool) (m u d : Nat) : signed s m (u + d) = signed s m u * 2 ^ d := by
  unfold signed
  simp only [Nat.shiftLeft_eq, Nat.pow_add]
  cases s <;> simp [Int.mul_assoc, Int.neg_mul]
theorem signed_shift (s : Bool) (m k u : Nat) : signed s (m <<< k) u = signed s m (k + u) := by
  unfold signed
  simp only [Nat.shiftLeft_eq, Nat.pow_add, Nat.mul_assoc]
theorem compare_scale (a b : Int) (d : Nat) : compare (a * 2 ^ d) (b * 2 ^ d) = compare a b := by
  have hp : (0 : Int) < 2 ^ d := Int.pow_pos (by decide)
  simp only [compare, compareOfLessAndEq]
  have h1 : (a * 2 ^ d < b * 2 ^ d) ↔ a < b := ⟨fun h => Int.lt_of_mul_lt_mul_right h (Int.le_of_lt hp), fun h => Int.mul_lt_mul_of_pos_right h hp⟩
  have h2 : (a * 2 ^ d = b * 2 ^ d) ↔ a = b := ⟨fun h => Int.eq_of_mul_eq_mul_right (by omega) h, fun h => by rw [h]⟩
  simp only [h1, h2]
/-- The base does not matter. -/
theorem order_base (s t : Bool) (m n : Nat) (i j b : Int) (h1 : b ≤ i) (h2 : b ≤ j) :
    Datum.order (.number s m i) (.number t n j) = some (compare (signed s m (i - b).toNat) (signed t n (j - b).toNat)) := by
  show some (compare (signed s m (i - min i j).toNat) (signed t n (j - min i j).toNat)) = _
  obtain ⟨d, hd⟩ : ∃ d : Nat, min i j = b + d := ⟨(min i j - b).toNat, by omega⟩
  have e1 : (i - b).toNat = (i - min i j).toNat + d := by omega
  have e2 : (j - b).toNat = (j - min i j).toNat + d := by omega
  rw [e1, e2, signed_scale, signed_scale, compare_scale]
theorem order_shift (s t : Bool) (m n : Nat) (i j : Int) (k l : Nat) :
    Datum.order (.number s (m <<< k) (i - k)) (.number t (n <<< l) (j - l)) = Datum.order (.number s m i) (.number t n j) := by
  rw [order_base _ _ _ _ _ _ (min (i - k) (j - l)) (by omega) (by omega), order_base s t m n i j (min (i - k) (j - l)) (by omega) (by omega), signed_shift, signed_shift]
  congr 3 <;> omega

/-- What a 64-bit word stands for, of a 32-bit word: the same. -/
inductive SameNum : Datum → Datum → Prop
  | nan (s t u v) : SameNum (.nan s t) (.nan u v)
  | inf (s) : SameNum (.infinity s) (.infinity s)
  | num (s m i) (k : Nat) : SameNum (.number s m i) (.number s (m <<< k) (i - k))
  | zero (s i j) : SameNum (.number s 0 i) (.number s 0 j)
theorem shift_zero (k : Nat) : (0 : Nat) <<< k = 0 := by simp
theorem signed_zero (s : Bool) (u : Nat) : signed s 0 u = 0 := by cases s <;> simp [signed]
theorem order_zero_l (s t : Bool) (n : Nat) (i i' j : Int) : Datum.order (.number s 0 i) (.number t n j) = Datum.order (.number s 0 i') (.number t n j) := by
  rw [order_base _ _ _ _ _ _ (min (min i i') j) (by omega) (by omega), order_base s t 0 n i' j (min (min i i') j) (by omega) (by omega), signed_zero, signed_zero]
theorem order_zero_r (s t : Bool) (n : Nat) (i i' j : Int) : Datum.order (.number t n j) (.number s 0 i) = Datum.order (.number t n j) (.number s 0 i') := by
  rw [order_base _ _ _ _ _ _ (min (min i i') j) (by omega) (by omega), order_base t s n 0 j i' (min (min i i') j) (by omega) (by omega), signed_zero, signed_zero]
theorem order_same {a a' b b' : Datum} (ha : SameNum a a') (hb : SameNum b b') : a'.order b' = a.order b := by
  have key : ∀ {s t : Bool} {m n : Nat} {i j : Int} {k : Nat}, Datum.order (.number s (m <<< k) (i - k)) (.number t n j) = Datum.order (.number s m i) (.number t n j) := by
    intro s t m n i j k
    have := order_shift s t m n i j k 0
    simpa using this
  have key' : ∀ {s t : Bool} {m n : Nat} {i j : Int} {k : Nat}, Datum.order (.number t n j) (.number s (m <<< k) (i - k)) = Datum.order (.number t n j) (.number s m i) := by
    intro s t m n i j k
    have := order_shift t s n m j i 0 k
    simpa using this
  cases ha <;> cases hb <;> first | rfl | skip
  · exact order_shift _ _ _ _ _ _ _ _
  · rw [key]; exact order_zero_r _ _ _ _ _ _
  · rw [key']; exact order_zero_l _ _ _ _ _ _
  · rw [order_zero_l _ _ _ _ _ _]; exact order_zero_r _ _ _ _ _ _
end Go.Proofs.Ytfbdmhkmkmbipaa.Fl
namespace Go.Proofs.Ytfbdmhkmkmbipaa.Fl
open Ieee
/-! ### reading -/
theorem read_single (b : Nat) : (∃ s m e, single.read b = .number s m e ∧ m < 2 ^ 24 ∧ -149 ≤ e ∧ e ≤ 104) ∨ (∃ s, single.read b = .infinity s) ∨ ∃ s t, single.read b = .nan s t := by
  unfold Format.read
  rw [sgl_sw, sgl_bi, sgl_inf, sgl_lp]
  have hlt : b % 2 ^ 31 < 2 ^ 31 := Nat.mod_lt _ (by decide)
  generalize b % 2 ^ 31 = r at hlt
  simp only []
  split
  · exact .inl ⟨_, _, _, rfl, by omega, by omega, by omega⟩
  · split
    · refine .inl ⟨_, _, _, rfl, ?_, ?_, ?_⟩
      · have : r % 2 ^ 23 < 2 ^ 23 := Nat.mod_lt _ (by decide)
        omega
      · omega
      · omega
    · split
      · exact .inr (.inl ⟨_, rfl⟩)
      · exact .inr (.inr ⟨_, _, rfl⟩)
theorem read_inf (s : Bool) : double.read (double.write (.infinity s)) = .infinity s := by cases s <;> decide
theorem read_zero64 (s : Bool) (e : Int) : double.read (double.nearest s 0 e) = .number s 0 (-1074) := by
  rw [nearest_zero]; cases s <;> decide

/-- Widening: it always answers, but for NaNs; and the answer is the same number. -/
theorem widen (b : Nat) (h : isN .f32 b = false) : ∃ r, floatToFloatBits .f32 b .f64 = some r ∧ SameNum (single.read b) (double.read r) := by
  unfold floatToFloatBits
  rw [if_neg (by decide)]
  show ∃ r, (match single.read b with
    | .nan _ _ => none
    | .infinity s => some (FloatKind.f64.encode (.infinity s))
    | .number s m e => if (FloatKind.f64.decode (FloatKind.f64.encode (.number s m e))).isInfinity then none else some (FloatKind.f64.encode (.number s m e))) = some r ∧ _
  rcases read_single b with ⟨s, m, e, hr, hm, h1, h2⟩ | ⟨s, hr⟩ | ⟨s, t, hr⟩
  · rw [hr]
    simp only []
    by_cases h0 : m = 0
    · subst h0
      have hz := read_zero64 s e
      have hz' : FloatKind.f64.decode (FloatKind.f64.encode (.number s 0 e)) = .number s 0 (-1074) := hz
      rw [hz']
      exact ⟨_, rfl, by show SameNum _ (double.read (double.nearest s 0 e)); rw [hz]; exact .zero _ _ _⟩
    · have hw := wide_exact s m e (by omega) (by omega) (by omega) (by omega)
      have hw' : FloatKind.f64.decode (FloatKind.f64.encode (.number s m e)) = .number s (m <<< (52 - m.log2)) (e - (52 - m.log2 : Nat)) := hw
      rw [hw']
      exact ⟨_, rfl, by show SameNum _ (double.read (double.nearest s m e)); rw [hw]; exact .num _ _ _ _⟩
  · rw [hr]
    exact ⟨_, rfl, by rw [show double.read (FloatKind.f64.encode (.infinity s)) = .infinity s from read_inf s]; exact .inf _⟩
  · unfold isN at h
    have hr' : FloatKind.f32.format.read b = .nan s t := hr
    rw [hr'] at h
    cases h
theorem wi_same (b : Nat) : SameNum (single.read b) (double.read (wi b)) := by
  unfold wi
  cases h : isN .f32 b with
  | true =>
    rw [conv_cn (by decide), conv_nan (by decide) h]
    obtain ⟨s, t, hr⟩ := read_nan h
    rw [show single.read b = .nan s t from hr]
    have hq : ∃ u v, double.read (qn .f64) = .nan u v := ⟨false, 2251799813685249, by decide⟩
    obtain ⟨u, v, hq⟩ := hq
    show SameNum _ (double.read (qn .f64))
    rw [hq]
    exact .nan _ _ _ _
  | false =>
    rw [cn_of_not h]
    obtain ⟨r, hr, hs⟩ := widen b h
    rw [hr]
    exact hs
/-- Comparing wide numbers is comparing the narrow ones. -/
theorem order_wi (x y : Nat) : double.order (wi x) (wi y) = single.order x y := order_same (wi_same x) (wi_same y)
theorem isN_wi (x : Nat) : isN .f64 (wi x) = isN .f32 x := by
  have h := wi_same x
  show (double.read (wi x)).isNaN = (single.read x).isNaN
  generalize double.read (wi x) = d at h
  generalize single.read x = c at h
  cases h <;> rfl
theorem wi_cn (x : Nat) : wi (cn .f32 x) = wi x := by unfold wi; rw [cn_cn]
theorem cn_wi (x : Nat) : cn .f64 (wi x) = wi x := by
  unfold cn
  rw [isN_wi]
  split
  · rename_i h
    unfold wi
    rw [conv_cn (by decide), conv_nan (by decide) h]; rfl
  · rfl

section
variable {P : Program}
theorem run_wide (src dst : TypeId) (hs : (P.underlying src).isSome = true) (hd : P.underlying dst = some (.float .f64)) (x : Nat) (w : World) :
    ∃ r n, (convert src dst (.float .f32 x)).run P w = .ok (.float .f64 r) (w.drewN n) ∧ Is .f64 r (wi x) := by
  cases h : isN .f32 x with
  | true =>
    refine ⟨(Question.nanConv .f64 x).cut (w.tape w.drawn (.nanConv .f64 x)), 1, ?_, ?_, (cut_nanConv _ _ _).2⟩
    · obtain ⟨u, hs'⟩ := Option.isSome_iff_exists.1 hs
      obtain ⟨g, t, hr⟩ := read_nan h
      have hr' : FloatKind.f32.decode x = .nan g t := hr
      cases u <;> simp [convert, run_underlying hs', run_underlying hd, Conv.floatToFloat, hr', Question.forced] <;> rfl
    · rw [cn_of_nan (cut_nanConv _ _ _).1]
      unfold wi
      rw [conv_cn (by decide), conv_nan (by decide) h]; rfl
  | false =>
    obtain ⟨r, hr, _⟩ := widen x h
    refine ⟨r, 0, run_convert_float_float w src dst .f32 .f64 x r hs hd hr, ?_, ?_⟩
    · rw [cn_of_not (conv_not (by decide) hr)]
      unfold wi
      rw [cn_of_not h, hr]; rfl
    · have hw : floatToFloatBits .f32 x .f64 = some r := hr
      unfold floatToFloatBits at hw
      rw [if_neg (by decide)] at hw
      split at hw
      · cases hw
      · cases hw; exact wf_lt (encode_wf _ _)
      · split at hw
        · cases hw
        · cases hw; exact wf_lt (encode_wf _ _)
theorem wp_wide {o : Oper} {a : Act} {w : World} {K : Act → World → Prop} {Q : Exit → Act → World → Prop} {src dst : TypeId} {X : Operand} {x : Nat}
    (ho : o.op = .convert src dst X) (hX : a.eval X = .float .f32 x) (hs : (P.underlying src).isSome = true) (hd : P.underlying dst = some (.float .f64))
    (h : ∀ r n, Is .f64 r (wi x) → K (a.put o.dst (.float .f64 r)) (w.drewN n)) : o.wp P a w K Q := by
  obtain ⟨r, n, hr, his⟩ := run_wide src dst hs hd x w
  have he : (execOp a.eval o).run P w = .ok (.value (.float .f64 r)) (w.drewN n) := by
    unfold execOp
    simp [ho, hX, hr]
  unfold Oper.wp
  rw [he]
  exact h r n his

/-- A 64-bit number made a 32-bit one, where it is not too great. -/
def na (x : Nat) : Nat := (floatToFloatBits .f64 (cn .f64 x) .f32).getD (qn .f32)
def naOk (x : Nat) : Bool := isN .f64 x || (floatToFloatBits .f64 x .f32).isSome
theorem naOk_cn (x : Nat) : naOk (cn .f64 x) = naOk x := by
  unfold naOk; rw [isN_cn, conv_cn (by decide)]
theorem na_cn (x : Nat) : na (cn .f64 x) = na x := by unfold na; rw [cn_cn]
theorem run_narrow (src dst : TypeId) (hs : (P.underlying src).isSome = true) (hd : P.underlying dst = some (.float .f32)) (x : Nat) (hx : naOk x = true) (w : World) :
    ∃ r n, (convert src dst (.float .f64 x)).run P w = .ok (.float .f32 r) (w.drewN n) ∧ Is .f32 r (na x) := by
  cases h : isN .f64 x with
  | true =>
    refine ⟨(Question.nanConv .f32 x).cut (w.tape w.drawn (.nanConv .f32 x)), 1, ?_, ?_, (cut_nanConv _ _ _).2⟩
    · obtain ⟨u, hs'⟩ := Option.isSome_iff_exists.1 hs
      obtain ⟨g, t, hr⟩ := read_nan h
      have hr' : FloatKind.f64.decode x = .nan g t := hr
      cases u <;> simp [convert, run_underlying hs', run_underlying hd, Conv.floatToFloat, hr', Question.forced] <;> rfl
    · rw [cn_of_nan (cut_nanConv _ _ _).1]
      unfold na
      rw [conv_cn (by decide), conv_nan (by decide) h]; rfl
  | false =>
    unfold naOk at hx
    rw [h, Bool.false_or] at hx
    obtain ⟨r, hr⟩ := Option.isSome_iff_exists.1 hx
    refine ⟨r, 0, run_convert_float_float w src dst .f64 .f32 x r hs hd hr, ?_, ?_⟩
    · rw [cn_of_not (conv_not (by decide) hr)]
      unfold na
      rw [cn_of_not h, hr]; rfl
    · have hw : floatToFloatBits .f64 x .f32 = some r := hr
      unfold floatToFloatBits at hw
      rw [if_neg (by decide)] at hw
      split at hw
      · cases hw
      · cases hw; exact wf_lt (encode_wf _ _)
      · split at hw
        · cases hw
        · cases hw; exact wf_lt (encode_wf _ _)
theorem wp_narrow {o : Oper} {a : Act} {w : World} {K : Act → World → Prop} {Q : Exit → Act → World → Prop} {src dst : TypeId} {X : Operand} {x : Nat}
    (ho : o.op = .convert src dst X) (hX : a.eval X = .float .f64 x) (hs : (P.underlying src).isSome = true) (hd : P.underlying dst = some (.float .f32)) (hx : naOk x = true)
    (h : ∀ r n, Is .f32 r (na x) → K (a.put o.dst (.float .f32 r)) (w.drewN n)) : o.wp P a w K Q := by
  obtain ⟨r, n, hr, his⟩ := run_narrow src dst hs hd x hx w
  have he : (execOp a.eval o).run P w = .ok (.value (.float .f32 r)) (w.drewN n) := by
    unfold execOp
    simp [ho, hX, hr]
  unfold Oper.wp
  rw [he]
  exact h r n his
theorem wp_same {o : Oper} {a : Act} {w : World} {K : Act → World → Prop} {Q : Exit → Act → World → Prop} {src dst : TypeId} {X : Operand} {k : FloatKind} {x : Nat}
    (ho : o.op = .convert src dst X) (hX : a.eval X = .float k x) (hs : (P.underlying src).isSome = true) (hd : P.underlying dst = some (.float k))
    (h : K (a.put o.dst (.float k x)) w) : o.wp P a w K Q := by
  have hr := run_convert_float_float (P := P) w src dst k k x x hs hd (by unfold floatToFloatBits; rw [if_pos rfl])
  have he : (execOp a.eval o).run P w = .ok (.value (.float k x)) w := by
    unfold execOp
    simp [ho, hX, hr]
  unfold Oper.wp
  rw [he]
  exact h
end
end Go.Proofs.Ytfbdmhkmkmbipaa.Fl
namespace Go.Proofs.Ytfbdmhkmkmbipaa.Fl
open Ieee
/-! ### how great a number can be -/
/-- 'm * 2 ^ e ≤ 2 ^ n'. -/
def V (m : Nat) (e n : Int) : Prop := ∃ c : Int, c ≤ e ∧ c ≤ n ∧ m * 2 ^ (e - c).toNat ≤ 2 ^ (n - c).toNat
theorem V.at {m : Nat} {e n : Int} (h : V m e n) {c : Int} (h1 : c ≤ e) (h2 : c ≤ n) : m * 2 ^ (e - c).toNat ≤ 2 ^ (n - c).toNat := by
  obtain ⟨b, hb1, hb2, hb⟩ := h
  rcases Int.le_total b c with hbc | hbc
  · obtain ⟨d, hd⟩ : ∃ d : Nat, c = b + d := ⟨(c - b).toNat, by omega⟩
    have e1 : (e - b).toNat = (e - c).toNat + d := by omega
    have e2 : (n - b).toNat = (n - c).toNat + d := by omega
    rw [e1, e2, Nat.pow_add, Nat.pow_add, ← Nat.mul_assoc] at hb
    exact Nat.le_of_mul_le_mul_right hb (Nat.pow_pos (by decide))
  · obtain ⟨d, hd⟩ : ∃ d : Nat, b = c + d := ⟨(b - c).toNat, by omega⟩
    have e1 : (e - c).toNat = (e - b).toNat + d := by omega
    have e2 : (n - c).toNat = (n - b).toNat + d := by omega
    rw [e1, e2, Nat.pow_add, Nat.pow_add, ← Nat.mul_assoc]
    exact Nat.mul_le_mul_right _ hb
theorem V.mono {m : Nat} {e n k : Int} (h : V m e n) (hk : n ≤ k) : V m e k := by
  obtain ⟨c, h1, h2, hc⟩ := h
  exact ⟨c, h1, by omega, Nat.le_trans hc (Nat.pow_le_pow_right (by decide) (by omega))⟩
theorem V.zero (e n : Int) : V 0 e n := ⟨min e n, by omega, by omega, by simp⟩

theorem log2_pow_lt (n : Nat) : n < 2 ^ (n.log2 + 1) := Nat.lt_log2_self
theorem cut_le {n drop C : Nat} (s : Bool) (h : n ≤ C * 2 ^ drop) : Toward.even.cut s n drop ≤ C := by
  unfold Toward.cut
  simp only [Nat.one_shiftLeft]
  by_cases hd : drop ≤ n.log2 + 2
  · rw [Nat.min_eq_left hd]
    have hp : 0 < 2 ^ drop := Nat.pow_pos (by decide)
    generalize 2 ^ drop = G at h hp
    have hlow : n / G ≤ C := by
      rw [Nat.div_le_iff_le_mul_add_pred hp, Nat.mul_comm]; omega
    by_cases he : n / G = C
    · have hr : n % G = 0 := by
        have := Nat.div_add_mod n G
        rw [he, Nat.mul_comm] at this
        omega
      rw [hr]
      simp [he]
      have : (G == 0) = false := by simp; omega
      rw [this]; simp
    · have : ∀ b : Bool, b.toNat ≤ 1 := fun b => by cases b <;> simp
      have h1 := this (decide (G < 2 * (n % G)) || (G == 2 * (n % G) && n / G % 2 == 1))
      omega
  · rw [Nat.min_eq_right (by omega)]
    have hn := log2_pow_lt n
    have h4 : 2 ^ (n.log2 + 2) = 2 * 2 ^ (n.log2 + 1) := by rw [Nat.pow_succ]; omega
    have hlt : n < 2 ^ (n.log2 + 2) := by omega
    rw [Nat.div_eq_of_lt hlt, Nat.mod_eq_of_lt hlt]
    have e1 : decide (2 ^ (n.log2 + 2) < 2 * n) = false := by simp; omega
    have e2 : (2 ^ (n.log2 + 2) == 2 * n) = false := by simp; omega
    rw [e1, e2]
    simp

/-- The rung of 2 ^ n. -/
def top (f : Format) (n : Int) : Nat := (n - f.leastPlace - f.fractionBits + 1).toNat * f.binade

theorem nearest_rung (f : Format) (s : Bool) (M : Nat) (p n : Int) (h : V M p n) (hn : f.leastPlace + f.fractionBits ≤ n) :
    f.nearest s M p % f.signWeight ≤ top f n := by
  have hinf := f.infRung_lt
  unfold Format.nearest
  split
  · rw [(word_rung f s 0 (by omega)).1]; exact Nat.zero_le _
  · rename_i h0
    simp only []
    generalize hk : Toward.even.cut s (M <<< (p - max (p + (M.log2 : Int) - f.fractionBits) f.leastPlace).toNat) (max (p + (M.log2 : Int) - f.fractionBits) f.leastPlace - p).toNat = kept
    rw [(word_rung f s _ (Nat.lt_of_le_of_lt (Nat.min_le_right _ _) hinf)).1]
    refine Nat.le_trans (Nat.min_le_left _ _) ?_
    unfold top
    have hB : f.binade = 2 ^ f.fractionBits := rfl
    rw [hB]
    generalize hF : f.fractionBits = F at *
    generalize hlp : f.leastPlace = lp at *
    have hlo : 2 ^ M.log2 ≤ M := Nat.log2_self_le h0
    have hhi := log2_pow_lt M
    have hLn : p + M.log2 ≤ n := by
      rcases Int.lt_or_le n (p + M.log2) with hlt | hle
      · exfalso
        have hv := h.at (c := min p n) (by omega) (by omega)
        have h2 : 2 ^ M.log2 * 2 ^ (p - min p n).toNat ≤ 2 ^ (n - min p n).toNat := Nat.le_trans (Nat.mul_le_mul_right _ hlo) hv
        rw [← Nat.pow_add] at h2
        have := (Nat.pow_le_pow_iff_right (a := 2) (by decide)).1 h2
        omega
      · exact hle
    generalize hlast : max (p + (M.log2 : Int) - F) lp = last at *
    have key : ∀ C : Nat, M * 2 ^ (p - last).toNat ≤ C * 2 ^ (last - p).toNat → kept ≤ C := by
      intro C hC
      rw [← hk]
      refine cut_le s ?_
      rw [Nat.shiftLeft_eq]
      exact hC
    rcases Int.le_total lp (p + (M.log2 : Int) - F) with hc | hc
    · have hl : last = p + M.log2 - F := by omega
      by_cases heq : p + (M.log2 : Int) = n
      · -- the number is a power of two
        have hM : M = 2 ^ M.log2 := by
          have hv := h.at (c := p) (by omega) (by omega)
          have e1 : (p - p).toNat = 0 := by omega
          have e2 : (n - p).toNat = M.log2 := by omega
          rw [e1, e2] at hv
          omega
        have hkept : kept ≤ 2 ^ F := by
          refine key _ ?_
          have hMM : M * 2 ^ (p - last).toNat = 2 ^ (M.log2 + (p - last).toNat) := by rw [Nat.pow_add, ← hM]
          rw [hMM, ← Nat.pow_add]
          exact Nat.pow_le_pow_right (by decide) (by omega)
        have e3 : (n - lp - F + 1).toNat = (last - lp).toNat + 1 := by omega
        rw [e3, Nat.add_mul]
        omega
      · have hkept : kept ≤ 2 * 2 ^ F := by
          refine key _ ?_
          calc M * 2 ^ (p - last).toNat ≤ 2 ^ (M.log2 + 1) * 2 ^ (p - last).toNat := Nat.mul_le_mul_right _ (by omega)
            _ = 2 ^ (M.log2 + 1 + (p - last).toNat) := by rw [← Nat.pow_add]
            _ ≤ 2 ^ (F + 1 + (last - p).toNat) := Nat.pow_le_pow_right (by decide) (by omega)
            _ = 2 * 2 ^ F * 2 ^ (last - p).toNat := by rw [Nat.pow_add, Nat.pow_succ]; simp [Nat.mul_comm]
        obtain ⟨d, hd⟩ : ∃ d : Nat, (n - lp - F + 1).toNat = (last - lp).toNat + 2 + d := ⟨(n - lp - F + 1).toNat - ((last - lp).toNat + 2), by omega⟩
        rw [hd, Nat.add_mul, Nat.add_mul]
        have := Nat.zero_le (d * 2 ^ F)
        omega
    · have hl : last = lp := by omega
      have hkept : kept ≤ 1 * 2 ^ F ∨ p + (M.log2 : Int) - F = lp := by
        by_cases he : p + (M.log2 : Int) - F = lp
        · exact .inr he
        · refine .inl (key _ ?_)
          rw [Nat.one_mul]
          calc M * 2 ^ (p - last).toNat ≤ 2 ^ (M.log2 + 1) * 2 ^ (p - last).toNat := Nat.mul_le_mul_right _ (by omega)
            _ = 2 ^ (M.log2 + 1 + (p - last).toNat) := by rw [← Nat.pow_add]
            _ ≤ 2 ^ (F + (last - p).toNat) := Nat.pow_le_pow_right (by decide) (by omega)
            _ = 2 ^ F * 2 ^ (last - p).toNat := by rw [Nat.pow_add]
      rcases hkept with hkept | he
      · have e0 : (last - lp).toNat = 0 := by omega
        rw [e0]
        obtain ⟨d, hd⟩ : ∃ d : Nat, (n - lp - F + 1).toNat = 1 + d := ⟨(n - lp - F + 1).toNat - 1, by omega⟩
        rw [hd, Nat.add_mul]
        have := Nat.zero_le (d * 2 ^ F)
        omega
      · -- both places are one
        have hl' : last = p + M.log2 - F := by omega
        by_cases heq : p + (M.log2 : Int) = n
        · have hM : M = 2 ^ M.log2 := by
            have hv := h.at (c := p) (by omega) (by omega)
            have e1 : (p - p).toNat = 0 := by omega
            have e2 : (n - p).toNat = M.log2 := by omega
            rw [e1, e2] at hv
            omega
          have hkept : kept ≤ 2 ^ F := by
            refine key _ ?_
            have hMM : M * 2 ^ (p - last).toNat = 2 ^ (M.log2 + (p - last).toNat) := by rw [Nat.pow_add, ← hM]
            rw [hMM, ← Nat.pow_add]
            exact Nat.pow_le_pow_right (by decide) (by omega)
          have e3 : (n - lp - F + 1).toNat = (last - lp).toNat + 1 := by omega
          rw [e3, Nat.add_mul]
          omega
        · have hkept : kept ≤ 2 * 2 ^ F := by
            refine key _ ?_
            calc M * 2 ^ (p - last).toNat ≤ 2 ^ (M.log2 + 1) * 2 ^ (p - last).toNat := Nat.mul_le_mul_right _ (by omega)
              _ = 2 ^ (M.log2 + 1 + (p - last).toNat) := by rw [← Nat.pow_add]
              _ ≤ 2 ^ (F + 1 + (last - p).toNat) := Nat.pow_le_pow_right (by decide) (by omega)
              _ = 2 * 2 ^ F * 2 ^ (last - p).toNat := by rw [Nat.pow_add, Nat.pow_succ]; simp [Nat.mul_comm]
          obtain ⟨d, hd⟩ : ∃ d : Nat, (n - lp - F + 1).toNat = (last - lp).toNat + 2 + d := ⟨(n - lp - F + 1).toNat - ((last - lp).toNat + 2), by omega⟩
          rw [hd, Nat.add_mul, Nat.add_mul]
          have := Nat.zero_le (d * 2 ^ F)
          omega

theorem read_top (f : Format) (b : Nat) (n : Int) (h : b % f.signWeight ≤ top f n) (hn : f.leastPlace + f.fractionBits ≤ n) (ht : top f n < f.infRung) :
    ∃ s m e, f.read b = .number s m e ∧ V m e n := by
  unfold Format.read
  simp only []
  generalize b % f.signWeight = r at h
  have hB : f.binade = 2 ^ f.fractionBits := rfl
  have hBp : 0 < f.binade := by rw [hB]; exact Nat.pow_pos (by decide)
  generalize hT : (n - f.leastPlace - f.fractionBits + 1).toNat = T at *
  have htop : top f n = T * f.binade := by unfold top; rw [hT]
  rw [htop] at h ht
  generalize hlp : f.leastPlace = lp at *
  generalize hF : f.fractionBits = F at *
  split
  · rename_i hr
    refine ⟨_, _, _, rfl, lp, by omega, by omega, ?_⟩
    have e1 : (lp - lp).toNat = 0 := by omega
    rw [e1, Nat.pow_zero, Nat.mul_one]
    refine Nat.le_trans (Nat.le_of_lt hr) ?_
    rw [hB]
    exact Nat.pow_le_pow_right (by decide) (by omega)
  · rename_i hr
    rw [if_pos (by omega)]
    refine ⟨_, _, _, rfl, lp, by omega, by omega, ?_⟩
    have hq1 : 1 ≤ r / f.binade := (Nat.le_div_iff_mul_le hBp).2 (by omega)
    have e1 : (lp + ((r / f.binade - 1 : Nat) : Int) - lp).toNat = r / f.binade - 1 := by omega
    rw [e1]
    have hdm := Nat.div_add_mod r f.binade
    have hlt := Nat.mod_lt r hBp
    rw [Nat.mul_comm] at hdm
    generalize hq : r / f.binade = q at *
    generalize hm : r % f.binade = m at *
    have hqT : q ≤ T := by
      refine Nat.le_of_not_lt fun hlt' => ?_
      have : (T + 1) * f.binade ≤ q * f.binade := Nat.mul_le_mul_right _ hlt'
      rw [Nat.add_mul] at this
      omega
    by_cases heq : q = T
    · subst heq
      have hm0 : m = 0 := by omega
      subst hm0
      rw [Nat.add_zero, hB, ← Nat.pow_add]
      exact Nat.pow_le_pow_right (by decide) (by omega)
    · calc (f.binade + m) * 2 ^ (q - 1) ≤ (2 * f.binade) * 2 ^ (q - 1) := Nat.mul_le_mul_right _ (by omega)
        _ = 2 ^ (F + 1 + (q - 1)) := by rw [hB, Nat.pow_add, Nat.pow_succ]; simp [Nat.mul_comm]
        _ ≤ _ := Nat.pow_le_pow_right (by decide) (by omega)
end Go.Proofs.Ytfbdmhkmkmbipaa.Fl
namespace Go.Proofs.Ytfbdmhkmkmbipaa.Fl
open Ieee
/-- Finite, and at most 2 ^ n. -/
def Bd (k : FloatKind) (b : Nat) (n : Int) : Prop := ∃ s m e, k.format.read b = .number s m e ∧ V m e n
def lowest : FloatKind → Int
  | .f32 => -126
  | .f64 => -1022
def highest : FloatKind → Int
  | .f32 => 127
  | .f64 => 1023
theorem lowest_le (k : FloatKind) {n : Int} (h : lowest k ≤ n) : k.format.leastPlace + k.format.fractionBits ≤ n := by
  cases k
  · have h' : (-126 : Int) ≤ n := h
    show single.leastPlace + 23 ≤ n
    rw [sgl_lp]; omega
  · have h' : (-1022 : Int) ≤ n := h
    show double.leastPlace + 52 ≤ n
    rw [dbl_lp]; omega
theorem highest_lt (k : FloatKind) {n : Int} (h : n ≤ highest k) : top k.format n < k.format.infRung := by
  cases k
  · have h' : n ≤ (127 : Int) := h
    show (n - single.leastPlace - 23 + 1).toNat * single.binade < single.infRung
    rw [sgl_lp, sgl_bi, sgl_inf]
    exact Nat.mul_lt_mul_of_pos_right (by omega) (by decide)
  · have h' : n ≤ (1023 : Int) := h
    show (n - double.leastPlace - 52 + 1).toNat * double.binade < double.infRung
    rw [dbl_lp, dbl_bi, dbl_inf]
    exact Nat.mul_lt_mul_of_pos_right (by omega) (by decide)
theorem Bd.mono {k : FloatKind} {b : Nat} {n m : Int} (h : Bd k b n) (hm : n ≤ m) : Bd k b m := by
  obtain ⟨s, x, e, hr, hv⟩ := h
  exact ⟨s, x, e, hr, hv.mono hm⟩
theorem Bd.ofRung {k : FloatKind} {b : Nat} {n : Int} (h : b % k.format.signWeight ≤ top k.format n) (h1 : lowest k ≤ n) (h2 : n ≤ highest k) : Bd k b n :=
  read_top _ _ _ h (lowest_le k h1) (highest_lt k h2)
theorem Bd.write {k : FloatKind} {s : Bool} {m : Nat} {e n : Int} (h : V m e n) (h1 : lowest k ≤ n) (h2 : n ≤ highest k) : Bd k (k.format.write (.number s m e)) n :=
  Bd.ofRung (nearest_rung _ s m e n h (lowest_le k h1)) h1 h2
theorem Bd.notNaN {k : FloatKind} {b : Nat} {n : Int} (h : Bd k b n) : isN k b = false := by
  obtain ⟨s, m, e, hr, _⟩ := h
  unfold isN; rw [hr]; rfl
theorem Bd.cn {k : FloatKind} {b : Nat} {n : Int} (h : Bd k b n) : cn k b = b := cn_of_not h.notNaN

theorem natAbs_signed (s : Bool) (m u : Nat) : (signed s m u).natAbs = m * 2 ^ u := by
  unfold signed
  rw [Nat.shiftLeft_eq]
  cases s <;> simp [Int.natAbs_mul, Int.natAbs_pow]
theorem V.sum {s t : Bool} {m n : Nat} {i j q : Int} (h1 : V m i q) (h2 : V n j q) :
    V (signed s m (i - min i j).toNat + signed t n (j - min i j).toNat).natAbs (min i j) (q + 1) := by
  obtain ⟨c, hc⟩ : ∃ c : Int, c = min (min i j) q := ⟨_, rfl⟩
  refine ⟨c, by omega, by omega, ?_⟩
  have a1 := h1.at (c := c) (by omega) (by omega)
  have a2 := h2.at (c := c) (by omega) (by omega)
  have e1 : (i - c).toNat = (i - min i j).toNat + (min i j - c).toNat := by omega
  have e2 : (j - c).toNat = (j - min i j).toNat + (min i j - c).toNat := by omega
  have e3 : (q + 1 - c).toNat = (q - c).toNat + 1 := by omega
  rw [e1, Nat.pow_add, ← Nat.mul_assoc] at a1
  rw [e2, Nat.pow_add, ← Nat.mul_assoc] at a2
  rw [e3, Nat.pow_succ]
  have hab := Int.natAbs_add_le (signed s m (i - min i j).toNat) (signed t n (j - min i j).toNat)
  rw [natAbs_signed, natAbs_signed] at hab
  have := Nat.mul_le_mul_right (2 ^ (min i j - c).toNat) hab
  rw [Nat.add_mul] at this
  omega
theorem V.product {m n : Nat} {i j q r : Int} (h1 : V m i q) (h2 : V n j r) : V (m * n) (i + j) (q + r) := by
  obtain ⟨c, c1, c2, hc⟩ := h1
  obtain ⟨d, d1, d2, hd⟩ := h2
  refine ⟨c + d, by omega, by omega, ?_⟩
  have e1 : (i + j - (c + d)).toNat = (i - c).toNat + (j - d).toNat := by omega
  have e2 : (q + r - (c + d)).toNat = (q - c).toNat + (r - d).toNat := by omega
  rw [e1, e2, Nat.pow_add, Nat.pow_add]
  calc m * n * (2 ^ (i - c).toNat * 2 ^ (j - d).toNat) = (m * 2 ^ (i - c).toNat) * (n * 2 ^ (j - d).toNat) := by
        simp [Nat.mul_assoc, Nat.mul_left_comm]
    _ ≤ _ := Nat.mul_le_mul hc hd

theorem ar_some {op : BinOp} {k : FloatKind} {x y r : Nat} (h : floatBits op k x y = some r) : ar op k x y = r := by
  unfold ar; rw [bits_cn, h]; rfl
theorem Bd.add {k : FloatKind} {x y : Nat} {q : Int} (hx : Bd k x q) (hy : Bd k y q) (h1 : lowest k ≤ q + 1) (h2 : q + 1 ≤ highest k) : Bd k (ar .add k x y) (q + 1) := by
  obtain ⟨s, m, i, hr, hv⟩ := hx
  obtain ⟨t, n, j, hr', hv'⟩ := hy
  rw [ar_some (r := k.format.write (.number (if signed s m (i - min i j).toNat + signed t n (j - min i j).toNat = 0 then s && t else decide (signed s m (i - min i j).toNat + signed t n (j - min i j).toNat < 0)) (signed s m (i - min i j).toNat + signed t n (j - min i j).toNat).natAbs (min i j))) (by
    show k.format.add x y = _
    unfold Format.add; rw [hr, hr']; rfl)]
  exact Bd.write (V.sum hv hv') h1 h2
theorem Bd.sub {k : FloatKind} {x y : Nat} {q : Int} (hx : Bd k x q) (hy : Bd k y q) (h1 : lowest k ≤ q + 1) (h2 : q + 1 ≤ highest k) : Bd k (ar .sub k x y) (q + 1) := by
  obtain ⟨s, m, i, hr, hv⟩ := hx
  obtain ⟨t, n, j, hr', hv'⟩ := hy
  rw [ar_some (r := k.format.write (.number (if signed s m (i - min i j).toNat + signed (!t) n (j - min i j).toNat = 0 then s && !t else decide (signed s m (i - min i j).toNat + signed (!t) n (j - min i j).toNat < 0)) (signed s m (i - min i j).toNat + signed (!t) n (j - min i j).toNat).natAbs (min i j))) (by
    show k.format.sub x y = _
    unfold Format.sub; rw [hr, hr']; rfl)]
  exact Bd.write (V.sum hv hv') h1 h2
theorem Bd.mul {k : FloatKind} {x y : Nat} {q r : Int} (hx : Bd k x q) (hy : Bd k y r) (h1 : lowest k ≤ q + r) (h2 : q + r ≤ highest k) : Bd k (ar .mul k x y) (q + r) := by
  obtain ⟨s, m, i, hr, hv⟩ := hx
  obtain ⟨t, n, j, hr', hv'⟩ := hy
  rw [ar_some (r := k.format.write (.number (s ^^ t) (m * n) (i + j))) (by
    show k.format.mul x y = _
    unfold Format.mul; rw [hr, hr']; rfl)]
  exact Bd.write (V.product hv hv') h1 h2

/-- 'at least 2 ^ n', without its sign. -/
def Lo (k : FloatKind) (b : Nat) (n : Int) : Prop := ∃ s m e, k.format.read b = .number s m e ∧ ∃ c : Int, c ≤ e ∧ c ≤ n ∧ 2 ^ (n - c).toNat ≤ m * 2 ^ (e - c).toNat
theorem quo_le {D N X : Nat} (hN : 0 < N) (h : D ≤ X * N) : 2 * (D / N) + (D % N != 0).toNat ≤ 2 * X := by
  have hb : ∀ b : Bool, b.toNat ≤ 1 := fun b => by cases b <;> simp
  have h1 := hb (D % N != 0)
  have hle : D / N ≤ X := by
    rw [Nat.div_le_iff_le_mul_add_pred hN, Nat.mul_comm]; omega
  by_cases he : D / N = X
  · have : D % N = 0 := by
      have := Nat.div_add_mod D N
      rw [he, Nat.mul_comm] at this
      omega
    rw [this, he]; simp
  · omega
theorem Bd.quo {k : FloatKind} {x y : Nat} {q r : Int} (hx : Bd k x q) (hy : Lo k y r) (h1 : lowest k ≤ q - r) (h2 : q - r ≤ highest k) : Bd k (ar .quo k x y) (q - r) := by
  obtain ⟨s, m, i, hr, hv⟩ := hx
  obtain ⟨t, n, j, hr', c, c1, c2, hc⟩ := hy
  have hn : n ≠ 0 := by
    rintro rfl
    rw [Nat.zero_mul] at hc
    have : 0 < 2 ^ (r - c).toNat := Nat.pow_pos (by decide)
    omega
  generalize hmore : (k.format.fractionBits + 2) + n.log2 - m.log2 = more
  have hw : floatBits .quo k x y = some (k.format.write (.number (s ^^ t) (2 * ((m <<< more) / n) + ((m <<< more) % n != 0).toNat) (i - j - more - 1))) := by
    show k.format.div x y = _
    unfold Format.div
    rw [hr, hr']
    show Option.map k.format.write (if n = 0 then _ else _) = _
    rw [if_neg hn]
    simp only [hmore, Option.map_some]
  rw [ar_some hw]
  refine Bd.write ?_ h1 h2
  -- m 2^i ≤ 2^q and 2^r ≤ n 2^j
  rw [Nat.shiftLeft_eq]
  obtain ⟨b, b1, b2, hb⟩ := hv
  -- m * 2^more ≤ X * n, where X stands for 2 ^ (q - r - i + j + more)
  by_cases hneg : 0 ≤ q - r - i + j + more
  · have hX : m * 2 ^ more ≤ 2 ^ (q - r - i + j + more).toNat * n := by
      -- multiply both sides by 2^(i-b) * 2^(j-c) and compare
      have hp : 0 < 2 ^ (i - b).toNat * 2 ^ (r - c).toNat := Nat.mul_pos (Nat.pow_pos (by decide)) (Nat.pow_pos (by decide))
      refine Nat.le_of_mul_le_mul_right ?_ hp
      calc m * 2 ^ more * (2 ^ (i - b).toNat * 2 ^ (r - c).toNat) = (m * 2 ^ (i - b).toNat) * (2 ^ (r - c).toNat) * 2 ^ more := by
            ac_rfl
        _ ≤ 2 ^ (q - b).toNat * (n * 2 ^ (j - c).toNat) * 2 ^ more := Nat.mul_le_mul_right _ (Nat.mul_le_mul hb hc)
        _ = n * 2 ^ ((q - b).toNat + (j - c).toNat + more) := by
            rw [Nat.pow_add, Nat.pow_add]; ac_rfl
        _ = n * 2 ^ ((q - r - i + j + more).toNat + ((i - b).toNat + (r - c).toNat)) := by
            congr 2; omega
        _ = _ := by
            rw [Nat.pow_add, Nat.pow_add]; ac_rfl
    have hq := quo_le (by omega) hX
    refine ⟨min (i - j - more - 1) (q - r), by omega, by omega, ?_⟩
    refine Nat.le_trans (Nat.mul_le_mul_right _ hq) ?_
    have h22 : 2 * 2 ^ (q - r - i + j + more).toNat = 2 ^ ((q - r - i + j + more).toNat + 1) := by rw [Nat.pow_succ]; omega
    rw [h22, ← Nat.pow_add]
    exact Nat.pow_le_pow_right (by decide) (by omega)
  · -- the quotient would be less than one unit: it is nought, and 'more' forbids it unless m = 0
    have hX : m * 2 ^ more * 2 ^ (-(q - r - i + j + more)).toNat ≤ n := by
      have hp : 0 < 2 ^ (i - b).toNat * 2 ^ (r - c).toNat := Nat.mul_pos (Nat.pow_pos (by decide)) (Nat.pow_pos (by decide))
      refine Nat.le_of_mul_le_mul_right ?_ hp
      calc m * 2 ^ more * 2 ^ (-(q - r - i + j + more)).toNat * (2 ^ (i - b).toNat * 2 ^ (r - c).toNat) = (m * 2 ^ (i - b).toNat) * (2 ^ (r - c).toNat) * (2 ^ more * 2 ^ (-(q - r - i + j + more)).toNat) := by
            ac_rfl
        _ ≤ 2 ^ (q - b).toNat * (n * 2 ^ (j - c).toNat) * (2 ^ more * 2 ^ (-(q - r - i + j + more)).toNat) := Nat.mul_le_mul_right _ (Nat.mul_le_mul hb hc)
        _ = n * 2 ^ ((q - b).toNat + (j - c).toNat + (more + (-(q - r - i + j + more)).toNat)) := by
            rw [Nat.pow_add, Nat.pow_add, Nat.pow_add]; ac_rfl
        _ = n * 2 ^ ((i - b).toNat + (r - c).toNat) := by
            congr 2; omega
        _ = _ := by rw [Nat.pow_add]
    by_cases hm : m = 0
    · subst hm
      simp only [Nat.zero_mul, Nat.zero_div, Nat.zero_mod]
      exact V.zero _ _
    · exfalso
      have h2 : 2 ≤ 2 ^ (-(q - r - i + j + more)).toNat := by
        calc 2 = 2 ^ 1 := rfl
          _ ≤ _ := Nat.pow_le_pow_right (by decide) (by omega)
      have hlo : 2 ^ m.log2 ≤ m := Nat.log2_self_le hm
      have hhi := log2_pow_lt n
      have h3 : 2 ^ (m.log2 + more) ≤ m * 2 ^ more := by rw [Nat.pow_add]; exact Nat.mul_le_mul_right _ hlo
      have h4 : 2 ^ (n.log2 + 1) ≤ 2 ^ (m.log2 + more) := Nat.pow_le_pow_right (by decide) (by omega)
      have h5 : m * 2 ^ more * 1 ≤ m * 2 ^ more * 2 ^ (-(q - r - i + j + more)).toNat := Nat.mul_le_mul_left _ (by omega)
      omega

theorem Bd.naOk {x : Nat} {n : Int} (h : Bd .f64 x n) (h1 : -126 ≤ n) (h2 : n ≤ 127) : naOk x = true ∧ Bd .f32 (na x) n := by
  have hnn := h.notNaN
  obtain ⟨s, m, e, hr, hv⟩ := h
  have hb : Bd .f32 (single.write (.number s m e)) n := Bd.write hv h1 h2
  obtain ⟨s', m', e', hr', hv'⟩ := hb
  have hc : floatToFloatBits .f64 x .f32 = some (single.write (.number s m e)) := by
    unfold floatToFloatBits
    rw [if_neg (by decide)]
    have hd : FloatKind.f64.decode x = .number s m e := hr
    rw [hd]
    have hd' : FloatKind.f32.decode (FloatKind.f32.encode (.number s m e)) = .number s' m' e' := hr'
    simp only [hd']
    rfl
  constructor
  · unfold Fl.naOk; rw [hc]; simp
  · unfold na
    rw [conv_cn (by decide), hc]
    exact ⟨s', m', e', hr', hv'⟩
end Go.Proofs.Ytfbdmhkmkmbipaa.Fl
namespace Go.Proofs.Ytfbdmhkmkmbipaa.Fl
open Ieee
/-- Finite. -/
def finB (k : FloatKind) (b : Nat) : Bool := match k.format.read b with | .number .. => true | _ => false
theorem finB_cn (k : FloatKind) (b : Nat) : finB k (cn k b) = finB k b := by
  by_cases h : isN k b
  · obtain ⟨s, t, hr⟩ := read_nan h
    obtain ⟨s', t', hr'⟩ := read_nan (isN_qn k)
    rw [cn_of_nan h]; unfold finB; rw [hr, hr']
  · rw [cn_of_not (by simpa using h)]

theorem order_refl_num (s : Bool) (m : Nat) (e : Int) : Datum.order (.number s m e) (.number s m e) = some .eq := by
  show some (compare _ _) = _
  simp [compare, compareOfLessAndEq]
theorem order_self (k : FloatKind) (b : Nat) : k.format.order b b = if isN k b then none else some .eq := by
  unfold Format.order isN
  cases k.format.read b with
  | number s m e => rw [order_refl_num]; rfl
  | infinity s => cases s <;> rfl
  | nan s t => rfl

/-- 'x - x == 0' says that x is finite. -/
theorem sub_self (k : FloatKind) (x : Nat) : (k.format.order (ar .sub k x x) 0 == some .eq) = finB k x := by
  have h0 : ∀ (k : FloatKind), k.format.read 0 = .number false 0 k.format.leastPlace := by intro k; cases k <;> decide
  cases h : k.format.read x with
  | number s m e =>
    have hb : floatBits .sub k x x = some (k.format.write (.number (s && !s) 0 (min e e))) := by
      show k.format.sub x x = _
      unfold Format.sub
      rw [h]
      show (Option.map k.format.write (Datum.sum (.number s m e) (.number (!s) m e))) = _
      unfold Datum.sum
      have ht : signed s m (e - min e e).toNat + signed (!s) m (e - min e e).toNat = 0 := by
        unfold signed; cases s <;> simp <;> omega
      simp only [ht, Option.map_some]
      rfl
    rw [ar_some hb]
    have hw : k.format.write (.number (s && !s) 0 (min e e)) = 0 := by
      show k.format.nearest _ 0 _ = 0
      rw [nearest_zero]; cases s <;> rfl
    rw [hw, order_self]
    have : isN k 0 = false := by cases k <;> decide
    rw [this]
    unfold finB; rw [h]; rfl
  | infinity s =>
    have hb : floatBits .sub k x x = none := by
      show k.format.sub x x = _
      unfold Format.sub
      rw [h]; cases s <;> rfl
    have ha : ar .sub k x x = qn k := by unfold ar; rw [bits_cn, hb]; rfl
    rw [ha, order_nan_l (isN_qn k)]
    unfold finB; rw [h]; rfl
  | nan s t =>
    have hb : floatBits .sub k x x = none := bits_nan_l (by unfold isN; rw [h]; rfl) _ _
    have ha : ar .sub k x x = qn k := by unfold ar; rw [bits_cn, hb]; rfl
    rw [ha, order_nan_l (isN_qn k)]
    unfold finB; rw [h]; rfl

theorem finB_wi (x : Nat) : finB .f64 (wi x) = finB .f32 x := by
  have h := wi_same x
  show (match double.read (wi x) with | .number .. => true | _ => false) = (match single.read x with | .number .. => true | _ => false)
  generalize double.read (wi x) = d at h
  generalize single.read x = c at h
  cases h <;> rfl

/-! ### the sign bit -/
theorem read_mod (b : Nat) : (double.read (b % 2 ^ 63)) = match double.read b with
    | .number _ m e => .number false m e | .infinity _ => .infinity false | .nan _ t => .nan false t := by
  have hlt : b % 2 ^ 63 < 2 ^ 63 := Nat.mod_lt _ (by decide)
  have h1 : b % 2 ^ 63 % 2 ^ 63 = b % 2 ^ 63 := Nat.mod_eq_of_lt hlt
  have h2 : b % 2 ^ 63 / 2 ^ 63 = 0 := Nat.div_eq_of_lt hlt
  unfold Format.read
  rw [dbl_sw]
  simp only [h1, h2]
  split
  · rfl
  · split
    · rfl
    · split <;> rfl
theorem isN_mod (b : Nat) : isN .f64 (b % 2 ^ 63) = isN .f64 b := by
  show (double.read (b % 2 ^ 63)).isNaN = (double.read b).isNaN
  rw [read_mod]
  cases double.read b <;> rfl

/-- The greatest finite number is less than the positive infinity alone. -/
theorem gt_max (b : Nat) : (double.order (b % 2 ^ 63) 9218868437227405311 == some .gt) = (match double.read b with | .infinity _ => true | _ => false) := by
  have hm : double.read 9218868437227405311 = .number false 9007199254740991 971 := by decide
  unfold Format.order
  rw [hm, read_mod]
  have hb : b % 2 ^ 63 < 2 ^ 63 := Nat.mod_lt _ (by decide)
  cases hr : double.read b with
  | infinity s => rfl
  | nan s t => rfl
  | number s m e =>
    simp only []
    obtain ⟨T, hT⟩ : ∃ T : Nat, T = 2045 := ⟨_, rfl⟩
    have hle : m * 2 ^ (e + 1074).toNat ≤ 9007199254740991 * 2 ^ T ∧ -1074 ≤ e := by
      unfold Format.read at hr
      rw [dbl_sw, dbl_bi, dbl_inf, dbl_lp] at hr
      simp only [] at hr
      generalize b % 2 ^ 63 = r at hr
      have hBv : (2 : Nat) ^ 52 = 4503599627370496 := by decide
      split at hr
      · simp only [Datum.number.injEq] at hr
        obtain ⟨_, rfl, rfl⟩ := hr
        rename_i hlt _
        refine ⟨?_, by omega⟩
        have e0 : ((-1074 : Int) + 1074).toNat = 0 := by omega
        rw [e0, Nat.pow_zero, Nat.mul_one]
        refine Nat.le_trans (Nat.le_of_lt hlt) ?_
        refine Nat.le_trans (Nat.pow_le_pow_right (by decide) (by omega : 52 ≤ T)) ?_
        exact Nat.le_mul_of_pos_left _ (by decide)
      · split at hr
        · simp only [Datum.number.injEq] at hr
          obtain ⟨_, rfl, rfl⟩ := hr
          rename_i hge hlt _
          generalize (2 : Nat) ^ 52 = B at *
          have hB : 0 < B := by omega
          have hq : r / B < 2047 := (Nat.div_lt_iff_lt_mul hB).2 hlt
          have hmod : r % B < B := Nat.mod_lt _ hB
          refine ⟨?_, by omega⟩
          have h3 : (-1074 + ((r / B - 1 : Nat) : Int) + 1074).toNat ≤ T := by omega
          refine Nat.mul_le_mul (by omega) (Nat.pow_le_pow_right (by decide) h3)
        · split at hr <;> cases hr
    obtain ⟨hle, hge⟩ := hle
    rw [order_base false false m 9007199254740991 e 971 (-1074) (by omega) (by omega)]
    have e1 : (971 - (-1074 : Int)).toNat = T := by omega
    have e2 : (e - (-1074 : Int)).toNat = (e + 1074).toNat := by congr 1
    rw [e1, e2]
    clear hT e1 e2
    unfold signed
    simp only [Bool.false_eq_true, if_false, Nat.shiftLeft_eq]
    have : ¬ ((compare ((m * 2 ^ (e + 1074).toNat : Nat) : Int) ((9007199254740991 * 2 ^ T : Nat) : Int)) = .gt) := by
      generalize m * 2 ^ (e + 1074).toNat = A at hle ⊢
      generalize 9007199254740991 * 2 ^ T = C at hle ⊢
      simp only [compare, compareOfLessAndEq]
      split
      · simp
      · split
        · simp
        · omega
    generalize compare ((m * 2 ^ (e + 1074).toNat : Nat) : Int) ((9007199254740991 * 2 ^ T : Nat) : Int) = o at this
    cases o <;> simp_all
end Go.Proofs.Ytfbdmhkmkmbipaa.Fl
namespace Go.Proofs.Ytfbdmhkmkmbipaa.Fl
open Ieee
section
variable {P : Program} {o : Oper} {a : Act} {w : World} {K : Act → World → Prop} {Q : Exit → Act → World → Prop}
theorem up_ar {op : BinOp} {t : TypeId} {k : FloatKind} {x y : Nat} (hop : arOp op = true)
    (h : ∀ r n, Is k r (ar op k x y) → K (a.put o.dst (.float k r)) (w.drewN n)) :
    o.upon P a K Q ((Sem.run P (binOp op t (.float k x) (.float k y)) w).andThen fun v w' => .ok (.value v) w') := by
  obtain ⟨r, n, hr, his⟩ := run_ar (P := P) op hop t k x y w
  rw [hr]
  exact h r n his
theorem up_wide {src dst : TypeId} {x : Nat} (hs : (P.underlying src).isSome = true) (hd : P.underlying dst = some (.float .f64))
    (h : ∀ r n, Is .f64 r (wi x) → K (a.put o.dst (.float .f64 r)) (w.drewN n)) :
    o.upon P a K Q ((Sem.run P (convert src dst (.float .f32 x)) w).andThen fun v w' => .ok (.value v) w') := by
  obtain ⟨r, n, hr, his⟩ := run_wide (P := P) src dst hs hd x w
  rw [hr]
  exact h r n his
theorem up_narrow {src dst : TypeId} {x : Nat} (hs : (P.underlying src).isSome = true) (hd : P.underlying dst = some (.float .f32)) (hx : naOk x = true)
    (h : ∀ r n, Is .f32 r (na x) → K (a.put o.dst (.float .f32 r)) (w.drewN n)) :
    o.upon P a K Q ((Sem.run P (convert src dst (.float .f64 x)) w).andThen fun v w' => .ok (.value v) w') := by
  obtain ⟨r, n, hr, his⟩ := run_narrow (P := P) src dst hs hd x hx w
  rw [hr]
  exact h r n his
theorem up_same {src dst : TypeId} {k : FloatKind} {x : Nat} (hs : (P.underlying src).isSome = true) (hd : P.underlying dst = some (.float k))
    (h : K (a.put o.dst (.float k x)) w) :
    o.upon P a K Q ((Sem.run P (convert src dst (.float k x)) w).andThen fun v w' => .ok (.value v) w') := by
  rw [run_convert_float_float (P := P) w src dst k k x x hs hd (by unfold floatToFloatBits; rw [if_pos rfl])]
  exact h
end
end Go.Proofs.Ytfbdmhkmkmbipaa.Fl
namespace Go.Proofs.Ytfbdmhkmkmbipaa.Fl
open Ieee
theorem abs_bits (x : Nat) (hx : x < 2 ^ 64) : (bits .andNot .u64 (x : Int) 9223372036854775808).toNat = x % 2 ^ 63 := by
  have h := u64_andNot_nat x 9223372036854775808 (by simpa using hx) (by decide)
  have h' : bits .andNot .u64 (x : Int) 9223372036854775808 = ((x &&& (18446744073709551615 - 9223372036854775808) : Nat) : Int) := h
  rw [h', Int.toNat_natCast]
  have : (18446744073709551615 - 9223372036854775808 : Nat) = 2 ^ 63 - 1 := by decide
  rw [this, Nat.and_two_pow_sub_one_eq_mod]
end Go.Proofs.Ytfbdmhkmkmbipaa.Fl
