/-
  More on floats: what is worth the same, the square root (no program in it).
-/
import Derived.Test.YtfbdmhkmkmbipaaFlo
namespace Go.Proofs.Ytfbdmhkmkmbipaa.Fl
open Go.RowKit Ieee
theorem neq_self (k : FloatKind) (x : Nat) : (k.format.order x x != some .eq) = isN k x := by
  rw [order_self]; cases isN k x <;> rfl
theorem grown_drewN {W w : World} (h : Grown W w) (n : Nat) : Grown W (w.drewN n) := h
theorem isN_of_is {k : FloatKind} {r c : Nat} (h : Is k r c) : isN k r = isN k c := by rw [← h.1, isN_cn]
theorem order_is_l {k : FloatKind} {r c : Nat} (h : Is k r c) (y : Nat) : k.format.order r y = k.format.order c y := by rw [← h.1, order_cn_l]
theorem order_is_r {k : FloatKind} {r c : Nat} (h : Is k r c) (y : Nat) : k.format.order y r = k.format.order y c := by rw [← h.1, order_cn_r]
theorem fin_is {k : FloatKind} {r c : Nat} (h : Is k r c) : finB k r = finB k c := by rw [← h.1, finB_cn]
def infB (b : Nat) : Bool := match Ieee.double.read b with | .infinity _ => true | _ => false
theorem gt_max' (b : Nat) : (FloatKind.f64.format.order (b % 2 ^ 63) 9218868437227405311 == some .gt) = infB b := gt_max b
theorem fin_parts (x : Nat) : finB .f64 x = (!isN .f64 x && !infB x) := by
  unfold finB infB isN
  show (match Ieee.double.read x with | .number .. => true | _ => false) = (!(Ieee.double.read x).isNaN && _)
  cases Ieee.double.read x <;> rfl
/-- An operation on what is worth the same is worth the same. -/
theorem ar_is {op : BinOp} {k : FloatKind} {r s c d : Nat} (h1 : Is k r c) (h2 : Is k s d) : ar op k r s = ar op k c d := by
  rw [← ar_cn_l op k r s, h1.1, ← ar_cn_r op k c s, h2.1]
theorem ar_is_l {op : BinOp} {k : FloatKind} {r c : Nat} (h1 : Is k r c) (s : Nat) : ar op k r s = ar op k c s := by
  rw [← ar_cn_l op k r s, h1.1]
theorem ar_is_r {op : BinOp} {k : FloatKind} {s d : Nat} (r : Nat) (h2 : Is k s d) : ar op k r s = ar op k r d := by
  rw [← ar_cn_r op k r s, h2.1]
theorem cn_ar (op : BinOp) (k : FloatKind) (x y : Nat) : cn k (ar op k x y) = ar op k x y := by
  unfold ar
  cases h : floatBits op k (cn k x) (cn k y) with
  | none => exact cn_of_nan (isN_qn k)
  | some r => exact cn_of_not (bits_not h)
theorem Is.self {k : FloatKind} {c : Nat} (h : cn k c = c) (hb : c < 2 ^ k.format.width) : Is k c c := ⟨h, hb⟩
theorem na_is {r c : Nat} (h : Is .f64 r c) : na r = na c := by rw [← na_cn r, h.1]
theorem naOk_is {r c : Nat} (h : Is .f64 r c) : naOk r = naOk c := by rw [← naOk_cn r, h.1]

/-! ### the square root -/
def sq (x : Nat) : Nat := (double.sqrt (cn .f64 x)).getD (qn .f64)
theorem sqrt_nan {x : Nat} (h : isN .f64 x = true) : double.sqrt x = none := by
  obtain ⟨s, t, h⟩ := read_nan h
  unfold Format.sqrt
  rw [show double.read x = .nan s t from h]; rfl
theorem sqrt_cn (x : Nat) : double.sqrt (cn .f64 x) = double.sqrt x := by
  by_cases hx : isN .f64 x
  · rw [sqrt_nan hx, sqrt_nan (by rw [isN_cn]; exact hx)]
  · rw [cn_of_not (by simpa using hx)]
theorem sq_is {r c : Nat} (h : Is .f64 r c) : sq r = sq c := by unfold sq; rw [h.1, ← h.1, cn_cn]
def sqR (x : Nat) (w : World) : Nat := match double.sqrt x with | some r => r | none => (Question.nanBits .f64 x x).cut (w.tape w.drawn (.nanBits .f64 x x))
def sqN (x : Nat) : Nat := match double.sqrt x with | some _ => 0 | none => 1
theorem run_sqrt {P : Program} (x : Nat) (w : World) : (Extern.MathSqrt.sqrt #[.float .f64 x]).run P w = .ok (.float .f64 (sqR x w)) (w.drewN (sqN x)) := by
  show Sem.run P (match double.sqrt x with
    | some r => pure (Value.float .f64 r)
    | none => do pure (Value.float .f64 (← choose (.nanBits .f64 x x)))) w = _
  unfold sqR sqN
  cases double.sqrt x <;> rfl
theorem sqR_is (x : Nat) (w : World) : Is .f64 (sqR x w) (sq x) := by
  unfold sqR sq
  rw [sqrt_cn]
  cases h : double.sqrt x with
  | none => exact ⟨cn_of_nan (cut_nanBits _ _ _ _).1, (cut_nanBits _ _ _ _).2⟩
  | some r =>
    refine ⟨cn_of_not ?_, double.sqrt_lt h⟩
    unfold Format.sqrt at h
    simp only [Option.map_eq_some_iff] at h
    obtain ⟨d, hd, rfl⟩ := h
    exact read_write _ _ (root_not hd)
theorem rootFrom_le (n : Nat) : ∀ todo root, root * root ≤ n → Datum.rootFrom n todo root * Datum.rootFrom n todo root ≤ n
  | 0, root, h => h
  | todo + 1, root, h => by
    unfold Datum.rootFrom
    simp only []
    split
    · rename_i h'; exact rootFrom_le n todo _ h'
    · exact rootFrom_le n todo _ h
theorem Bd.sqrt {x r : Nat} {q : Int} (hx : Bd .f64 x (2 * q)) (hr : double.sqrt x = some r) (h1 : -1022 ≤ q) (h2 : q ≤ 1023) : Bd .f64 r q := by
  obtain ⟨s, m, i, hd, hv⟩ := hx
  have hd' : double.read x = .number s m i := hd
  unfold Format.sqrt at hr
  rw [hd'] at hr
  unfold Datum.root at hr
  simp only [] at hr
  by_cases hm : m = 0
  · rw [if_pos hm] at hr
    simp only [Option.map_some, Option.some.injEq] at hr
    subst hr
    subst hm
    exact Bd.write (k := .f64) (V.zero _ _) h1 h2
  · rw [if_neg hm] at hr
    cases s with
    | true => simp at hr
    | false =>
      simp only [Bool.false_eq_true, if_false, Option.map_some, Option.some.injEq] at hr
      subst hr
      refine Bd.write (k := .f64) ?_ h1 h2
      generalize hmo : 2 * (double.fractionBits + 2) - m.log2 = mo
      generalize hmore : mo + ((i - (mo : Int)) % 2).toNat = more
      generalize hn : m <<< more = n
      have hw := rootFrom_le n (n.log2 / 2 + 1) 0 (Nat.zero_le _)
      generalize Datum.rootFrom n (n.log2 / 2 + 1) 0 = whole at hw
      have hev : (i - more) % 2 = 0 := by omega
      obtain ⟨p, hp⟩ : ∃ p : Int, i - more = 2 * p := ⟨(i - more) / 2, by omega⟩
      have hp2 : (i - (more : Int)) / 2 = p := by omega
      rw [hp2]
      rw [Nat.shiftLeft_eq] at hn
      -- n ≤ X * X where X = 2 ^ (q - p)
      obtain ⟨b, b1, b2, hb⟩ := hv
      have hge : p ≤ q := by
        refine Int.not_lt.1 fun hlt => ?_
        have h3 : 1 * 2 ^ (i - b).toNat ≤ m * 2 ^ (i - b).toNat := Nat.mul_le_mul_right _ (by omega)
        have h4 : 2 ^ (i - b).toNat ≤ 2 ^ (2 * q - b).toNat := by omega
        have h5 := (Nat.pow_le_pow_iff_right (a := 2) (by decide)).1 h4
        omega
      have hX : n ≤ 2 ^ (q - p).toNat * 2 ^ (q - p).toNat := by
        have hpos : 0 < 2 ^ (i - b).toNat := Nat.pow_pos (by decide)
        refine Nat.le_of_mul_le_mul_right ?_ hpos
        rw [← hn]
        calc m * 2 ^ more * 2 ^ (i - b).toNat = (m * 2 ^ (i - b).toNat) * 2 ^ more := by ac_rfl
          _ ≤ 2 ^ (2 * q - b).toNat * 2 ^ more := Nat.mul_le_mul_right _ hb
          _ = 2 ^ ((2 * q - b).toNat + more) := by rw [Nat.pow_add]
          _ = 2 ^ ((q - p).toNat + (q - p).toNat + (i - b).toNat) := by congr 1; omega
          _ = _ := by rw [Nat.pow_add, Nat.pow_add]
      generalize hXX : 2 ^ (q - p).toNat = X at hX
      have hwX : whole ≤ X := by
        refine Nat.le_of_not_lt fun hlt => ?_
        have : X * X < whole * whole := Nat.mul_lt_mul'' hlt hlt
        omega
      have hmag : 2 * whole + (whole * whole != n).toNat ≤ 2 * X := by
        have hb1 : ∀ b : Bool, b.toNat ≤ 1 := fun b => by cases b <;> simp
        by_cases he : whole = X
        · have : whole * whole = n := by rw [he] at hw ⊢; omega
          rw [this]; simp [he]
        · have := hb1 (whole * whole != n)
          omega
      refine ⟨min (p - 1) q, by omega, by omega, ?_⟩
      refine Nat.le_trans (Nat.mul_le_mul_right _ hmag) ?_
      rw [← hXX]
      have h22 : 2 * 2 ^ (q - p).toNat = 2 ^ ((q - p).toNat + 1) := by rw [Nat.pow_succ]; omega
      rw [h22, ← Nat.pow_add]
      exact Nat.pow_le_pow_right (by decide) (by omega)
end Go.Proofs.Ytfbdmhkmkmbipaa.Fl
namespace Go.Proofs.Ytfbdmhkmkmbipaa.Fl
open Ieee
theorem wi_bound (x : Nat) : (∃ s, double.read (wi x) = .infinity s) ∨ isN .f64 (wi x) = true ∨ Bd .f64 (wi x) 128 := by
  have hs := wi_same x
  rcases read_single x with ⟨s, m, e, hr, hm, h1, h2⟩ | ⟨s, hr⟩ | ⟨s, t, hr⟩
  · refine .inr (.inr ?_)
    rw [hr] at hs
    have hv : V m e 128 := by
      refine ⟨-149, h1, by omega, ?_⟩
      obtain ⟨T, hT⟩ : ∃ T : Nat, T = 253 := ⟨_, rfl⟩
      have e1 : (128 - (-149 : Int)).toNat = 24 + T := by omega
      rw [e1, Nat.pow_add]
      exact Nat.mul_le_mul (Nat.le_of_lt hm) (Nat.pow_le_pow_right (by decide) (by omega))
    cases hd : double.read (wi x) with
    | number s' m' e' =>
      rw [hd] at hs
      refine ⟨s', m', e', hd, ?_⟩
      cases hs with
      | num _ _ _ k =>
        obtain ⟨c, c1, c2, hc⟩ := hv
        refine ⟨min (e - k) c, by omega, by omega, ?_⟩
        rw [Nat.shiftLeft_eq]
        obtain ⟨d, hdd⟩ : ∃ d : Nat, min (e - k) c + d = c := ⟨(c - min (e - k) c).toNat, by omega⟩
        calc m * 2 ^ k * 2 ^ (e - k - min (e - k) c).toNat = m * 2 ^ (k + (e - k - min (e - k) c).toNat) := by rw [Nat.mul_assoc, ← Nat.pow_add]
          _ = m * 2 ^ ((e - c).toNat + d) := by congr 2; omega
          _ = m * 2 ^ (e - c).toNat * 2 ^ d := by rw [Nat.pow_add, Nat.mul_assoc]
          _ ≤ 2 ^ (128 - c).toNat * 2 ^ d := Nat.mul_le_mul_right _ hc
          _ = 2 ^ (128 - min (e - k) c).toNat := by rw [← Nat.pow_add]; congr 1; omega
      | zero => exact V.zero _ _
    | infinity _ => rw [hd] at hs; cases hs
    | nan _ _ => rw [hd] at hs; cases hs
  · rw [hr] at hs
    refine .inl ⟨s, ?_⟩
    generalize double.read (wi x) = d at hs
    cases hs; rfl
  · refine .inr (.inl ?_)
    rw [isN_wi]; show (single.read x).isNaN = true; rw [hr]; rfl
theorem naOk_inf {x : Nat} {s : Bool} (h : double.read x = .infinity s) : naOk x = true := by
  unfold naOk
  have : (floatToFloatBits .f64 x .f32).isSome = true := by
    unfold floatToFloatBits
    rw [if_neg (by decide), show FloatKind.f64.decode x = .infinity s from h]; rfl
  rw [this]; simp
theorem naOk_nan {x : Nat} (h : isN .f64 x = true) : naOk x = true := by unfold naOk; rw [h]; rfl
/-- The root of a 32-bit number is not too great for 32 bits. -/
theorem naOk_sq (x : Nat) : naOk (sq (wi x)) = true := by
  unfold sq
  rw [cn_wi]
  cases h : double.sqrt (wi x) with
  | none => exact naOk_nan (isN_qn .f64)
  | some r =>
    rcases wi_bound x with ⟨s, hr⟩ | hn | hb
    · unfold Format.sqrt at h
      rw [hr] at h
      unfold Datum.root at h
      simp only [] at h
      cases s with
      | true => simp at h
      | false =>
        simp only [Bool.false_eq_true, if_false, Option.map_some, Option.some.injEq] at h
        subst h
        exact naOk_inf (s := false) (read_inf false)
    · rw [sqrt_nan hn] at h; cases h
    · exact (Bd.naOk (n := 64) (Bd.sqrt (q := 64) hb h (by decide) (by decide)) (by decide) (by decide)).1
end Go.Proofs.Ytfbdmhkmkmbipaa.Fl
