/-
  How small a number can be; quotients of at most 1 (no program in it).
-/
import Derived.Test.YtpckljkhmaghmaaFloQuart
import Derived.Test.YtpckljkhmaghmaaFloSub
namespace Go.Proofs.Ytpckljkhmaghmaa.Fl
open Ieee
/-! ### how small a number can be -/
theorem cut_ge {n drop C : Nat} (s : Bool) (h : C * 2 ^ drop ≤ n) : C ≤ Toward.even.cut s n drop := by
  unfold Toward.cut
  simp only [Nat.one_shiftLeft]
  refine Nat.le_trans ?_ (Nat.le_add_right _ _)
  by_cases hd : drop ≤ n.log2 + 2
  · rw [Nat.min_eq_left hd]
    exact (Nat.le_div_iff_mul_le (Nat.pow_pos (by decide))).2 h
  · have hn := log2_pow_lt n
    have h2 : n < 2 ^ drop := Nat.lt_of_lt_of_le hn (Nat.pow_le_pow_right (by decide) (by omega))
    have hC : C = 0 := by
      rcases Nat.eq_zero_or_pos C with h0 | h0
      · exact h0
      · have : 1 * 2 ^ drop ≤ C * 2 ^ drop := Nat.mul_le_mul_right _ h0
        omega
    rw [hC]; exact Nat.zero_le _
theorem nearest_rung_ge (s : Bool) (M : Nat) (p n : Int) (h : ∃ c : Int, c ≤ p ∧ c ≤ n ∧ 2 ^ (n - c).toNat ≤ M * 2 ^ (p - c).toNat) (h1 : -1022 ≤ n) (h2 : n ≤ 1023) :
    top double n ≤ double.nearest s M p % double.signWeight := by
  have hinf := double.infRung_lt
  have htop := highest_lt .f64 (n := n) h2
  replace htop : top double n < double.infRung := htop
  obtain ⟨c, c1, c2, hc⟩ := h
  have h0 : M ≠ 0 := by
    rintro rfl
    rw [Nat.zero_mul] at hc
    have : 0 < 2 ^ (n - c).toNat := Nat.pow_pos (by decide)
    omega
  have hlo : 2 ^ M.log2 ≤ M := Nat.log2_self_le h0
  have hhi := log2_pow_lt M
  have hL : n ≤ p + M.log2 := by
    refine Int.not_lt.1 fun hlt => ?_
    have h3 : M * 2 ^ (p - c).toNat < 2 ^ (M.log2 + 1) * 2 ^ (p - c).toNat := Nat.mul_lt_mul_of_pos_right hhi (Nat.pow_pos (by decide))
    rw [← Nat.pow_add] at h3
    have h4 := Nat.lt_of_le_of_lt hc h3
    have h5 := (Nat.pow_lt_pow_iff_right (a := 2) (by decide)).1 h4
    omega
  unfold Format.nearest
  rw [if_neg h0]
  simp only []
  have hF : (double.fractionBits : Int) = 52 := rfl
  rw [dbl_lp, dbl_bi, hF]
  have hlast : max (p + (M.log2 : Int) - 52) (-1074) = p + M.log2 - 52 := by omega
  rw [hlast]
  generalize hk : Toward.even.cut s (M <<< (p - (p + (M.log2 : Int) - 52)).toNat) (p + (M.log2 : Int) - 52 - p).toNat = kept
  rw [(word_rung double s _ (Nat.lt_of_le_of_lt (Nat.min_le_right _ _) hinf)).1]
  have hkept : 2 ^ 52 ≤ kept := by
    rw [← hk]
    refine cut_ge s ?_
    rw [Nat.shiftLeft_eq, ← Nat.pow_add]
    calc 2 ^ (52 + (p + (M.log2 : Int) - 52 - p).toNat) = 2 ^ (M.log2 + (p - (p + (M.log2 : Int) - 52)).toNat) := by congr 1; omega
      _ = 2 ^ M.log2 * 2 ^ (p - (p + (M.log2 : Int) - 52)).toNat := by rw [Nat.pow_add]
      _ ≤ _ := Nat.mul_le_mul_right _ hlo
  refine Nat.le_min.2 ⟨?_, Nat.le_of_lt htop⟩
  unfold top
  rw [dbl_lp, dbl_bi, hF]
  obtain ⟨d, hd⟩ : ∃ d : Nat, (p + (M.log2 : Int) - 52 - -1074).toNat + 1 = (n - -1074 - 52 + 1).toNat + d := ⟨(p + (M.log2 : Int) - 52 - -1074).toNat + 1 - (n - -1074 - 52 + 1).toNat, by omega⟩
  have h3 : ((p + (M.log2 : Int) - 52 - -1074).toNat + 1) * 2 ^ 52 = ((n - -1074 - 52 + 1).toNat + d) * 2 ^ 52 := by rw [hd]
  rw [Nat.add_mul, Nat.add_mul, Nat.one_mul] at h3
  generalize (2 : Nat) ^ 52 = B at *
  generalize (n - -1074 - 52 + 1).toNat * B = X at *
  generalize (p + (M.log2 : Int) - 52 - -1074).toNat * B = Y at *
  generalize d * B = Z at *
  omega
theorem read_ge {b : Nat} {n : Int} {s : Bool} {m : Nat} {e : Int} (h : top double n ≤ b % double.signWeight) (hr : double.read b = .number s m e) (h1 : -1022 ≤ n) : ∃ c : Int, c ≤ e ∧ c ≤ n ∧ 2 ^ (n - c).toNat ≤ m * 2 ^ (e - c).toNat := by
  unfold Format.read at hr
  simp only [] at hr
  unfold top at h
  have hF : (double.fractionBits : Int) = 52 := rfl
  rw [dbl_lp, dbl_bi, hF, dbl_sw] at h
  rw [dbl_sw, dbl_bi, dbl_inf, dbl_lp] at hr
  generalize b % 2 ^ 63 = r at h hr
  generalize hT : (n - -1074 - 52 + 1).toNat = T at h
  have hBp : 0 < (2 : Nat) ^ 52 := Nat.pow_pos (by decide)
  have hT1 : 1 ≤ T := by omega
  have hrB : 1 * 2 ^ 52 ≤ T * 2 ^ 52 := Nat.mul_le_mul_right _ hT1
  rw [if_neg (by omega)] at hr
  split at hr
  · simp only [Datum.number.injEq] at hr
    obtain ⟨_, rfl, rfl⟩ := hr
    have hq : T ≤ r / 2 ^ 52 := (Nat.le_div_iff_mul_le hBp).2 h
    refine ⟨-1074, by omega, by omega, ?_⟩
    have e1 : (-1074 + ((r / 2 ^ 52 - 1 : Nat) : Int) - -1074).toNat = r / 2 ^ 52 - 1 := by omega
    have e2 : (n - -1074).toNat = 52 + (T - 1) := by omega
    rw [e1, e2, Nat.pow_add]
    exact Nat.mul_le_mul (Nat.le_add_right _ _) (Nat.pow_le_pow_right (by decide) (by omega))
  · split at hr <;> cases hr
theorem nearest_false_lt (f : Format) (m : Nat) (p : Int) : f.nearest false m p < f.signWeight := by
  have hinf := f.infRung_lt
  have hw : ∀ r, f.word false r = r := fun r => by unfold Format.word; simp
  unfold Format.nearest
  split
  · rw [hw]; omega
  · simp only []
    rw [hw]
    exact Nat.lt_of_le_of_lt (Nat.min_le_right _ _) hinf
theorem sign_of_lt {f : Format} {b : Nat} (h : b < f.signWeight) : (b / f.signWeight % 2 == 1) = false := by
  rw [Nat.div_eq_of_lt h]; rfl
/-- Not less than nothing. -/
def NN (b : Nat) : Prop := ∃ s m, ∃ e : Int, double.read b = .number s m e ∧ (s = false ∨ m = 0)
theorem nn_mod {b : Nat} (h : finB .f64 b = true) : NN (b % 2 ^ 63) := by
  unfold finB at h
  cases hr : FloatKind.f64.format.read b with
  | number s m e => exact ⟨false, m, e, by rw [read_mod, show double.read b = .number s m e from hr], .inl rfl⟩
  | infinity s => rw [hr] at h; cases h
  | nan s t => rw [hr] at h; cases h
theorem one_plus {y : Nat} (hy : NN y) (hb : Bd .f64 y 1000) : Lo .f64 (ar .add .f64 one y) 0 ∧ NN (ar .add .f64 one y) := by
  obtain ⟨t, n, j, hr, hs⟩ := hy
  have hone : double.read one = .number false 4503599627370496 (-52) := by decide
  have hbd := Bd.add (bd_one.mono (by decide : (0 : Int) ≤ 1000)) hb (by decide) (by decide)
  have hnn : signed t n (j - min (-52) j).toNat = ((n * 2 ^ (j - min (-52) j).toNat : Nat) : Int) := by
    rcases hs with rfl | rfl
    · unfold signed; simp only [Bool.false_eq_true, if_false, Nat.shiftLeft_eq]
    · rw [signed_zero]; simp
  have hT : signed false 4503599627370496 (-52 - min (-52) j).toNat + signed t n (j - min (-52) j).toNat = ((4503599627370496 * 2 ^ (-52 - min (-52) j).toNat + n * 2 ^ (j - min (-52) j).toNat : Nat) : Int) := by
    rw [hnn]; unfold signed; simp only [Bool.false_eq_true, if_false, Nat.shiftLeft_eq]; omega
  have hbits : floatBits .add .f64 one y = some (double.nearest false (4503599627370496 * 2 ^ (-52 - min (-52) j).toNat + n * 2 ^ (j - min (-52) j).toNat) (min (-52) j)) := by
    show double.add one y = _
    unfold Format.add
    rw [hone, hr]
    show some (double.write (.number (if signed false 4503599627370496 (-52 - min (-52) j).toNat + signed t n (j - min (-52) j).toNat = 0 then false && t else decide (signed false 4503599627370496 (-52 - min (-52) j).toNat + signed t n (j - min (-52) j).toNat < 0)) (signed false 4503599627370496 (-52 - min (-52) j).toNat + signed t n (j - min (-52) j).toNat).natAbs (min (-52) j))) = _
    rw [hT]
    have hp : 0 < 2 ^ (-52 - min (-52) j).toNat := Nat.pow_pos (by decide)
    rw [if_neg (by omega), decide_eq_false (by omega), Int.natAbs_natCast]; rfl
  rw [ar_some hbits] at hbd ⊢
  have hge := nearest_rung_ge false (4503599627370496 * 2 ^ (-52 - min (-52) j).toNat + n * 2 ^ (j - min (-52) j).toNat) (min (-52) j) 0
    ⟨min (-52) j, by omega, by omega, by
      have e1 : (min (-52) j - min (-52) j).toNat = 0 := by omega
      have e2 : (0 - min (-52) j).toNat = 52 + (-52 - min (-52) j).toNat := by omega
      have hC : (2 : Nat) ^ 52 = 4503599627370496 := by decide
      rw [e1, e2, Nat.pow_zero, Nat.mul_one, Nat.pow_add, hC]; omega⟩ (by decide) (by decide)
  obtain ⟨s', m', e', hr', _⟩ := hbd
  replace hr' : double.read _ = .number s' m' e' := hr'
  have hsg := read_sign double _ s' m' e' hr'
  have hsf : s' = false := by
    rw [← hsg]
    exact sign_of_lt (nearest_false_lt _ _ _)
  exact ⟨⟨s', m', e', hr', read_ge hge hr' (by decide)⟩, ⟨s', m', e', hr', .inl hsf⟩⟩
theorem nn_sq {x r : Nat} (h : double.sqrt x = some r) (hf : finB .f64 r = true) : NN r := by
  unfold Format.sqrt at h
  simp only [Option.map_eq_some_iff] at h
  obtain ⟨d, hd, rfl⟩ := h
  unfold Datum.root at hd
  have hz : ∀ (s : Bool) (m : Nat) (e : Int), m = 0 ∨ s = false → NN (double.write (.number s m e)) ∨ finB .f64 (double.write (.number s m e)) = false := by
    intro s m e hsm
    cases hfb : finB .f64 (double.write (.number s m e)) with
    | false => exact .inr rfl
    | true =>
      refine .inl ?_
      unfold finB at hfb
      cases hrr : double.read (double.write (.number s m e)) with
      | number s' m' e' =>
        refine ⟨s', m', e', hrr, ?_⟩
        rcases hsm with rfl | rfl
        · have := read_zero64 s e
          rw [show double.write (.number s 0 e) = double.nearest s 0 e from rfl, this] at hrr
          simp only [Datum.number.injEq] at hrr
          exact .inr hrr.2.1.symm
        · refine .inl ?_
          have hsg := read_sign double _ s' m' e' hrr
          rw [← hsg]
          exact sign_of_lt (nearest_false_lt _ _ _)
      | infinity s' => rw [show FloatKind.f64.format.read _ = _ from hrr] at hfb; cases hfb
      | nan s' t => rw [show FloatKind.f64.format.read _ = _ from hrr] at hfb; cases hfb
  have fin : ∀ (s : Bool) (m : Nat) (e : Int), m = 0 ∨ s = false → finB .f64 (double.write (.number s m e)) = true → NN (double.write (.number s m e)) := by
    intro s m e h1 h2
    rcases hz s m e h1 with h | h
    · exact h
    · rw [h] at h2; cases h2
  cases hx : double.read x with
  | nan s t => rw [hx] at hd; cases hd
  | infinity s =>
    rw [hx] at hd
    cases s with
    | true => cases hd
    | false =>
      cases hd
      have : finB .f64 (double.write (.infinity false)) = false := by decide
      rw [this] at hf; cases hf
  | number s m i =>
    rw [hx] at hd
    simp only [] at hd
    by_cases h0 : m = 0
    · rw [if_pos h0] at hd
      cases hd
      exact fin s m i (.inl h0) hf
    · rw [if_neg h0] at hd
      cases s with
      | true => simp at hd
      | false =>
        simp only [Bool.false_eq_true, if_false, Option.some.injEq] at hd
        subst hd
        exact fin false _ _ (.inr rfl) hf
/-- The lesser over the greater: at most 1. -/
theorem quo_one {x y : Nat} {s t : Bool} {m n : Nat} {i j : Int} (hx : double.read x = .number s m i) (hy : double.read y = .number t n j) (hn : n ≠ 0) (hle : m * 2 ^ (i - min i j).toNat ≤ n * 2 ^ (j - min i j).toNat) :
    Bd .f64 (ar .quo .f64 x y) 0 := by
  generalize hmore : (double.fractionBits + 2) + n.log2 - m.log2 = more
  have hw : floatBits .quo .f64 x y = some (double.write (.number (s ^^ t) (2 * ((m <<< more) / n) + ((m <<< more) % n != 0).toNat) (i - j - more - 1))) := by
    show double.div x y = _
    unfold Format.div
    rw [hx, hy]
    show Option.map double.write (if n = 0 then _ else _) = _
    rw [if_neg hn]
    simp only [hmore, Option.map_some]
  rw [ar_some hw]
  refine Bd.write (k := .f64) ?_ (by decide) (by decide)
  rw [Nat.shiftLeft_eq]
  by_cases hneg : 0 ≤ j - i + more
  · have hX : m * 2 ^ more ≤ 2 ^ (j - i + more).toNat * n := by
      have hp : 0 < 2 ^ (i - min i j).toNat := Nat.pow_pos (by decide)
      refine Nat.le_of_mul_le_mul_right ?_ hp
      calc m * 2 ^ more * 2 ^ (i - min i j).toNat = (m * 2 ^ (i - min i j).toNat) * 2 ^ more := by ac_rfl
        _ ≤ n * 2 ^ (j - min i j).toNat * 2 ^ more := Nat.mul_le_mul_right _ hle
        _ = n * 2 ^ ((j - min i j).toNat + more) := by rw [Nat.mul_assoc, ← Nat.pow_add]
        _ = n * 2 ^ ((j - i + more).toNat + (i - min i j).toNat) := by congr 2; omega
        _ = _ := by rw [Nat.pow_add]; ac_rfl
    have hq := quo_le (by omega) hX
    refine ⟨min (i - j - more - 1) 0, by omega, by omega, ?_⟩
    refine Nat.le_trans (Nat.mul_le_mul_right _ hq) ?_
    have h22 : 2 * 2 ^ (j - i + more).toNat = 2 ^ ((j - i + more).toNat + 1) := by rw [Nat.pow_succ]; omega
    rw [h22, ← Nat.pow_add]
    exact Nat.pow_le_pow_right (by decide) (by omega)
  · by_cases hm : m = 0
    · subst hm
      simp only [Nat.zero_mul, Nat.zero_div, Nat.zero_mod]
      exact V.zero _ _
    · exfalso
      have hlo : 2 ^ m.log2 ≤ m := Nat.log2_self_le hm
      have hhi := log2_pow_lt n
      have e1 : min i j = j := by omega
      have e2 : (j - j).toNat = 0 := by omega
      rw [e1, e2, Nat.pow_zero, Nat.mul_one] at hle
      have h3 : 2 ^ (m.log2 + (i - j).toNat) ≤ m * 2 ^ (i - j).toNat := by rw [Nat.pow_add]; exact Nat.mul_le_mul_right _ hlo
      have h4 : 2 ^ (m.log2 + (i - j).toNat) < 2 ^ (n.log2 + 1) := by omega
      have h5 := (Nat.pow_lt_pow_iff_right (a := 2) (by decide)).1 h4
      omega
end Go.Proofs.Ytpckljkhmaghmaa.Fl
