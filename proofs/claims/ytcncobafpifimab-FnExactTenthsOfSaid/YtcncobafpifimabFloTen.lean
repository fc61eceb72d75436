/-
  Tenths of decibels as a plain function, and their bound (no program in it).
-/
import Derived.Test.YtcncobafpifimabFloLog
namespace Go.Proofs.Ytcncobafpifimab.Fl
open Ieee
/-! ### a better bound, and tenths -/
theorem nrm_sub_one {z m : Nat} {e : Int} (h : Nrm z m e) (h2 : e ≤ -52) (h3 : -53 ≤ e) : Bd .f64 (ar .sub .f64 z one) 0 := by
  obtain ⟨hr, _, hm⟩ := h
  have hone : double.read one = .number false 4503599627370496 (-52) := by decide
  have hw : floatBits .sub .f64 z one = some (double.write (.number (if signed false m (e - min e (-52)).toNat + signed (!false) 4503599627370496 (-52 - min e (-52)).toNat = 0 then false && !false else decide (signed false m (e - min e (-52)).toNat + signed (!false) 4503599627370496 (-52 - min e (-52)).toNat < 0)) (signed false m (e - min e (-52)).toNat + signed (!false) 4503599627370496 (-52 - min e (-52)).toNat).natAbs (min e (-52)))) := by
    show double.sub z one = _
    unfold Format.sub; rw [hr, hone]; rfl
  rw [ar_some hw]
  refine Bd.write (k := .f64) ?_ (by decide) (by decide)
  have h53 : (2 : Nat) ^ 53 = 9007199254740992 := by decide
  rw [h53] at hm
  unfold signed
  simp only [Bool.not_false, Bool.false_eq_true, if_false, if_true, Nat.shiftLeft_eq]
  rcases (show e = -53 ∨ e = -52 by omega) with rfl | rfl
  · refine ⟨-53, by decide, by decide, ?_⟩
    have e1 : ((-53 : Int) - min (-53) (-52)).toNat = 0 := by decide
    have e2 : ((-52 : Int) - min (-53) (-52)).toNat = 1 := by decide
    have e3 : (min (-53) (-52) - (-53 : Int)).toNat = 0 := by decide
    have e4 : ((0 : Int) - (-53)).toNat = 53 := by decide
    rw [e1, e2, e3, e4, h53]
    omega
  · refine ⟨-52, by decide, by decide, ?_⟩
    have e1 : ((-52 : Int) - min (-52) (-52)).toNat = 0 := by decide
    have e3 : (min (-52) (-52) - (-52 : Int)).toNat = 0 := by decide
    have e4 : ((0 : Int) - (-52)).toNat = 52 := by decide
    have h52 : (2 : Nat) ^ 52 = 4503599627370496 := by decide
    rw [e1, e3, e4, h52]
    omega
theorem polL_bd0 {u : Nat} (hu : Bd .f64 u 0) : ∀ j : Nat, j ≤ 13 → Bd .f64 (polL u j) (j : Int)
  | 0, _ => bd_zero 0 (by decide) (by decide)
  | j + 1, hj => by
    have ih := polL_bd0 hu j (by omega)
    have hd : Lo .f64 (floatOfInt .f64 (25 - 2 * (j : Int))) 0 := by
      have hx : ∀ n : Nat, 1 ≤ n → n < 26 → Lo .f64 (floatOfInt .f64 (n : Int)) 0 := by
        intro n h1 h2
        have hw := wide_exact false n 0 (by omega) (by have : (26 : Nat) < 2 ^ 53 := by decide
                                                       omega) (by decide) (by decide)
        have hf : floatOfInt .f64 (n : Int) = double.nearest false n 0 := by
          have : decide ((n : Int) < 0) = false := decide_eq_false (by omega)
          show double.nearest (decide ((n : Int) < 0)) (n : Int).natAbs 0 = _
          rw [this, Int.natAbs_natCast]
        rw [hf]
        refine ⟨false, _, _, hw, 0 - ((52 - n.log2 : Nat) : Int), by omega, by omega, ?_⟩
        have e1 : (0 - ((52 - n.log2 : Nat) : Int) - (0 - ((52 - n.log2 : Nat) : Int))).toNat = 0 := by omega
        have e2 : (0 - (0 - ((52 - n.log2 : Nat) : Int))).toNat = 52 - n.log2 := by omega
        rw [e1, e2, Nat.pow_zero, Nat.mul_one, Nat.shiftLeft_eq]
        have := Nat.mul_le_mul_right (2 ^ (52 - n.log2)) h1
        omega
      have e : (25 - 2 * (j : Int)) = ((25 - 2 * j : Nat) : Int) := by omega
      rw [e]; exact hx _ (by omega) (by omega)
    have h1 : Bd .f64 _ 0 := Bd.quo bd_one hd (by decide) (by decide)
    have h2 := Bd.mul hu ih (by show (-1022 : Int) ≤ _; omega) (by show _ ≤ (1023 : Int); omega)
    have h3 := Bd.add (h1.mono (by omega : (0 : Int) ≤ 0 + j)) h2 (by show (-1022 : Int) ≤ _; omega) (by show _ ≤ (1023 : Int); omega)
    exact Bd.mono h3 (by omega)
theorem lgF_bd15 {z m : Nat} {e n : Int} (h : Nrm z m e) (h2 : e ≤ -52) (h3 : -53 ≤ e) (hn : n.natAbs ≤ 1000) : Bd .f64 (lgF z n) 15 := by
  have hb := nrm_bd h h2 h3
  have hlo := plus_one ⟨false, m, e, h.1, .inl rfl⟩ (hb.mono (by decide))
  have hs : Bd .f64 (lgS z) 0 := Bd.quo (nrm_sub_one h h2 h3) hlo (by decide) (by decide)
  have hu : Bd .f64 _ 0 := Bd.mul hs hs (by decide) (by decide)
  have hp : Bd .f64 _ 13 := polL_bd0 hu 13 (by decide)
  have h1 : Bd .f64 _ 13 := Bd.mul hs hp (by decide) (by decide)
  have htwo : Bd .f64 two 1 := Bd.ofRung (by decide) (by decide) (by decide)
  have hq : Bd .f64 (lgQ z) 14 := Bd.mul htwo h1 (by decide) (by decide)
  have hl : Bd .f64 lnc 0 := Bd.ofRung (by decide) (by decide) (by decide)
  have hk : Bd .f64 _ 10 := Bd.mul (int_bd hn) hl (by decide) (by decide)
  exact Bd.add hq (hk.mono (by decide)) (by decide) (by decide)
def tenc : Nat := 4631308968768463603
def tenF (l : Nat) : Nat := ar .add .f64 (ar .mul .f64 l tenc) half
theorem tenF_bd {l : Nat} (h : Bd .f64 l 15) : Bd .f64 (tenF l) 22 := by
  have hc : Bd .f64 tenc 6 := Bd.ofRung (by decide) (by decide) (by decide)
  have h1 : Bd .f64 _ 21 := Bd.mul h hc (by decide) (by decide)
  exact Bd.add h1 (bd_half.mono (by decide)) (by decide) (by decide)
/-- The greatest integer that is not greater. -/
def flF (x : Nat) : Nat := double.write ((double.read x).integral .down)
theorem cut_down_le {n drop C : Nat} (s : Bool) (h : n ≤ C * 2 ^ drop) : Toward.down.cut s n drop ≤ C + 1 := by
  unfold Toward.cut
  simp only [Nat.one_shiftLeft]
  have hb : ∀ b : Bool, b.toNat ≤ 1 := fun b => by cases b <;> simp
  refine Nat.add_le_add ?_ (hb _)
  by_cases hd : drop ≤ n.log2 + 2
  · rw [Nat.min_eq_left hd]
    exact Nat.div_le_of_le_mul (by rw [Nat.mul_comm]; exact h)
  · rw [Nat.min_eq_right (by omega)]
    have hn := log2_pow_lt n
    have h2 : n < 2 ^ (n.log2 + 2) := Nat.lt_of_lt_of_le hn (Nat.pow_le_pow_right (by decide) (by omega))
    rw [Nat.div_eq_of_lt h2]; exact Nat.zero_le _
theorem flF_bd {x : Nat} (h : Bd .f64 x 22) : Bd .f64 (flF x) 23 := by
  obtain ⟨s, m, e, hr, hv⟩ := h
  have hr' : double.read x = .number s m e := hr
  unfold flF
  rw [hr']
  show Bd .f64 (FloatKind.f64.format.write (.number s (Toward.down.cut s (m <<< e.toNat) (-e).toNat) 0)) 23
  refine Bd.write (k := .f64) ⟨0, by decide, by decide, ?_⟩ (by decide) (by decide)
  have hle : m <<< e.toNat ≤ 2 ^ 22 * 2 ^ (-e).toNat := by
    rw [Nat.shiftLeft_eq]
    have h1 := hv.at (c := min e 0) (by omega) (by omega)
    have e1 : (e - min e 0).toNat = e.toNat := by omega
    have e2 : (22 - min e 0).toNat = 22 + (-e).toNat := by omega
    rw [e1, e2, Nat.pow_add] at h1
    exact h1
  have hc := cut_down_le s hle
  have e3 : ((0 : Int) - 0).toNat = 0 := by decide
  have e4 : ((23 : Int) - 0).toNat = 23 := by decide
  rw [e3, e4, Nat.pow_zero, Nat.mul_one]
  have h23 : (2 : Nat) ^ 23 = 8388608 := by decide
  have h22 : (2 : Nat) ^ 22 = 4194304 := by decide
  rw [h22] at hc
  rw [h23]
  omega
theorem run_floor {P : Program} (x : Nat) (w : World) (h : isN .f64 x = false) : (Extern.MathFloor.toIntegral "math.archFloor" .down #[.float .f64 x]).run P w = .ok (.float .f64 (flF x)) w := by
  show Sem.run P (match FloatKind.f64.decode x with | .nan s t => _ | d => _) w = _
  have hn : (double.read x).isNaN = false := h
  have hd : FloatKind.f64.decode x = double.read x := rfl
  unfold flF
  rw [hd]
  cases hr : double.read x with
  | nan s t => rw [hr] at hn; cases hn
  | infinity s => rfl
  | number s m e => rfl
end Go.Proofs.Ytcncobafpifimab.Fl
