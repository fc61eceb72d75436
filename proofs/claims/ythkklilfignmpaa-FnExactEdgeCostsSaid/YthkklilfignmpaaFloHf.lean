/-
  Half of a 32-bit float: the product with 0.5 is the quotient by 2 (no program in it).
-/
import Derived.Test.YthkklilfignmpaaFloQuart
import Derived.Test.YthkklilfignmpaaFloHu
namespace Go.Proofs.Ythkklilfignmpaa.Fl
open Ieee
set_option linter.unusedVariables false

theorem read_half32 : single.read 1056964608 = .number false 8388608 (-24) := by decide
theorem read_two32 : single.read 1073741824 = .number false 8388608 (-22) := by decide
theorem div_bits32 {x y : Nat} {s t : Bool} {m n : Nat} {i j : Int} {more : Nat} (hx : single.read x = .number s m i) (hy : single.read y = .number t n j) (hn : n ≠ 0) (hmore : (single.fractionBits + 2) + n.log2 - m.log2 = more) :
    floatBits .quo .f32 x y = some (single.write (.number (s ^^ t) (2 * ((m <<< more) / n) + ((m <<< more) % n != 0).toNat) (i - j - more - 1))) := by
  show single.div x y = _
  unfold Format.div
  rw [hx, hy]
  show Option.map single.write (if n = 0 then _ else _) = _
  rw [if_neg hn]
  simp only [hmore, Option.map_some]
theorem half_two (x : Nat) : ar .mul .f32 1056964608 x = ar .quo .f32 x 1073741824 := by
  cases hn : isN .f32 x with
  | true => rw [ar_none (bits_nan_r hn .mul 1056964608), ar_none (bits_nan_l hn .quo 1073741824)]
  | false =>
    have hx32 := read_single x
    rcases isN_num hn with ⟨s, m, e, hr⟩ | ⟨s, hr⟩
    · have hm : m < 2 ^ 24 := by
        rcases hx32 with ⟨s', m', e', h, h1, _⟩ | ⟨s', h⟩ | ⟨s', t', h⟩
        · rw [hr] at h; cases h; exact h1
        · rw [hr] at h; cases h
        · rw [hr] at h; cases h
      have hl : m.log2 ≤ 23 := by
        rcases Nat.eq_zero_or_pos m with h0 | h0
        · subst h0; decide
        · have := (Nat.log2_lt (by omega)).2 hm; omega
      have h23 : (8388608 : Nat).log2 = 23 := by decide
      have hF : single.fractionBits = 23 := by decide
      obtain ⟨q, hq⟩ : ∃ q, 48 - m.log2 = q + 23 := ⟨25 - m.log2, by omega⟩
      have hmore : (single.fractionBits + 2) + (8388608 : Nat).log2 - m.log2 = q + 23 := by rw [h23, hF]; omega
      have hw := div_bits32 hr read_two32 (by decide) hmore
      have hsh : m <<< (q + 23) = m * 2 ^ q * 8388608 := by
        rw [Nat.shiftLeft_eq, Nat.pow_add, show (2 : Nat) ^ 23 = 8388608 by decide, Nat.mul_assoc]
      have hd : (m <<< (q + 23)) / 8388608 = m * 2 ^ q := by rw [hsh]; exact Nat.mul_div_cancel _ (by decide)
      have hmd : (m <<< (q + 23)) % 8388608 = 0 := by rw [hsh]; exact Nat.mul_mod_left _ _
      rw [hd, hmd] at hw
      have e2 : 2 * (m * 2 ^ q) + (0 != 0).toNat = m * 2 ^ (q + 1) := by
        show 2 * (m * 2 ^ q) + 0 = _
        rw [Nat.pow_succ, Nat.add_zero, Nat.mul_comm 2, Nat.mul_assoc]
      rw [e2] at hw
      have hw' : floatBits .quo .f32 x 1073741824 = some (single.nearest s (m * 2 ^ (q + 1)) (e - -22 - ((q + 23 : Nat) : Int) - 1)) := by
        rw [hw]; cases s <;> rfl
      have hm' : floatBits .mul .f32 1056964608 x = some (single.nearest s (m * 2 ^ 23) (-24 + e)) := by
        rw [mul_bits', read_half32, hr]
        show some (single.write (.number (false ^^ s) (8388608 * m) (-24 + e))) = _
        rw [show (8388608 : Nat) * m = m * 2 ^ 23 by rw [Nat.mul_comm]]
        cases s <;> rfl
      rw [ar_some hw', ar_some hm', nearest_pow, nearest_pow]
      congr 1
      omega
    · have h1 : floatBits .mul .f32 1056964608 x = some (single.write (.infinity s)) := by
        rw [mul_bits', read_half32, hr]; cases s <;> rfl
      have h2 : floatBits .quo .f32 x 1073741824 = some (single.write (.infinity s)) := by
        show single.div x _ = _
        unfold Format.div
        rw [hr, read_two32]; cases s <;> rfl
      rw [ar_some h1, ar_some h2]
def h2F (a b : Nat) : Nat := ar .quo .f32 (ar .add .f32 a b) 1073741824
end Go.Proofs.Ythkklilfignmpaa.Fl
