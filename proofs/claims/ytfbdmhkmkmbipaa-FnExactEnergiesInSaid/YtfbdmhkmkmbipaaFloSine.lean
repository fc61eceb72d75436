/-
  The sine of turns as a plain function, and its bound (no program in it).
-/
import Derived.Test.YtfbdmhkmkmbipaaFloTurn
namespace Go.Proofs.Ytfbdmhkmkmbipaa.Fl
open Ieee
/-! ### the opposite -/
def ng (c : Nat) : Nat := cn .f64 (Op.negFloat .f64 c)
theorem neg_rung (b : Nat) : Op.negFloat .f64 b % 2 ^ 63 = b % 2 ^ 63 := by
  show (b ^^^ 2 ^ 63) % 2 ^ 63 = _
  rw [Nat.xor_mod_two_pow, Nat.mod_self, Nat.xor_zero]
theorem isN_rung (b : Nat) : isN .f64 b = isN .f64 (b % 2 ^ 63) := (isN_mod b).symm
theorem isN_neg (b : Nat) : isN .f64 (Op.negFloat .f64 b) = isN .f64 b := by rw [isN_rung, neg_rung, ← isN_rung]
theorem neg_is {r c : Nat} (h : Is .f64 r c) : Is .f64 (Op.negFloat .f64 r) (ng c) := by
  refine ⟨?_, ?_⟩
  · unfold ng
    by_cases hn : isN .f64 r
    · have hc : isN .f64 c = true := by rw [← isN_of_is h]; exact hn
      rw [cn_of_nan (by rw [isN_neg]; exact hn), cn_of_nan (by rw [isN_neg]; exact hc)]
    · have : r = c := by rw [← h.1, cn_of_not (by simpa using hn)]
      rw [this]
  · show r ^^^ 2 ^ 63 < 2 ^ 64
    exact Nat.xor_lt_two_pow h.2 (by decide)
theorem cn_ng (c : Nat) : cn .f64 (ng c) = ng c := cn_cn _ _
theorem Bd.toRung {k : FloatKind} {b : Nat} (h : finB k b = true) : b % k.format.signWeight < k.format.infRung := by
  unfold finB Format.read at h
  simp only [] at h
  have hlt := k.format.infRung_lt
  by_cases h1 : b % k.format.signWeight < k.format.binade
  · cases k
    · have e1 : FloatKind.f32.format.binade = 2 ^ 23 := by decide
      have e2 : FloatKind.f32.format.infRung = 255 * 2 ^ 23 := by decide
      omega
    · have e1 : FloatKind.f64.format.binade = 2 ^ 52 := by decide
      have e2 : FloatKind.f64.format.infRung = 2047 * 2 ^ 52 := by decide
      omega
  · rw [if_neg h1] at h
    by_cases h2 : b % k.format.signWeight < k.format.infRung
    · exact h2
    · rw [if_neg h2] at h
      split at h <;> first | cases h | (split at h <;> cases h) | skip
      all_goals (rename_i hh; split at hh <;> cases hh)
theorem Bd.ng {c : Nat} {n : Int} (h : Bd .f64 c n) : Bd .f64 (ng c) n := by
  have hn : isN .f64 (Op.negFloat .f64 c) = false := by rw [isN_neg]; exact h.notNaN
  unfold Fl.ng
  rw [cn_of_not hn]
  obtain ⟨s, m, e, hr, hv⟩ := h
  have hr' : double.read c = .number s m e := hr
  have h1 := read_mod c
  have h2 := read_mod (Op.negFloat .f64 c)
  rw [neg_rung, h1, hr'] at h2
  cases hd : double.read (Op.negFloat .f64 c) with
  | number s' m' e' =>
    rw [hd] at h2
    simp only [Datum.number.injEq] at h2
    obtain ⟨_, rfl, rfl⟩ := h2
    exact ⟨s', m, e, hd, hv⟩
  | infinity s' => rw [hd] at h2; cases h2
  | nan s' t => rw [hd] at h2; cases h2

/-! ### the sine -/
def geB (x c : Nat) : Bool := FloatKind.f64.format.order x c == some .gt || FloatKind.f64.format.order x c == some .eq
def gtB (x c : Nat) : Bool := FloatKind.f64.format.order x c == some .gt
def ltB (x c : Nat) : Bool := FloatKind.f64.format.order x c == some .lt
def one : Nat := 4607182418800017408
def half : Nat := 4602678819172646912
def quarter : Nat := 4598175219545276416
def round : Nat := 4618760256179416344
def fr (y : Nat) : Nat := ar .sub .f64 y (floatOfInt .f64 (ti y))
def partOf (y : Nat) : Nat := if ltB (fr y) 0 then ar .add .f64 (fr y) one else fr y
def polS (u : Nat) : Nat → Nat
  | 0 => one
  | j + 1 => ar .sub .f64 one (ar .quo .f64 (ar .mul .f64 u (polS u j)) (floatOfInt .f64 (2 * (8 - (j : Int)) * (2 * (8 - (j : Int)) + 1))))
def sf1 (f : Nat) : Nat := if geB f half then ar .sub .f64 f half else f
def sf2 (f : Nat) : Nat := if gtB (sf1 f) quarter then ar .sub .f64 half (sf1 f) else sf1 f
def sz (f : Nat) : Nat := ar .mul .f64 (sf2 f) round
def sp (f : Nat) : Nat := ar .mul .f64 (sz f) (polS (ar .mul .f64 (sz f) (sz f)) 8)
def sineF (f : Nat) : Nat := if geB f half then ng (sp f) else sp f

theorem bd_one : Bd .f64 one 0 := Bd.ofRung (by decide) (by decide) (by decide)
theorem bd_half : Bd .f64 half 0 := Bd.ofRung (by decide) (by decide) (by decide)
theorem bd_round : Bd .f64 round 3 := Bd.ofRung (by decide) (by decide) (by decide)
theorem partOf_bd {y : Nat} (h : Bd .f64 y 52) : Bd .f64 (partOf y) 1 := by
  have h0 := frac_bound h
  unfold partOf
  split
  · exact Bd.add h0 bd_one (by decide) (by decide)
  · exact Bd.mono h0 (by decide)
theorem polS_bd (u : Nat) (hu : Bd .f64 u 12) : ∀ j, j ≤ 8 → Bd .f64 (polS u j) (11 * j)
  | 0, _ => bd_one
  | j + 1, hj => by
    have ih := polS_bd u hu j (by omega)
    have hd : Lo .f64 (floatOfInt .f64 (2 * (8 - (j : Int)) * (2 * (8 - (j : Int)) + 1))) 2 := by
      rcases (show j = 0 ∨ j = 1 ∨ j = 2 ∨ j = 3 ∨ j = 4 ∨ j = 5 ∨ j = 6 ∨ j = 7 by omega) with rfl | rfl | rfl | rfl | rfl | rfl | rfl | rfl
      · exact ⟨false, 4785074604081152, -44, by decide, -44, by decide, by decide, by decide⟩
      · exact ⟨false, 7388718138654720, -45, by decide, -45, by decide, by decide, by decide⟩
      · exact ⟨false, 5488762045857792, -45, by decide, -45, by decide, by decide, by decide⟩
      · exact ⟨false, 7740561859543040, -46, by decide, -46, by decide, by decide, by decide⟩
      · exact ⟨false, 5066549580791808, -46, by decide, -46, by decide, by decide, by decide⟩
      · exact ⟨false, 5910974510923776, -47, by decide, -47, by decide, by decide, by decide⟩
      · exact ⟨false, 5629499534213120, -48, by decide, -48, by decide, by decide, by decide⟩
      · exact ⟨false, 6755399441055744, -50, by decide, -50, by decide, by decide, by decide⟩
    show Bd .f64 (ar .sub .f64 one _) _
    have h1 := Bd.mul hu ih (by show (-1022 : Int) ≤ _; omega) (by show _ ≤ (1023 : Int); omega)
    have h2 := Bd.quo h1 hd (by show (-1022 : Int) ≤ _; omega) (by show _ ≤ (1023 : Int); omega)
    have h3 := Bd.sub (Bd.mono bd_one (by omega : (0 : Int) ≤ 12 + 11 * j - 2)) h2 (by show (-1022 : Int) ≤ _; omega) (by show _ ≤ (1023 : Int); omega)
    exact Bd.mono h3 (by omega)
theorem sineF_bd {f : Nat} (h : Bd .f64 f 1) : Bd .f64 (sineF f) 94 := by
  have h1 : Bd .f64 (sf1 f) 2 := by
    unfold sf1; split
    · exact Bd.sub h (Bd.mono bd_half (by decide)) (by decide) (by decide)
    · exact Bd.mono h (by decide)
  have h2 : Bd .f64 (sf2 f) 3 := by
    unfold sf2; split
    · exact Bd.sub (Bd.mono bd_half (by decide)) h1 (by decide) (by decide)
    · exact Bd.mono h1 (by decide)
  have h3 : Bd .f64 (sz f) 6 := Bd.mul h2 bd_round (by decide) (by decide)
  have h4 := Bd.mul h3 h3 (by decide) (by decide)
  have h5 := polS_bd _ h4 8 (by decide)
  have h6 : Bd .f64 (sp f) 94 := Bd.mul h3 h5 (by decide) (by decide)
  unfold sineF
  split
  · exact h6.ng
  · exact h6
end Go.Proofs.Ytfbdmhkmkmbipaa.Fl
namespace Go.Proofs.Ytfbdmhkmkmbipaa.Fl
section
variable {P : Program} {o : Oper} {a : Act} {w : World} {K : Act → World → Prop} {Q : Exit → Act → World → Prop}
/-- An operation on what is worth cx and cy. -/
theorem up_ar2 {op : BinOp} {t : TypeId} {k : FloatKind} {x y cx cy : Nat} (hop : arOp op = true) (h1 : Is k x cx) (h2 : Is k y cy)
    (h : ∀ r n, Is k r (ar op k cx cy) → K (a.put o.dst (.float k r)) (w.drewN n)) :
    o.upon P a K Q ((Sem.run P (binOp op t (.float k x) (.float k y)) w).andThen fun v w' => .ok (.value v) w') :=
  up_ar hop fun r n hr => h r n (by rw [← ar_is h1 h2]; exact hr)
end
theorem is_lit {k : FloatKind} {c : Nat} (h : decide (isN k c = false ∧ c < 2 ^ k.format.width) = true) : Is k c c := by
  obtain ⟨h1, h2⟩ := of_decide_eq_true h
  exact ⟨cn_of_not h1, h2⟩
theorem is_int (n : Int) : Is .f64 (floatOfInt .f64 n) (floatOfInt .f64 n) := by
  refine ⟨cn_of_not (read_nearest _ _ _ _), wf_lt (floatOfInt_wf .f64 n)⟩
theorem Is.bd {k : FloatKind} {r c : Nat} {n : Int} (h : Is k r c) (hb : Bd k c n) : r = c := by
  rw [← h.1]
  exact (cn_of_not (by rw [isN_of_is h]; exact hb.notNaN)).symm
theorem Is.ofBd {k : FloatKind} {c : Nat} {n : Int} (hb : Bd k c n) (h : c < 2 ^ k.format.width) : Is k c c := ⟨hb.cn, h⟩
end Go.Proofs.Ytfbdmhkmkmbipaa.Fl
namespace Go.Proofs.Ytfbdmhkmkmbipaa.Fl
/-- Returns a float that is worth c; the world has only drawn. -/
def RetF (k : FloatKind) (c : Nat) (w : World) (e : Ending) (w' : World) : Prop := ∃ r n, e = .returned (.float k r) ∧ Is k r c ∧ w' = w.drewN n
end Go.Proofs.Ytfbdmhkmkmbipaa.Fl
namespace Go.Proofs.Ytfbdmhkmkmbipaa.Fl
theorem is_qn {k : FloatKind} : Is k (qn k) (qn k) := ⟨cn_of_nan (isN_qn k), by cases k <;> decide⟩
end Go.Proofs.Ytfbdmhkmkmbipaa.Fl
namespace Go.Proofs.Ytfbdmhkmkmbipaa.Fl
open Ieee
theorem is_eq {k : FloatKind} {r c : Nat} (h : Is k r c) (hn : isN k c = false) : r = c := by
  rw [← h.1]; exact (cn_of_not (by rw [isN_of_is h]; exact hn)).symm
theorem f2f_lt {s k : FloatKind} (hne : s ≠ k) {b r : Nat} (h : floatToFloatBits s b k = some r) : r < 2 ^ k.format.width := by
  unfold floatToFloatBits at h
  rw [if_neg hne] at h
  split at h
  · cases h
  · cases h; exact wf_lt (encode_wf _ _)
  · split at h
    · cases h
    · cases h; exact wf_lt (encode_wf _ _)
theorem wi_lt (x : Nat) : wi x < 2 ^ 64 := by
  unfold wi
  cases h : floatToFloatBits .f32 (cn .f32 x) .f64 with
  | none => show qn .f64 < 2 ^ 64; decide
  | some r => exact f2f_lt (by decide) h
theorem na_lt (x : Nat) : na x < 2 ^ 32 := by
  unfold na
  cases h : floatToFloatBits .f64 (cn .f64 x) .f32 with
  | none => show qn .f32 < 2 ^ 32; decide
  | some r => exact f2f_lt (by decide) h
theorem cn_na (x : Nat) : cn .f32 (na x) = na x := by
  unfold na
  cases h : floatToFloatBits .f64 (cn .f64 x) .f32 with
  | none => exact cn_of_nan (isN_qn .f32)
  | some r => exact cn_of_not (conv_not (by decide) h)
theorem naOk_qn : naOk (qn .f64) = true := naOk_nan (isN_qn .f64)
theorem na_qn : na (qn .f64) = qn .f32 := by
  unfold na
  rw [cn_of_nan (isN_qn .f64), conv_nan (by decide) (isN_qn .f64)]; rfl
theorem na_zero : naOk 0 = true ∧ na 0 = 0 := by decide
theorem nan_of_not_fin {x : Nat} (h : finB .f64 x = true) : isN .f64 x = false := by
  unfold finB at h
  unfold isN
  cases hr : FloatKind.f64.format.read x <;> rw [hr] at h <;> first | rfl | cases h
/-- The sine of a 32-bit number of turns. -/
def sineT (x : Nat) : Nat := if finB .f32 x then (if bigB (wi x) then 0 else na (sineF (partOf (wi x)))) else qn .f32
end Go.Proofs.Ytfbdmhkmkmbipaa.Fl
