/-
  Risks of limits as plain functions.
-/
import Derived.Test.YtpckljkhmaghmaaIff
import Derived.Test.YtpckljkhmaghmaaAp
import Derived.Test.YtpckljkhmaghmaaLng
namespace Go.Proofs.Ytpckljkhmaghmaa
open Go.RowKit Fl Ieee
set_option linter.unusedVariables false

/-- The lesser one of two numbers. -/
def mnF (x y : Nat) : Nat := match FloatKind.f32.format.order x y with
  | some .lt => x
  | some .gt => y
  | some .eq => if (FloatKind.f32.decode x).neg then x else y
  | none => 0
theorem order_some {x y : Nat} (hx : isN .f32 x = false) (hy : isN .f32 y = false) : ∃ o, FloatKind.f32.format.order x y = some o := by
  unfold isN at hx hy
  unfold Format.order Datum.order
  cases h1 : FloatKind.f32.format.read x <;> cases h2 : FloatKind.f32.format.read y <;> rw [h1] at hx <;> rw [h2] at hy <;> first | exact ⟨_, rfl⟩ | (exfalso; simp [Datum.isNaN] at hx; done) | (exfalso; simp [Datum.isNaN] at hy; done)
theorem run_minF {P : Program} (ts : Array TypeId) (t : TypeId) (x y : Nat) (w : World) (hx : isN .f32 x = false) (hy : isN .f32 y = false) :
    (Builtin.min_ ts t #[.float .f32 x, .float .f32 y]).run P w = .ok (.float .f32 (mnF x y)) w := by
  obtain ⟨o, ho⟩ := order_some hx hy
  unfold mnF
  simp only [Builtin.min_, Builtin.min2, List.foldlM]
  rw [ho]
  cases o <;> simp
theorem mul_nums {x y : Nat} (hx : finB .f32 x = true) (hy : finB .f32 y = true) : isN .f32 (ar .mul .f32 x y) = false := by
  obtain ⟨s, m, i, hx'⟩ := fin_num hx
  obtain ⟨t, n, j, hy'⟩ := fin_num hy
  have hb : floatBits .mul .f32 x y = Option.map single.write (Datum.product (.number s m i) (.number t n j)) := by
    show single.mul x y = _
    unfold Format.mul
    rw [hx', hy']
  have hb2 : ∃ r, floatBits .mul .f32 x y = some r := by rw [hb]; unfold Datum.product; exact ⟨_, rfl⟩
  obtain ⟨r, hr⟩ := hb2
  rw [ar_some hr]
  exact bits_not hr
theorem le_gt {a b : Nat} (ha : finB .f32 a = true) (hb : finB .f32 b = true) : (FloatKind.f32.format.order a b == some .lt || FloatKind.f32.format.order a b == some .eq) = !gt32 a b := by
  obtain ⟨o, ho⟩ := order_some (nan_fin ha) (nan_fin hb)
  unfold gt32
  rw [ho]
  cases o <;> rfl
theorem lsB_fin' {x : Nat} (h : lsB x = true) : finB .f32 x = true := by unfold lsB at h; rw [Bool.and_eq_true] at h; exact h.1
def sqF (x : Nat) : Nat := ar .mul .f32 x x
/-- The sum of lesser squares below k; how many are small. -/
def rsK (xs : List Nat) (l : Nat) : Nat → Nat
  | 0 => 0
  | k + 1 => ar .add .f32 (rsK xs l k) (mnF (sqF (xs.getD k 0)) (sqF l))
def cnK (xs : List Nat) (l : Nat) : Nat → Nat
  | 0 => 0
  | k + 1 => if gt32 (xs.getD k 0 % 2 ^ 31) l then cnK xs l k else cnK xs l k + 1
theorem cnK_le (xs : List Nat) (l : Nat) : ∀ k, cnK xs l k ≤ k
  | 0 => Nat.le_refl _
  | k + 1 => by have := cnK_le xs l k; simp only [cnK]; split <;> omega
theorem rsK_succ (xs : List Nat) (l k : Nat) (h : k < xs.length) : rsK xs l (k + 1) = ar .add .f32 (rsK xs l k) (mnF (sqF xs[k]) (sqF l)) := by
  show ar .add .f32 _ (mnF (sqF (xs.getD k 0)) _) = _
  simp [h]
theorem cnK_succ (xs : List Nat) (l k : Nat) (h : k < xs.length) : cnK xs l (k + 1) = if gt32 (xs[k] % 2 ^ 31) l then cnK xs l k else cnK xs l k + 1 := by
  show (if gt32 (xs.getD k 0 % 2 ^ 31) l then _ else _) = _
  simp [h]
/-- The risk of a limit. -/
def rkX (xs : List Nat) (a l : Nat) : Nat := ar .add .f32 (ar .mul .f32 (sqF a) (floatOfInt .f32 ((xs.length : Int) - 2 * (cnK xs l xs.length : Int)))) (rsK xs l xs.length)
def RsRel (w0 : World) (xs : List Nat) (l : Nat) (n s i : Value) (wr : World) : Prop := ∃ k m r : Nat, k ≤ xs.length ∧ i = .int .i64 k ∧ n = .int .i64 (cnK xs l k : Int) ∧ s = .float .f32 r ∧ Is .f32 r (rsK xs l k) ∧ wr = w0.drewN m
def RsRelI (w0 : World) (xs : List Nat) (l : Nat) (n s i : Value) (wr : World) : Prop := ∃ k m r : Nat, k ≤ xs.length ∧ i = .int .i64 k ∧ n = .int .i64 ((xs.length : Int) - 2 * (cnK xs l k : Int)) ∧ s = .float .f32 r ∧ Is .f32 r (rsK xs l k) ∧ wr = w0.drewN m
theorem is_int32 (n : Int) : Is .f32 (floatOfInt .f32 n) (floatOfInt .f32 n) := by
  refine ⟨cn_of_not ?_, wf_lt (floatOfInt_wf .f32 n)⟩
  unfold floatOfInt FloatKind.nearest isN
  exact read_write _ _ rfl
end Go.Proofs.Ytpckljkhmaghmaa
