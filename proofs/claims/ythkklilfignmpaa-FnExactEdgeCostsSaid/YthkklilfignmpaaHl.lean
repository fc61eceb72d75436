/-
  Contracts: the best point behind another one; hulls, of both sides.
-/
import Derived.Test.YthkklilfignmpaaTb
import Derived.Test.YthkklilfignmpaaFloOd
namespace Go.Proofs.Ythkklilfignmpaa
open Go.RowKit Fl
set_option linter.unusedVariables false

/-- The best point among at + 1 .. i - 1, and the slope to it. -/
def bhI (bs : List Int) (ms : List Nat) (a : Nat) : Nat → Int × Nat
  | 0 => (-1, 0)
  | i + 1 => if i ≤ a then (-1, 0) else
    if gt32 (slF (ms.getD a 0) (ms.getD i 0) (bs.getD i 0 - bs.getD a 0)) 0 && geB' (slF (ms.getD a 0) (ms.getD i 0) (bs.getD i 0 - bs.getD a 0)) (bhI bs ms a i).2 then ((i : Int), slF (ms.getD a 0) (ms.getD i 0) (bs.getD i 0 - bs.getD a 0)) else bhI bs ms a i
theorem bhI_0 (bs : List Int) (ms : List Nat) (a : Nat) : bhI bs ms a (a + 1) = (-1, 0) := by unfold bhI; rw [if_pos (Nat.le_refl _)]
theorem bhI_succ (bs : List Int) (ms : List Nat) (a i : Nat) (h : a < i) : bhI bs ms a (i + 1) =
    if gt32 (slF (ms.getD a 0) (ms.getD i 0) (bs.getD i 0 - bs.getD a 0)) 0 && geB' (slF (ms.getD a 0) (ms.getD i 0) (bs.getD i 0 - bs.getD a 0)) (bhI bs ms a i).2 then ((i : Int), slF (ms.getD a 0) (ms.getD i 0) (bs.getD i 0 - bs.getD a 0)) else bhI bs ms a i := by
  show (if i ≤ a then _ else _) = _
  rw [if_neg (by omega)]
theorem bhI_b (bs : List Int) (ms : List Nat) (a : Nat) : ∀ i, (bhI bs ms a i).1 = -1 ∨ ((a : Int) < (bhI bs ms a i).1 ∧ (bhI bs ms a i).1 < i)
  | 0 => .inl rfl
  | i + 1 => by
    by_cases h : i ≤ a
    · left; unfold bhI; rw [if_pos h]
    · rw [bhI_succ bs ms a i (by omega)]
      split
      · right; simp; omega
      · rcases bhI_b bs ms a i with h1 | h1
        · exact .inl h1
        · right; omega
/-- The same without asking that slopes be above nothing. -/
def sbI (bs : List Int) (ms : List Nat) (a : Nat) : Nat → Int × Nat
  | 0 => (-1, 0)
  | i + 1 => if i ≤ a then (-1, 0) else
    if geB' (slF (ms.getD a 0) (ms.getD i 0) (bs.getD i 0 - bs.getD a 0)) (sbI bs ms a i).2 then ((i : Int), slF (ms.getD a 0) (ms.getD i 0) (bs.getD i 0 - bs.getD a 0)) else sbI bs ms a i
theorem sbI_0 (bs : List Int) (ms : List Nat) (a : Nat) : sbI bs ms a (a + 1) = (-1, 0) := by unfold sbI; rw [if_pos (Nat.le_refl _)]
theorem sbI_succ (bs : List Int) (ms : List Nat) (a i : Nat) (h : a < i) : sbI bs ms a (i + 1) =
    if geB' (slF (ms.getD a 0) (ms.getD i 0) (bs.getD i 0 - bs.getD a 0)) (sbI bs ms a i).2 then ((i : Int), slF (ms.getD a 0) (ms.getD i 0) (bs.getD i 0 - bs.getD a 0)) else sbI bs ms a i := by
  show (if i ≤ a then _ else _) = _
  rw [if_neg (by omega)]
/-- The points behind a, one behind the other. -/
inductive HullFrom (bs : List Int) (ms : List Nat) (n : Nat) : Nat → List Int → Prop
  | stop {a : Nat} (h : (bhI bs ms a n).1 = -1) : HullFrom bs ms n a []
  | step {a b : Nat} {X : List Int} (h : (bhI bs ms a n).1 = (b : Int)) (h2 : HullFrom bs ms n b X) : HullFrom bs ms n a ((b : Int) :: X)
theorem hull_ex (bs : List Int) (ms : List Nat) (n : Nat) : ∀ d a, n - a ≤ d → ∃ X, HullFrom bs ms n a X ∧ X.length ≤ d
  | 0, a, hd => by
    rcases bhI_b bs ms a n with h | h
    · exact ⟨[], .stop h, Nat.le_refl _⟩
    · omega
  | d + 1, a, hd => by
    rcases bhI_b bs ms a n with h | h
    · exact ⟨[], .stop h, Nat.zero_le _⟩
    · obtain ⟨X, hX, hl⟩ := hull_ex bs ms n d (bhI bs ms a n).1.toNat (by omega)
      exact ⟨((bhI bs ms a n).1.toNat : Int) :: X, .step (by omega) hX, by simp; omega⟩
theorem wf63 {x : Int} (h : (Lit.int .i64 x).wf = true) : x ≤ 9223372036854775807 := by
  have h2 : IntKind.i64.min ≤ x ∧ x ≤ IntKind.i64.max := by simpa [Lit.wf] using h
  have e : IntKind.i64.max = 9223372036854775807 := rfl
  rw [e] at h2
  exact h2.2
theorem lsB_finH {x : Nat} (h : lsB x = true) : finB .f32 x = true := by unfold lsB at h; rw [Bool.and_eq_true] at h; exact h.1
/-- The facts of one round. -/
theorem hl_round {bs : List Int} {ms : List Nat} {n : Nat} (ht : TbTo bs ms n) (hwf : ∀ i, i < n → bs.getD i 0 ≤ 9223372036854775807) (a i : Nat) (h : a < i) (hi : i < n) :
    ∃ x y : Nat, ∃ p q : Int, ms.getD a 0 = x ∧ ms.getD i 0 = y ∧ bs.getD a 0 = p ∧ bs.getD i 0 = q ∧ 0 ≤ p ∧ p < q ∧ q ≤ 9223372036854775807 ∧
      (∃ d f c : Nat, floatOfInt .f32 (q - p) = f ∧ floatBits .sub .f32 x y = some d ∧ floatBits .quo .f32 d f = some c ∧ slF x y (q - p) = c) := by
  have h1 := tbAt_out (ht a (by omega))
  have h2 := tbAt_out (ht i hi)
  have hp := prevB_ge ht a (by omega)
  have hlt := tb_lt ht a (i - a - 1) (by omega)
  rw [show a + (i - a - 1) + 1 = i by omega] at hlt
  have hw := hwf i hi
  obtain ⟨s1, s2⟩ := sl_bits (x := ms.getD a 0) (y := ms.getD i 0) (n := bs.getD i 0 - bs.getD a 0) (lsB_finH h1.2) (lsB_finH h2.2) (by omega) (by omega)
  exact ⟨_, _, _, _, rfl, rfl, rfl, rfl, by omega, hlt, hw, _, _, _, rfl, s1, s2, rfl⟩
theorem getD_wf {xs : List Int} (hx : ∀ x ∈ xs, (Lit.int .i64 x).wf = true) (i : Nat) (h : i < xs.length) : xs.getD i 0 ≤ 9223372036854775807 := by
  rw [show xs.getD i 0 = xs[i] by simp [List.getD, List.getElem?_eq_getElem h]]; exact wf63 (hx _ (List.getElem_mem h))
theorem sl_not {bs : List Int} {ms : List Nat} {n : Nat} (ht : TbTo bs ms n) (hwf : ∀ i, i < n → bs.getD i 0 ≤ 9223372036854775807) (a i : Nat) (h : a < i) (hi : i < n) :
    isN .f32 (slF (ms.getD a 0) (ms.getD i 0) (bs.getD i 0 - bs.getD a 0)) = false := by
  obtain ⟨x, y, p, q, ex, ey, ep, eq, _, _, _, d, f, c, hf, h1, h2, h3⟩ := hl_round ht hwf a i h hi
  rw [ex, ey, ep, eq, h3]
  exact bits_not h2
theorem sb_bh {bs : List Int} {ms : List Nat} {n : Nat} (ht : TbTo bs ms n) (hwf : ∀ i, i < n → bs.getD i 0 ≤ 9223372036854775807) (a : Nat) : ∀ k, a < k → k ≤ n →
    geB' (sbI bs ms a k).2 0 = true ∧ bhI bs ms a k = if gt32 (sbI bs ms a k).2 0 = true then sbI bs ms a k else (-1, 0)
  | 0, h, _ => absurd h (Nat.not_lt_zero _)
  | k + 1, h, hk => by
    by_cases hak : a = k
    · subst hak; rw [sbI_0, bhI_0]; exact ⟨by decide, by rw [if_neg (by decide)]⟩
    · obtain ⟨i1, i2⟩ := sb_bh ht hwf a k (by omega) (by omega)
      have hc := sl_not ht hwf a k (by omega) (by omega)
      rw [bhI_succ bs ms a k (by omega), sbI_succ bs ms a k (by omega), i2]
      generalize slF (ms.getD a 0) (ms.getD k 0) (bs.getD k 0 - bs.getD a 0) = c at *
      generalize sbI bs ms a k = s at *
      clear i2
      cases gs : gt32 s.2 0 with
      | true =>
        cases gc : gt32 c 0 with
        | true =>
          simp only [if_true, Bool.true_and]
          cases g : geB' c s.2 with
          | true => simp only [if_true, gc]; exact ⟨gt_ge gc, trivial⟩
          | false => simp only [Bool.false_eq_true, if_false, gs, if_true]; exact ⟨i1, trivial⟩
        | false =>
          rw [not_above hc gc gs]
          simp only [Bool.false_and, Bool.false_eq_true, if_false, gs, if_true]
          exact ⟨i1, trivial⟩
      | false =>
        rw [ge_zero hc gs i1]
        cases gc : gt32 c 0 with
        | true =>
          rw [gt_ge gc]
          simp only [Bool.true_and, if_true, gc, Bool.false_eq_true, if_false, gt_ge gc]
          exact ⟨trivial, trivial⟩
        | false =>
          simp only [Bool.false_and, Bool.false_eq_true, if_false]
          cases g : geB' c 0 with
          | true => simp only [if_true, gc, Bool.false_eq_true, if_false]; exact ⟨g, trivial⟩
          | false => simp only [Bool.false_eq_true, if_false, gs]; exact ⟨i1, trivial⟩
def SbRel (w : World) (bs : List Int) (ms : List Nat) (a n : Nat) (b s i : Value) (wr : World) : Prop := ∃ k m : Nat, a < k ∧ k ≤ n ∧ i = .int .i64 k ∧ b = .int .i64 (sbI bs ms a k).1 ∧ s = .float .f32 (sbI bs ms a k).2 ∧ wr = w.drewN m
def BhRel (w : World) (bs : List Int) (ms : List Nat) (a n : Nat) (b s i : Value) (wr : World) : Prop := ∃ k m : Nat, a < k ∧ k ≤ n ∧ i = .int .i64 k ∧ b = .int .i64 (bhI bs ms a k).1 ∧ s = .float .f32 (bhI bs ms a k).2 ∧ wr = w.drewN m
set_option maxRecDepth 100000 in
set_option maxHeartbeats 4000000 in
theorem sbI_any (v u : Value) (bs : List Int) (ms : List Nat) (n : Nat) (w : World) (h : Rd w w.heap.size v (il bs)) (h' : Rd w w.heap.size u (fl ms)) (hn1 : bs.length = n) (hn2 : ms.length = n) (hn : n ≤ 64) (ht : TbTo bs ms n) (hwf : ∀ i, i < n → bs.getD i 0 ≤ 9223372036854775807) (a : Nat) (ha : a < n) :
    Calls Try.prog 99 #[v, u, .int .i64 a] w fun e w' => e = .returned (.tuple #[.int .i64 (sbI bs ms a n).1, .float .f32 (sbI bs ms a n).2]) ∧ ∃ q, w' = w.drewN q := by
  obtain ⟨A, c, hv, q1, q2, q3⟩ := h
  obtain ⟨A', c', hu, p1, p2, p3⟩ := h'
  rw [il_len] at hv q1 q3
  rw [fl_len] at hu p1 p3
  subst hv hu
  have HG := Lib.hid (show ∀ k, k < n → (il bs)[k]? = some (.int .i64 (bs.getD k 0)) ∧ (fl ms)[k]? = some (.float .f32 (ms.getD k 0)) from fun k hk => ⟨il_getD bs k (by omega), fl_getD ms k (by omega)⟩)
  rw [hn1] at q3 ⊢
  rw [hn2] at p3 ⊢
  have HC := Lib.hid q3
  have HD := Lib.hid p3
  have HT := Lib.hid ht
  have HW := Lib.hid hwf
  clear q1 q2 q3 p1 p2 p3 ht hwf hn1 hn2
  go_enter Try.func99, Try.ntmps99
  go_wp2_with fail
  go_loopw [8, 9, 10] (SbRel w bs ms a n) (fun _ _ i _ => n - (intOf i).toNat)
  case atStart => exact ⟨a + 1, 0, by omega, by omega, by go_num, by rw [sbI_0], by rw [sbI_0], rfl⟩
  case round =>
    obtain ⟨k, m, hak, hk, rfl, rfl, rfl, rfl⟩ := hrel
    by_cases hlt : k < n
    · obtain ⟨b, off, rfl, hbl, hcc⟩ := HC.out (by omega)
      obtain ⟨b', off', rfl, hbl', hcc'⟩ := HD.out (by omega)
      obtain ⟨x, y, p, q, ex, ey, ep, eq, p0, pq, q63, d, fq, c, hfq, hsub, hquo, hsl⟩ := hl_round HT.out HW.out a k hak hlt
      obtain ⟨ga1, ga2⟩ := HG.out a (by omega)
      obtain ⟨gk1, gk2⟩ := HG.out k hlt
      rw [ep] at ga1
      rw [ex] at ga2
      rw [eq] at gk1
      rw [ey] at gk2
      have c1 : w.cell? ⟨b, off + a, none⟩ = some (.int .i64 p) := hcc a _ ga1
      have c2 : w.cell? ⟨b', off' + a, none⟩ = some (.float .f32 x) := hcc' a _ ga2
      have c3 : w.cell? ⟨b, off + k, none⟩ = some (.int .i64 q) := hcc k _ gk1
      have c4 : w.cell? ⟨b', off' + k, none⟩ = some (.float .f32 y) := hcc' k _ gk2
      have HS := Lib.hid (sbI_succ bs ms a k hak)
      rw [ex, ey, ep, eq, hsl] at HS
      have rs : ∀ w' t, (binOp .sub t (.float .f32 x) (.float .f32 y)).run Try.prog w' = .ok (.float .f32 d) w' := fun w' t => run_float_arith w' .sub t .f32 x y d hsub
      have rq : ∀ w' t, (binOp .quo t (.float .f32 d) (.float .f32 fq)).run Try.prog w' = .ok (.float .f32 c) w' := fun w' t => run_float_arith w' .quo t .f32 d fq c hquo
      clear hcc hcc' HC HD HG HT HW ex ey ep eq hsub hquo hsl ga1 ga2 gk1 gk2
      generalize sbI bs ms a k = r at *
      obtain ⟨r1, r2⟩ := r
      simp only [] at HS ⊢
      cases g2 : geB' c r2 with
      | false =>
        rw [g2, if_neg (by simp)] at HS
        have g2' : (FloatKind.f32.format.order c r2 == some .gt || FloatKind.f32.format.order c r2 == some .eq) = false := g2
        clear g2
        go_wp2_with fail
        go_quiet (fail)
        go_wp2_with fail
        go_roundw
        case rel => exact ⟨k + 1, _, by omega, by omega, by go_num, by rw [HS.out], by rw [HS.out], by first | rfl | exact World.drewN_drewN _ _ _⟩
        case measure => simp [intOf]; omega
      | true =>
        rw [g2, if_pos rfl] at HS
        have g2' : (FloatKind.f32.format.order c r2 == some .gt || FloatKind.f32.format.order c r2 == some .eq) = true := g2
        clear g2
        go_wp2_with fail
        go_quiet (fail)
        go_wp2_with fail
        go_roundw
        case rel => exact ⟨k + 1, _, by omega, by omega, by go_num, by rw [HS.out], by rw [HS.out], by first | rfl | exact World.drewN_drewN _ _ _⟩
        case measure => simp [intOf]; omega
    · obtain rfl : k = n := by omega
      go_wp2
      go_ret2
      exact ⟨rfl, _, rfl⟩
def HlRel (w0 : World) (bs : List Int) (ms : List Nat) (n : Nat) (L : List Int) (v i : Value) (wr : World) : Prop :=
  ∃ a : Nat, ∃ L0 X, a < n ∧ i = .int .i64 a ∧ L0.length + n ≤ 65 + a ∧ HullFrom bs ms n a X ∧ L0 ++ X = L ∧ RowI w0 v L0 wr
def HlRelI (w0 : World) (bs : List Int) (ms : List Nat) (n : Nat) (L : List Int) (v i : Value) (wr : World) : Prop :=
  (∃ a : Nat, ∃ L0 X, a < n ∧ i = .int .i64 a ∧ L0.length + n ≤ 65 + a ∧ HullFrom bs ms n a X ∧ L0 ++ (a : Int) :: X = L ∧ RowI w0 v L0 wr) ∨ (i = .int .i64 (-1) ∧ RowI w0 v L wr)
end Go.Proofs.Ythkklilfignmpaa
