/-
  Contracts: how many numbers bands have, of both sides.
-/
import Derived.Test.YteogogcjndfkoaaLi
import Derived.Test.YteogogcjndfkoaaIn
namespace Go.Proofs.Yteogogcjndfkoaa
open Go.RowKit
set_option linter.unusedVariables false

/-- How many numbers the bands of n numbers have. -/
def szF : Nat → Int → List Int
  | 0, n => [n]
  | l + 1, n => if n < 2 then [n] else (n / 2) :: szF l (n - n / 2)
theorem szF_stop {l : Nat} {n : Int} (h : l = 0 ∨ n < 2) : szF l n = [n] := by
  cases l with
  | zero => rfl
  | succ l => unfold szF; rw [if_pos (by omega)]
theorem szF_go {l k : Nat} {n : Int} (h : k < l) (hn : 2 ≤ n) : szF (l - k) n = (n / 2) :: szF (l - (k + 1)) (n - n / 2) := by
  obtain ⟨m, hm⟩ : ∃ m, l - k = m + 1 := ⟨l - k - 1, by omega⟩
  rw [hm, show l - (k + 1) = m by omega]
  rw [szF, if_neg (by omega)]
theorem szF_len (l : Nat) (n : Int) : 1 ≤ (szF l n).length ∧ (szF l n).length ≤ l + 1 := by
  induction l generalizing n with
  | zero => simp [szF]
  | succ l ih =>
    unfold szF
    split
    · simp
    · have := ih (n - n / 2); simp only [List.length_cons]; omega

def SzRel (w0 : World) (L : Nat) (n : Int) (wbase : World) (c v i : Value) (wr : World) : Prop :=
  ∃ (k : Nat) (pre : List Int) (cur : Int), k ≤ L ∧ i = .int .i64 k ∧ c = .int .i64 cur ∧ 1 ≤ cur ∧ cur ≤ 128 ∧ pre.length = k ∧ szF L n = pre ++ szF (L - k) cur ∧
    wr.ownsRow w0.heap.size 2 1 v k (il pre) ∧ Below w0.heap.size w0 wr

theorem one_new (w : World) (x : Value) (E : TypeId) : ∀ j u, [x][j]? = some u → (w.alloc (.cells #[x] E)).cell? ((⟨w.heap.size, 0, none⟩ : Addr).add j) = some u := by
  intro j u hu
  cases j with
  | zero =>
    simp at hu; subst hu
    rw [Go.WideShapes.add_plain]
    exact (cell_of_row _ _ _ _ _ _ (heap_alloc_new w _)).trans rfl
  | succ j => simp at hu
theorem one_cell (k : IntKind) (n : Int) : ∀ u ∈ [Value.int k n], u.oneCell' = true := ints_oneCell k [n]
theorem il_app (xs : List Int) (x : Int) : il (xs ++ [x]) = il xs ++ [.int .i64 x] := by simp [il]

set_option maxHeartbeats 2000000 in
theorem szS_any (n : Int) (L : Nat) (w : World) (h0 : 1 ≤ n) (h1 : n ≤ 128) (h2 : 1 ≤ L) (h3 : L ≤ 6) :
    Calls Try.prog 70 #[.int .i64 n, .int .i64 L] w fun e w' => ∃ v, e = .returned v ∧ Own w' w.heap.size v (il (szF L n)) ∧ Below w.heap.size w w' := by
  obtain ⟨i0, hi, hz0, hz1, hz2⟩ := info_parts infoI
  go_enter Try.func70, Try.ntmps70
  go_wp2
  have hown : (w.alloc (Obj.cells #[] 2)).ownsRow w.heap.size 2 1 (.slice (some ⟨w.heap.size, 0, none⟩) 0 0) 0 (il []) := World.ownsRow_made w #[] 0 (Nat.le_refl _) (Nat.zero_le _) rfl
  have hgrow : True := trivial
  have hb0 : Below w.heap.size w (w.alloc (Obj.cells #[] 2)) := (Below.refl _ _).alloc (Nat.le_refl _) _
  clear hgrow
  go_loopw [0, 5, 6] (SzRel w L n w) (fun _ _ i _ => L - (intOf i).toNat)
  case atStart => exact ⟨0, [], n, Nat.zero_le _, rfl, rfl, h0, h1, rfl, rfl, hown, hb0⟩
  case round =>
    obtain ⟨k, pre, cur, hk, rfl, rfl, hc1, hc2, hpl, hsz, hown, hb⟩ := hrel
    have HP := Lib.hid hpl
    have HS := Lib.hid hsz
    clear hpl hsz hb0
    by_cases hlt : k < L
    · by_cases hcur : 2 ≤ cur
      · have HG := Lib.hid (szF_go hlt hcur)
        go_wp2_with (at_builtin; refine wpList_append_own _ rfl _ _ 26 rfl w.heap.size 2 i0 (.int .i64 0) 1 8 Try.underlying26 hi hz0 hz1 hz2 rfl (by decide) _ _ _ rfl (hown.alloc _) ⟨wr.heap.size, 0, none⟩ 1 1 [.int .i64 (cur / 2)] rfl rfl (one_new _ _ _) (one_cell _ _) (by unfold maxLen; omega) (by omega) (by simp; have := hb.size; omega) ?_; intro v' w1 hown' hgrow _)
        have hown2 : w1.ownsRow w.heap.size 2 1 v' (k + 1) (il (pre ++ [cur / 2])) := by rw [il_app]; exact hown'
        have hb2 : Below w.heap.size w w1 := (hb.alloc hb.size _).grown hgrow (by simp; have := hb.size; omega) (fun j hj => (hown.lt j hj).1)
        have HO := Lib.hid hown2
        have HB := Lib.hid hb2
        clear hown' hgrow hown2 hb2 hown hb
        go_wp2
        go_roundw
        case rel => exact ⟨k + 1, pre ++ [cur / 2], cur - cur / 2, by omega, by go_num, by rw [show (cur + 1) / 2 = cur - cur / 2 by omega], by omega, by omega, by rw [List.length_append, HP.out]; rfl, by rw [HS.out, HG.out, List.append_assoc]; rfl, HO.out, HB.out⟩
        case measure => simp [intOf]; omega
      · have HG := Lib.hid (szF_stop (l := L - k) (n := cur) (.inr (by omega)))
        have hcur' : cur < 2 := by omega
        clear hcur

        go_wp2_with (at_builtin; refine wpList_append_own _ rfl _ _ 26 rfl w.heap.size 2 i0 (.int .i64 0) 1 8 Try.underlying26 hi hz0 hz1 hz2 rfl (by decide) _ _ _ rfl (hown.alloc _) ⟨wr.heap.size, 0, none⟩ 1 1 [.int .i64 (cur)] rfl rfl (one_new _ _ _) (one_cell _ _) (by unfold maxLen; omega) (by omega) (by simp; have := hb.size; omega) ?_; intro v' w1 hown' hgrow _)
        have hown2 : w1.ownsRow w.heap.size 2 1 v' (k + 1) (il (pre ++ [cur])) := by rw [il_app]; exact hown'
        have hb2 : Below w.heap.size w w1 := (hb.alloc hb.size _).grown hgrow (by simp; have := hb.size; omega) (fun j hj => (hown.lt j hj).1)
        go_wp2
        go_ret
        exact ⟨_, rfl, by rw [HS.out, HG.out]; exact Own.row hown2, hb2⟩
    · have hkl : k = L := by omega
      have HG := Lib.hid (szF_stop (l := L - k) (n := cur) (.inl (by omega)))
      have hge : L ≤ k := by omega
      clear hlt hkl
      go_wp2_with (at_builtin; refine wpList_append_own _ rfl _ _ 26 rfl w.heap.size 2 i0 (.int .i64 0) 1 8 Try.underlying26 hi hz0 hz1 hz2 rfl (by decide) _ _ _ rfl (hown.alloc _) ⟨wr.heap.size, 0, none⟩ 1 1 [.int .i64 (cur)] rfl rfl (one_new _ _ _) (one_cell _ _) (by unfold maxLen; omega) (by omega) (by simp; have := hb.size; omega) ?_; intro v' w1 hown' hgrow _)
      have hown2 : w1.ownsRow w.heap.size 2 1 v' (k + 1) (il (pre ++ [cur])) := by rw [il_app]; exact hown'
      have hb2 : Below w.heap.size w w1 := (hb.alloc hb.size _).grown hgrow (by simp; have := hb.size; omega) (fun j hj => (hown.lt j hj).1)
      go_wp2
      go_ret
      exact ⟨_, rfl, by rw [HS.out, HG.out]; exact Own.row hown2, hb2⟩
set_option maxHeartbeats 2000000 in
theorem szI_any (n : Int) (L : Nat) (w : World) (h0 : 1 ≤ n) (h1 : n ≤ 128) (h2 : 1 ≤ L) (h3 : L ≤ 6) :
    Calls Try.prog 72 #[.int .i64 n, .int .i64 L] w fun e w' => ∃ v, e = .returned v ∧ Own w' w.heap.size v (il (szF L n)) ∧ Below w.heap.size w w' := by
  obtain ⟨i0, hi, hz0, hz1, hz2⟩ := info_parts infoI
  go_enter Try.func72, Try.ntmps72
  go_wp2_with (at_make; refine wpList_make_own _ rfl _ _ 26 rfl w.heap.size 2 i0 (.int .i64 0) 1 Try.underlying26 hi hz0 hz1 .i64 .i64 _ (L + 1) rfl rfl (by omega) (by rw [hz2]; omega) (by unfold maxLen; omega) (Nat.le_refl _) ?_; intro w1 hown hgrow)
  have hb0 : Below w.heap.size w w1 := (Below.refl _ _).grown hgrow (Nat.le_refl _) (fun _ h => by cases h)
  clear hgrow
  go_loopw [0, 5, 10] (SzRel w L n w) (fun _ _ i _ => L - (intOf i).toNat)
  case atStart => exact ⟨0, [], n, Nat.zero_le _, rfl, rfl, h0, h1, rfl, rfl, hown, hb0⟩
  case round =>
    obtain ⟨k, pre, cur, hk, rfl, rfl, hc1, hc2, hpl, hsz, hown, hb⟩ := hrel
    have HP := Lib.hid hpl
    have HS := Lib.hid hsz
    clear hpl hsz hb0
    by_cases hlt : k < L
    · by_cases hcur : 2 ≤ cur
      · have HG := Lib.hid (szF_go hlt hcur)
        go_wp2_with (at_builtin; refine wpList_append_own _ rfl _ _ 26 rfl w.heap.size 2 i0 (.int .i64 0) 1 8 Try.underlying26 hi hz0 hz1 hz2 rfl (by decide) _ _ _ rfl (hown.alloc _) ⟨wr.heap.size, 0, none⟩ 1 1 [.int .i64 (cur / 2)] rfl rfl (one_new _ _ _) (one_cell _ _) (by unfold maxLen; omega) (by omega) (by simp; have := hb.size; omega) ?_; intro v' w1 hown' hgrow _)
        have hown2 : w1.ownsRow w.heap.size 2 1 v' (k + 1) (il (pre ++ [cur / 2])) := by rw [il_app]; exact hown'
        have hb2 : Below w.heap.size w w1 := (hb.alloc hb.size _).grown hgrow (by simp; have := hb.size; omega) (fun j hj => (hown.lt j hj).1)
        have HO := Lib.hid hown2
        have HB := Lib.hid hb2
        clear hown' hgrow hown2 hb2 hown hb
        go_wp2
        go_roundw
        case rel => exact ⟨k + 1, pre ++ [cur / 2], cur - cur / 2, by omega, by go_num, rfl, by omega, by omega, by rw [List.length_append, HP.out]; rfl, by rw [HS.out, HG.out, List.append_assoc]; rfl, HO.out, HB.out⟩
        case measure => simp [intOf]; omega
      · have HG := Lib.hid (szF_stop (l := L - k) (n := cur) (.inr (by omega)))
        have hcur' : cur < 2 := by omega
        clear hcur

        go_wp2_with (at_builtin; refine wpList_append_own _ rfl _ _ 26 rfl w.heap.size 2 i0 (.int .i64 0) 1 8 Try.underlying26 hi hz0 hz1 hz2 rfl (by decide) _ _ _ rfl (hown.alloc _) ⟨wr.heap.size, 0, none⟩ 1 1 [.int .i64 (cur)] rfl rfl (one_new _ _ _) (one_cell _ _) (by unfold maxLen; omega) (by omega) (by simp; have := hb.size; omega) ?_; intro v' w1 hown' hgrow _)
        have hown2 : w1.ownsRow w.heap.size 2 1 v' (k + 1) (il (pre ++ [cur])) := by rw [il_app]; exact hown'
        have hb2 : Below w.heap.size w w1 := (hb.alloc hb.size _).grown hgrow (by simp; have := hb.size; omega) (fun j hj => (hown.lt j hj).1)
        go_wp2
        go_ret
        exact ⟨_, rfl, by rw [HS.out, HG.out]; exact Own.row hown2, hb2⟩
    · have hkl : k = L := by omega
      have HG := Lib.hid (szF_stop (l := L - k) (n := cur) (.inl (by omega)))
      have hge : L ≤ k := by omega
      clear hlt hkl
      go_wp2_with (at_builtin; refine wpList_append_own _ rfl _ _ 26 rfl w.heap.size 2 i0 (.int .i64 0) 1 8 Try.underlying26 hi hz0 hz1 hz2 rfl (by decide) _ _ _ rfl (hown.alloc _) ⟨wr.heap.size, 0, none⟩ 1 1 [.int .i64 (cur)] rfl rfl (one_new _ _ _) (one_cell _ _) (by unfold maxLen; omega) (by omega) (by simp; have := hb.size; omega) ?_; intro v' w1 hown' hgrow _)
      have hown2 : w1.ownsRow w.heap.size 2 1 v' (k + 1) (il (pre ++ [cur])) := by rw [il_app]; exact hown'
      have hb2 : Below w.heap.size w w1 := (hb.alloc hb.size _).grown hgrow (by simp; have := hb.size; omega) (fun j hj => (hown.lt j hj).1)
      go_wp2
      go_ret
      exact ⟨_, rfl, by rw [HS.out, HG.out]; exact Own.row hown2, hb2⟩

/-- BandSizes, as numbers. -/
def bsB (n L : Int) : Bool := decide (1 ≤ n ∧ n ≤ 128 ∧ 1 ≤ L ∧ L ≤ 6)
def bsL (n L : Int) : List Int := if bsB n L then szF L.toNat n else []
theorem bsL_len (n L : Int) : (bsL n L).length ≤ 7 := by
  unfold bsL
  split
  · rename_i h
    have h' := of_decide_eq_true h
    have := (szF_len L.toNat n).2
    omega
  · simp
theorem own_nil (w : World) (lo : Nat) : Own w lo (.slice none 0 0) (il []) := ⟨none, 0, rfl, Nat.le_refl _, Nat.zero_le _, fun h => absurd h (by simp [il])⟩
/-- Returns a list and whether there is one. -/
def RetL (xs : List Int) (b : Bool) (w : World) (e : Ending) (w' : World) : Prop := ∃ v, e = .returned (.tuple #[v, .bool b]) ∧ Own w' w.heap.size v (il xs) ∧ Below w.heap.size w w'

theorem isLevels_yes (L : Int) (w : World) (h0 : 1 ≤ L) (h1 : L ≤ 6) : Calls Try.prog 71 #[.int .i64 L] w fun e w' => e = .returned (.bool true) ∧ w = w' := by
  go_enter Try.func71, Try.ntmps71
  go_wp2
  go_ret
  have hd : decide (L ≤ 6) = true := decide_eq_true (by omega)
  first | exact ⟨rfl, rfl⟩ | exact ⟨by rw [← hd]; rfl, rfl⟩
theorem isLevels_no (L : Int) (w : World) (h : L < 1 ∨ 6 < L) : Calls Try.prog 71 #[.int .i64 L] w fun e w' => e = .returned (.bool false) ∧ w = w' := by
  by_cases h0 : L < 1
  · clear h
    go_enter Try.func71, Try.ntmps71
    go_wp2
    go_ret
    exact ⟨rfl, rfl⟩
  · have h1 : 1 ≤ L := by omega
    have h2 : 6 < L := by omega
    clear h h0
    go_enter Try.func71, Try.ntmps71
    go_wp2
    go_ret
    have hd : decide (L ≤ 6) = false := decide_eq_false (by omega)
    first | exact ⟨rfl, rfl⟩ | exact ⟨by rw [← hd]; rfl, rfl⟩
set_option maxHeartbeats 400000 in
theorem bsI_any (n L : Int) (w : World) : Calls Try.prog 34 #[.int .i64 n, .int .i64 L] w (RetL (bsL n L) (bsB n L) w) := by
  cases hb : bsB n L with
  | true =>
    have hh := of_decide_eq_true hb
    obtain ⟨h0, h1, h2, h3⟩ := hh
    have hl : bsL n L = szF L.toNat n := by unfold bsL; rw [hb]; rfl
    rw [hl]
    clear hl hb
    obtain ⟨K, rfl⟩ := Int.eq_ofNat_of_zero_le (by omega : 0 ≤ L)
    rw [Int.toNat_natCast]
    go_enter Try.func34, Try.ntmps34
    go_wp2_with (first | (go_at_call 71; refine (isLevels_yes _ _ h2 h3).mono ?_; rintro e w' ⟨rfl, rfl⟩) | (go_at_call 72; refine (szI_any _ _ _ h0 h1 (by omega) (by omega)).mono ?_; rintro e w1 ⟨v, rfl, ho, hb⟩))
    go_ret2
    exact ⟨_, rfl, ho, hb⟩
  | false =>
    have hh := of_decide_eq_false hb
    have hl : bsL n L = [] := by unfold bsL; rw [hb]; rfl
    rw [hl]
    clear hl hb
    by_cases a : n < 1
    · clear hh
      go_enter Try.func34, Try.ntmps34
      go_wp2_with fail
      go_ret2
      exact ⟨_, rfl, own_nil _ _, Below.refl _ _⟩
    · have a' : 1 ≤ n := by omega
      clear a
      by_cases b : 128 < n
      · clear hh
        go_enter Try.func34, Try.ntmps34
        go_wp2_with fail
        go_ret2
        exact ⟨_, rfl, own_nil _ _, Below.refl _ _⟩
      · have b' : n ≤ 128 := by omega
        clear b
        have c : L < 1 ∨ 6 < L := by omega
        clear hh
        go_enter Try.func34, Try.ntmps34
        go_wp2_with (go_at_call 71; refine (isLevels_no _ _ c).mono ?_; rintro e w' ⟨rfl, rfl⟩)
        go_ret2
        exact ⟨_, rfl, own_nil _ _, Below.refl _ _⟩
set_option maxHeartbeats 400000 in
theorem bsS_any (n L : Int) (w : World) : Calls Try.prog 33 #[.int .i64 n, .int .i64 L] w (RetL (bsL n L) (bsB n L) w) := by
  cases hb : bsB n L with
  | true =>
    have hh := of_decide_eq_true hb
    obtain ⟨h0, h1, h2, h3⟩ := hh
    have hl : bsL n L = szF L.toNat n := by unfold bsL; rw [hb]; rfl
    rw [hl]
    clear hl hb
    obtain ⟨K, rfl⟩ := Int.eq_ofNat_of_zero_le (by omega : 0 ≤ L)
    rw [Int.toNat_natCast]
    go_enter Try.func33, Try.ntmps33
    go_wp2_with (first | (go_at_call 57; refine (in_yes _ _ _ _ (by omega) (by omega)).mono ?_; rintro e w' ⟨rfl, rfl⟩) | (go_at_call 69; go_in) | (go_at_call 70; refine (szS_any _ _ _ h0 h1 (by omega) (by omega)).mono ?_; rintro e w1 ⟨v, rfl, ho, hb⟩))
    go_ret2
    exact ⟨_, rfl, ho, hb⟩
  | false =>
    have hh := of_decide_eq_false hb
    have hl : bsL n L = [] := by unfold bsL; rw [hb]; rfl
    rw [hl]
    clear hl hb
    by_cases a : n < 1 ∨ 128 < n
    · clear hh
      go_enter Try.func33, Try.ntmps33
      go_wp2_with (go_at_call 57; refine (in_not _ _ _ _ a).mono ?_; rintro e w' ⟨rfl, rfl⟩)
      go_ret2
      exact ⟨_, rfl, own_nil _ _, Below.refl _ _⟩
    · have a' : 1 ≤ n := by omega
      have b' : n ≤ 128 := by omega
      clear a
      have c : L < 1 ∨ 6 < L := by omega
      clear hh
      go_enter Try.func33, Try.ntmps33
      go_wp2_with (first | (go_at_call 69; go_in) | (go_at_call 57; first | (refine (in_yes _ _ _ _ (by omega) (by omega)).mono ?_; rintro e w' ⟨rfl, rfl⟩) | (refine (in_not _ _ _ _ (by omega)).mono ?_; rintro e w' ⟨rfl, rfl⟩)))
      go_ret2
      exact ⟨_, rfl, own_nil _ _, Below.refl _ _⟩
end Go.Proofs.Yteogogcjndfkoaa
