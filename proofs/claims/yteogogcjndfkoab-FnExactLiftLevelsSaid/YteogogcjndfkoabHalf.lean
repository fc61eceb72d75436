/-
  Contracts: evens and odds of lists of int64, of both sides.
-/
import Derived.Test.YteogogcjndfkoabInt
import Derived.Maps.AppendAt
namespace Go.Proofs.Yteogogcjndfkoab
open Go.RowKit
set_option linter.unusedVariables false

def evF (xs : List Int) : List Int := (List.range ((xs.length + 1) / 2)).map fun j => xs.getD (2 * j) 0
def odF (xs : List Int) : List Int := (List.range (xs.length / 2)).map fun j => xs.getD (2 * j + 1) 0
theorem evF_len (xs : List Int) : (evF xs).length = (xs.length + 1) / 2 := by simp [evF]
theorem odF_len (xs : List Int) : (odF xs).length = xs.length / 2 := by simp [odF]
def evT (xs : List Int) (k : Nat) : List Int := (List.range ((k + 1) / 2)).map fun j => xs.getD (2 * j) 0
def odT (xs : List Int) (k : Nat) : List Int := (List.range (k / 2)).map fun j => xs.getD (2 * j + 1) 0
theorem evT_even (xs : List Int) (k : Nat) (h : k < xs.length) (he : k % 2 = 0) : evT xs (k + 1) = evT xs k ++ [xs[k]] := by
  unfold evT
  rw [show (k + 1 + 1) / 2 = (k + 1) / 2 + 1 by omega, List.range_succ, List.map_append]
  simp [show 2 * ((k + 1) / 2) = k by omega, List.getD, h]
theorem evT_odd (xs : List Int) (k : Nat) (he : k % 2 = 1) : evT xs (k + 1) = evT xs k := by
  unfold evT; rw [show (k + 1 + 1) / 2 = (k + 1) / 2 by omega]
theorem odT_odd (xs : List Int) (k : Nat) (h : k < xs.length) (he : k % 2 = 1) : odT xs (k + 1) = odT xs k ++ [xs[k]] := by
  unfold odT
  rw [show (k + 1) / 2 = k / 2 + 1 by omega, List.range_succ, List.map_append]
  simp [show 2 * (k / 2) + 1 = k by omega, List.getD, h]
theorem odT_even (xs : List Int) (k : Nat) (he : k % 2 = 0) : odT xs (k + 1) = odT xs k := by
  unfold odT; rw [show (k + 1) / 2 = k / 2 by omega]
theorem evT_len (xs : List Int) (k : Nat) : (evT xs k).length = (k + 1) / 2 := by simp [evT]
theorem odT_len (xs : List Int) (k : Nat) : (odT xs k).length = k / 2 := by simp [odT]
theorem one_new (w : World) (x : Value) (E : TypeId) : ∀ j u, [x][j]? = some u → (w.alloc (.cells #[x] E)).cell? ((⟨w.heap.size, 0, none⟩ : Addr).add j) = some u := by
  intro j u hu
  cases j with
  | zero =>
    simp at hu; subst hu
    rw [Go.WideShapes.add_plain]
    exact (cell_of_row _ _ _ _ _ _ (heap_alloc_new w _)).trans rfl
  | succ j => simp at hu
theorem il_app (xs : List Int) (x : Int) : il (xs ++ [x]) = il xs ++ [.int .i64 x] := by simp [il]
theorem one_cellI (n : Int) : ∀ u ∈ [Value.int .i64 n], u.oneCell' = true := ints_oneCell .i64 [n]

/-- Two slice values of the call's own lie in different blocks. -/
def DJ (v u : Value) : Prop := ∀ k, v.ownBlock = some k → u.ownBlock = some k → False
theorem DJ.apart {v u : Value} (h : DJ v u) : Apart u v := by
  intro a n c b m d e1 e2
  subst e1 e2
  have h1 := h b.block rfl
  by_cases hb : a.block = b.block
  · exact absurd (by show some a.block = _; rw [hb]) h1
  · exact .inr (.inr (.inl hb))
theorem DJ.grow {v u v' : Value} {w : World} {base : Nat} {e : TypeId} {n : Nat} {xs : List Value} (h : DJ v u) (hu : w.ownsRow base e 1 u n xs) {s : Nat} (hs : w.heap.size ≤ s) (hat : v'.ownBlock = v.ownBlock ∨ v'.ownBlock = some s) : DJ v' u := by
  intro k h1 h2
  rcases hat with e | e
  · exact h k (by rw [← e]; exact h1) h2
  · rw [e] at h1
    have := hu.lt k h2
    simp only [Option.some.injEq] at h1
    omega
theorem DJ.symm {v u : Value} (h : DJ v u) : DJ u v := fun k a b => h k b a
theorem dj_kept {v u : Value} (h : DJ v u) : u.ownBlock = none ∨ u.ownBlock ≠ v.ownBlock := by
  cases hu : u.ownBlock with
  | none => exact .inl rfl
  | some k => exact .inr fun e => h k e.symm hu

/-- Returns two lists of its own. -/
def RetLL (xs ys : List Int) (w : World) (e : Ending) (w' : World) : Prop :=
  ∃ v u, e = .returned (.tuple #[v, u]) ∧ Own w' w.heap.size v (il xs) ∧ Own w' w.heap.size u (il ys) ∧ Apart u v ∧ Below w.heap.size w w'
def SpRel (w : World) (xs : List Int) (v u i : Value) (wr : World) : Prop :=
  ∃ k : Nat, k ≤ xs.length ∧ i = .int .i64 k ∧ wr.ownsRow w.heap.size 2 1 v ((k + 1) / 2) (il (evT xs k)) ∧ wr.ownsRow w.heap.size 2 1 u (k / 2) (il (odT xs k)) ∧ DJ v u ∧ Below w.heap.size w wr

set_option maxHeartbeats 2000000 in
theorem splS_any (vl : Value) (xs : List Int) (w : World) (h : Rd w w.heap.size vl (il xs)) (hm : xs.length ≤ 1048576) :
    Calls Try.prog 96 #[vl] w (RetLL (evF xs) (odF xs) w) := by
  obtain ⟨i0, hi, hz0, hz1, hz2⟩ := info_parts infoI
  obtain ⟨A, c, hv, hc1, hc2, hcell⟩ := h
  rw [il_len] at hv hc1 hcell
  subst hv
  have hC := Lib.hid hcell
  clear hcell
  go_enter Try.func96, Try.ntmps96
  go_wp2
  have ho1 : ((w.alloc (Obj.cells #[] 2)).alloc (Obj.cells #[] 2)).ownsRow w.heap.size 2 1 (.slice (some ⟨w.heap.size, 0, none⟩) 0 0) 0 (il []) := (World.ownsRow_made w #[] 0 (Nat.le_refl _) (Nat.zero_le _) rfl).alloc _
  have ho2 : ((w.alloc (Obj.cells #[] 2)).alloc (Obj.cells #[] 2)).ownsRow w.heap.size 2 1 (.slice (some ⟨w.heap.size + 1, 0, none⟩) 0 0) 0 (il []) := by
    have := World.ownsRow_made (base := w.heap.size) (e := 2) (size := 1) (w.alloc (Obj.cells #[] 2)) #[] 0 (by simp) (Nat.zero_le _) rfl
    simpa [il] using this
  have hb0 : Below w.heap.size w ((w.alloc (Obj.cells #[] 2)).alloc (Obj.cells #[] 2)) := ((Below.refl _ _).alloc (Nat.le_refl _) _).alloc (by simp) _
  have hd0 : DJ (.slice (some ⟨w.heap.size, 0, none⟩) 0 0) (.slice (some ⟨w.heap.size + 1, 0, none⟩) 0 0) := by
    intro k h1 h2
    simp only [Value.ownBlock, Option.some.injEq] at h1 h2
    omega
  go_loopw [4, 5, 6] (SpRel w xs) (fun _ _ i _ => xs.length - (intOf i).toNat)
  case atStart => exact ⟨0, Nat.zero_le _, rfl, ho1, ho2, hd0, hb0⟩
  case round =>
    obtain ⟨k, hk, rfl, hov, hou, hdj, hb⟩ := hrel
    clear ho1 ho2 hb0 hd0
    by_cases hlt : k < xs.length
    · obtain ⟨b, off, rfl, hbl, hcc⟩ := hC.out (by omega)
      have hsrc : wr.cell? ⟨b, off + k, none⟩ = some (.int .i64 xs[k]) := (hb.cell (p := ⟨b, off + k, none⟩) hbl).trans (hcc k _ (il_get xs k hlt))
      clear hcc hC
      by_cases he : k % 2 = 0
      · have he' : (((k : Int) % 2) == 0) = true := by rw [beq_iff_eq]; omega
        have HE := Lib.hid (evT_even xs k hlt he)
        have HO := Lib.hid (odT_even xs k he)
        have e1 : (k + 1 + 1) / 2 = (k + 1) / 2 + 1 := by omega
        have e2 : (k + 1) / 2 = k / 2 := by omega
        have E1 := Lib.hid e1
        have E2 := Lib.hid e2
        clear he e1 e2
        go_wp2_with (at_builtin; refine wpList_append_own_at _ rfl _ _ 52 rfl w.heap.size 2 i0 (.int .i64 0) 1 8 Try.underlying52 hi hz0 hz1 hz2 rfl (by decide) _ _ _ rfl (hov.alloc _) ⟨wr.heap.size, 0, none⟩ 1 1 [.int .i64 xs[k]] rfl rfl (one_new _ _ _) (one_cellI _) (by unfold maxLen; omega) (by omega) (by simp; have := hb.size; omega) ?_; intro v' w1 hown' hgrow _ hat)
        have q1 : w1.ownsRow w.heap.size 2 1 v' ((k + 1 + 1) / 2) (il (evT xs (k + 1))) := by rw [E1.out, HE.out, il_app]; exact hown'
        have q2 := (hou.alloc (Obj.cells #[.int .i64 xs[k]] 2)).kept hgrow (dj_kept hdj)
        rw [← E2.out, ← HO.out] at q2
        have q3 := hdj.grow hou (s := (wr.alloc (Obj.cells #[.int .i64 xs[k]] 2)).heap.size) (by simp) hat
        have q4 : Below w.heap.size w w1 := (hb.alloc hb.size _).grown hgrow (by simp; have := hb.size; omega) (fun j hj => (hov.lt j hj).1)
        clear hown' hgrow hat hov hou hdj hb
        go_wp2
        go_roundw
        case rel => exact ⟨k + 1, by omega, by go_num, q1, q2, q3, q4⟩
        case measure => simp [intOf]; omega
      · have he1 : k % 2 = 1 := by omega
        have he' : (((k : Int) % 2) == 0) = false := by rw [beq_eq_false_iff_ne]; omega
        have HE := Lib.hid (evT_odd xs k he1)
        have HO := Lib.hid (odT_odd xs k hlt he1)
        have e1 : (k + 1 + 1) / 2 = (k + 1) / 2 := by omega
        have e2 : (k + 1) / 2 = k / 2 + 1 := by omega
        have E1 := Lib.hid e1
        have E2 := Lib.hid e2
        clear he he1 e1 e2
        go_wp2_with (at_builtin; refine wpList_append_own_at _ rfl _ _ 52 rfl w.heap.size 2 i0 (.int .i64 0) 1 8 Try.underlying52 hi hz0 hz1 hz2 rfl (by decide) _ _ _ rfl (hou.alloc _) ⟨wr.heap.size, 0, none⟩ 1 1 [.int .i64 xs[k]] rfl rfl (one_new _ _ _) (one_cellI _) (by unfold maxLen; omega) (by omega) (by simp; have := hb.size; omega) ?_; intro v' w1 hown' hgrow _ hat)
        have q1 := (hov.alloc (Obj.cells #[.int .i64 xs[k]] 2)).kept hgrow (dj_kept hdj.symm)
        rw [← E1.out, ← HE.out] at q1
        have q2 : w1.ownsRow w.heap.size 2 1 v' ((k + 1) / 2) (il (odT xs (k + 1))) := by rw [HO.out, E2.out, il_app]; exact hown'
        have q3 := (hdj.symm.grow hov (s := (wr.alloc (Obj.cells #[.int .i64 xs[k]] 2)).heap.size) (by simp) hat).symm
        have q4 : Below w.heap.size w w1 := (hb.alloc hb.size _).grown hgrow (by simp; have := hb.size; omega) (fun j hj => (hou.lt j hj).1)
        clear hown' hgrow hat hov hou hdj hb
        go_wp2
        go_roundw
        case rel => exact ⟨k + 1, by omega, by go_num, q1, q2, q3, q4⟩
        case measure => simp [intOf]; omega
    · obtain rfl : k = xs.length := by omega
      go_wp2
      go_ret2
      exact ⟨_, _, rfl, Own.row hov, Own.row hou, hdj.apart, hb⟩

def hvAt (xs : List Int) (k i : Nat) : Int :=
  if i < (xs.length + 1) / 2 then (if 2 * i < k then xs.getD (2 * i) 0 else 0) else (if 2 * (i - (xs.length + 1) / 2) + 1 < k then xs.getD (2 * (i - (xs.length + 1) / 2) + 1) 0 else 0)
def hvF (xs : List Int) (k : Nat) : List Int := (List.range xs.length).map (hvAt xs k)
theorem range_set {f g : Nat → Int} {n p : Nat} {x : Int} (hp : p < n) (hx : g p = x) (h : ∀ i, i < n → i ≠ p → f i = g i) : ((List.range n).map f).set p x = (List.range n).map g := by
  apply List.ext_getElem?
  intro i
  rw [List.getElem?_set]
  by_cases h1 : p = i
  · subst h1
    rw [if_pos rfl, if_pos (by simpa using hp)]
    simp [hp, hx]
  · rw [if_neg h1]
    by_cases hi : i < n
    · simp [hi, h i hi (by omega)]
    · simp [hi]
theorem hv_zero (xs : List Int) : hvF xs 0 = List.replicate xs.length 0 := by
  apply List.ext_getElem?
  intro i
  by_cases hi : i < xs.length
  · simp [hvF, hvAt, hi]
  · simp [hvF, hi]
theorem hv_all (xs : List Int) : hvF xs xs.length = evF xs ++ odF xs := by
  apply List.ext_getElem?
  intro i
  by_cases hi : i < (xs.length + 1) / 2
  · rw [List.getElem?_append_left (by rw [evF_len]; exact hi)]
    simp [hvF, hvAt, evF, hi, show i < xs.length by omega, show 2 * i < xs.length by omega]
  · rw [List.getElem?_append_right (by rw [evF_len]; omega), evF_len]
    by_cases h2 : i < xs.length
    · simp [hvF, hvAt, odF, hi, h2, show i - (xs.length + 1) / 2 < xs.length / 2 by omega, show 2 * (i - (xs.length + 1) / 2) + 1 < xs.length by omega]
    · rw [List.getElem?_eq_none (by simp [hvF]; omega), List.getElem?_eq_none (by rw [odF_len]; omega)]
theorem hv_even (xs : List Int) (k : Nat) (h : k < xs.length) (he : k % 2 = 0) : (hvF xs k).set (k / 2) xs[k] = hvF xs (k + 1) := by
  refine range_set (by omega) ?_ ?_
  · unfold hvAt
    rw [if_pos (by omega), if_pos (by omega), show 2 * (k / 2) = k by omega]
    simp [List.getD, h]
  · intro i hi hne
    unfold hvAt
    by_cases h1 : i < (xs.length + 1) / 2
    · rw [if_pos h1, if_pos h1]
      by_cases h2 : 2 * i < k
      · rw [if_pos h2, if_pos (by omega)]
      · rw [if_neg h2, if_neg (by omega)]
    · rw [if_neg h1, if_neg h1]
      by_cases h2 : 2 * (i - (xs.length + 1) / 2) + 1 < k
      · rw [if_pos h2, if_pos (by omega)]
      · rw [if_neg h2, if_neg (by omega)]
theorem hv_odd (xs : List Int) (k : Nat) (h : k < xs.length) (he : k % 2 = 1) : (hvF xs k).set ((xs.length + 1) / 2 + k / 2) xs[k] = hvF xs (k + 1) := by
  refine range_set (by omega) ?_ ?_
  · unfold hvAt
    rw [if_neg (by omega), if_pos (by omega), show 2 * ((xs.length + 1) / 2 + k / 2 - (xs.length + 1) / 2) + 1 = k by omega]
    simp [List.getD, h]
  · intro i hi hne
    unfold hvAt
    by_cases h1 : i < (xs.length + 1) / 2
    · rw [if_pos h1, if_pos h1]
      by_cases h2 : 2 * i < k
      · rw [if_pos h2, if_pos (by omega)]
      · rw [if_neg h2, if_neg (by omega)]
    · rw [if_neg h1, if_neg h1]
      by_cases h2 : 2 * (i - (xs.length + 1) / 2) + 1 < k
      · rw [if_pos h2, if_pos (by omega)]
      · rw [if_neg h2, if_neg (by omega)]

def HvRel (w : World) (xs : List Int) (i : Value) (wr : World) : Prop :=
  ∃ k : Nat, k ≤ xs.length ∧ i = .int .i64 k ∧ wr.ownsRow w.heap.size 2 1 (.slice (some ⟨w.heap.size, 0, none⟩) xs.length xs.length) xs.length (il (hvF xs k)) ∧ Below w.heap.size w wr
/-- The two parts of one row. -/
theorem own_parts {w : World} {base g : Nat} {e : TypeId} {ev od : List Value} {n : Nat} (h : w.ownsRow base e 1 (.slice (some ⟨g, 0, none⟩) n n) n (ev ++ od)) (hb : base ≤ g) :
    Own w base (.slice (some ⟨g, 0, none⟩) ev.length ev.length) ev ∧ ∀ a, (0 < od.length → a = some ⟨g, ev.length, none⟩) → Own w base (.slice a od.length od.length) od := by
  have hl : ev.length + od.length = n := by have := h.1; simp at this; omega
  have hgw := (h.lt g rfl).2
  have hm : n ≤ maxLen := by
    rcases h.2 with ⟨h', _⟩ | ⟨g', cap', cur, h', _, _, _, hcm, _⟩
    · simp at h'
    · simp only [Value.slice.injEq] at h'
      omega
  refine ⟨⟨_, _, rfl, Nat.le_refl _, by omega, fun hp => ⟨g, 0, rfl, hb, hgw, fun i x hx => ?_, fun i hi => ?_⟩⟩, fun a ha => ⟨_, _, rfl, Nat.le_refl _, by omega, fun hp => ⟨g, ev.length, ha hp, hb, hgw, fun i x hx => ?_, fun i hi => ?_⟩⟩⟩
  · have hi := (List.getElem?_eq_some_iff.1 hx).1
    rw [Nat.zero_add, h.cellAt i (by omega), List.getElem?_append_left hi]; exact hx
  · rw [Nat.zero_add]; exact h.frozenAt i
  · have hi := (List.getElem?_eq_some_iff.1 hx).1
    rw [h.cellAt _ (by omega), List.getElem?_append_right (by omega), Nat.add_sub_cancel_left]; exact hx
  · exact h.frozenAt _

set_option maxHeartbeats 2000000 in
theorem splI_any (vl : Value) (xs : List Int) (w : World) (h : Rd w w.heap.size vl (il xs)) (hm : xs.length ≤ 1048576) (hp : 2 ≤ xs.length) :
    Calls Try.prog 102 #[vl] w (RetLL (evF xs) (odF xs) w) := by
  obtain ⟨i0, hi, hz0, hz1, hz2⟩ := info_parts infoI
  obtain ⟨A, c, hv, hc1, hc2, hcell⟩ := h
  rw [il_len] at hv hc1 hcell
  subst hv
  obtain ⟨b, off, rfl, hbl, hcc⟩ := hcell (by omega)
  have hC := Lib.hid hcc
  clear hcell hcc
  obtain ⟨mid, hmid⟩ : ∃ m : Nat, m = (xs.length + 1) / 2 := ⟨_, rfl⟩
  have hmi : ((xs.length : Int) + 1) / 2 = (mid : Int) := by omega
  have hm1 : 1 ≤ mid := by omega
  have hm2 : mid < xs.length := by omega
  have hm3 : xs.length ≤ 2 * mid := by omega
  have hm4 : 2 * mid ≤ xs.length + 1 := by omega
  have HM := Lib.hid hmid
  clear hmid
  go_enter Try.func102, Try.ntmps102
  go_wp2_with (refine wpList_make_full _ rfl _ _ 52 rfl w.heap.size 2 i0 (.int .i64 0) 1 Try.underlying52 hi hz0 hz1 .i64 .i64 _ _ xs.length rfl rfl rfl rfl (by rw [hz2]; omega) (by unfold maxLen; omega) (Nat.le_refl _) ?_; intro w1 hown hgrow)
  have hb1 : Below w.heap.size w w1 := (Below.refl _ _).grown hgrow (Nat.le_refl _) (fun _ h => by cases h)
  have hown1 : w1.ownsRow w.heap.size 2 1 (.slice (some ⟨w.heap.size, 0, none⟩) xs.length xs.length) xs.length (il (hvF xs 0)) := by
    rw [hv_zero]
    have e : (madeCells (Value.cells (.int .i64 0)) (xs.length * 1)).toList = il (List.replicate xs.length 0) := by
      rw [Nat.mul_one]
      show (madeCells #[Value.int .i64 0] xs.length).toList = _
      rw [toList_madeCells_one]; simp [il]
    rw [← e]; exact hown
  clear hown hgrow
  go_quiet (fail)
  go_wp2
  go_loopw [27] (HvRel w xs) (fun i _ => xs.length - (intOf i).toNat)
  case atStart => exact ⟨0, Nat.zero_le _, rfl, hown1, below_drawn hb1 _⟩
  case round =>
    obtain ⟨k, hk, rfl, hown, hb⟩ := hrel
    clear hown1 hb1
    by_cases hlt : k < xs.length
    · have hsrc : wr.cell? ⟨b, off + k, none⟩ = some (.int .i64 xs[k]) := (hb.cell (p := ⟨b, off + k, none⟩) hbl).trans (hC.out k _ (il_get xs k hlt))
      have hlen : (il (hvF xs k)).length = xs.length := by rw [hown.1]; omega
      obtain ⟨q, hqd⟩ : ∃ q : Nat, q = k / 2 := ⟨_, rfl⟩
      have hq : (k : Int) / 2 = (q : Int) := by omega
      have hq1 : 2 * q ≤ k := by omega
      have hq2 : k ≤ 2 * q + 1 := by omega
      have HQ := Lib.hid hqd
      clear hqd
      by_cases he : k % 2 = 0
      · have he' : (((k : Int) % 2) == 0) = true := by rw [beq_iff_eq]; omega
        have hq3 : q < mid := by omega
        have hst := (hown.stored (q) (.int .i64 xs[k])).1
        have hs2 : (hvF xs k).set (q) xs[k] = hvF xs (k + 1) := by have := hv_even xs k hlt he; rw [← HQ.out] at this; exact this
        rw [il_set, hs2] at hst
        obtain ⟨x0, hdst⟩ : ∃ x0, wr.cell? ⟨w.heap.size, q, none⟩ = some x0 :=
          ⟨(il (hvF xs k))[q]'(by rw [hlen]; omega), by rw [hown.cellAt (q) (by omega)]; exact List.getElem?_eq_getElem _⟩
        have hfz : wr.frozen? ⟨w.heap.size, q, none⟩ = false := hown.frozenAt (q)
        have hbb : Below w.heap.size w (wr.setCell ⟨w.heap.size, q, none⟩ (.int .i64 xs[k])) := hb.setCell (Nat.le_refl _) _
        have HO := Lib.hid hst
        have HB := Lib.hid hbb
        clear hst hbb hown hb hlen he hs2 
        go_wp2
        go_roundw
        case rel => exact ⟨k + 1, by omega, by go_num, HO.out, HB.out⟩
        case measure => simp [intOf]; omega
      · have he1 : k % 2 = 1 := by omega
        have he' : (((k : Int) % 2) == 0) = false := by rw [beq_eq_false_iff_ne]; omega
        have hq3 : q < xs.length - mid := by have := HM.out; omega
        have hst := (hown.stored (mid + q) (.int .i64 xs[k])).1
        have hs2 : (hvF xs k).set (mid + q) xs[k] = hvF xs (k + 1) := by have := hv_odd xs k hlt he1; rw [← HM.out, ← HQ.out] at this; exact this
        rw [il_set, hs2] at hst
        obtain ⟨x0, hdst⟩ : ∃ x0, wr.cell? ⟨w.heap.size, mid + q, none⟩ = some x0 :=
          ⟨(il (hvF xs k))[mid + q]'(by rw [hlen]; omega), by rw [hown.cellAt (mid + q) (by omega)]; exact List.getElem?_eq_getElem _⟩
        have hfz : wr.frozen? ⟨w.heap.size, mid + q, none⟩ = false := hown.frozenAt (mid + q)
        have hbb : Below w.heap.size w (wr.setCell ⟨w.heap.size, mid + q, none⟩ (.int .i64 xs[k])) := hb.setCell (Nat.le_refl _) _
        have HO := Lib.hid hst
        have HB := Lib.hid hbb
        clear hst hbb hown hb hlen he hs2 he1
        go_wp2
        go_roundw
        case rel => exact ⟨k + 1, by omega, by go_num, HO.out, HB.out⟩
        case measure => simp [intOf]; omega
    · obtain rfl : k = xs.length := by omega
      rw [hv_all] at hown
      rw [show il (evF xs ++ odF xs) = il (evF xs) ++ il (odF xs) by simp [il]] at hown
      obtain ⟨o1, o2⟩ := own_parts hown (Nat.le_refl _)
      have o3 := o2 (some ⟨w.heap.size, mid, none⟩) (fun _ => by rw [il_len, evF_len, ← HM.out])
      rw [il_len, evF_len, ← HM.out] at o1
      have hl2 : (il (odF xs)).length = xs.length - mid := by rw [il_len, odF_len]; have := HM.out; omega
      rw [hl2] at o3
      have O1 := Lib.hid o1
      have O3 := Lib.hid o3
      clear o1 o2 o3 hl2 hown
      go_wp2
      go_ret2
      refine ⟨_, _, rfl, O1.out, O3.out, ?_, hb⟩
      intro a n c' b' m d e1 e2
      cases e1
      cases e2
      simp only []
      omega
set_option maxHeartbeats 2000000 in
theorem splI_one (vl : Value) (xs : List Int) (w : World) (h : Rd w w.heap.size vl (il xs)) (hm : xs.length ≤ 1048576) (hp : xs.length = 1) :
    Calls Try.prog 102 #[vl] w (RetLL (evF xs) (odF xs) w) := by
  obtain ⟨i0, hi, hz0, hz1, hz2⟩ := info_parts infoI
  obtain ⟨A, c, hv, hc1, hc2, hcell⟩ := h
  rw [il_len] at hv hc1 hcell
  subst hv
  obtain ⟨b, off, rfl, hbl, hcc⟩ := hcell (by omega)
  have hC := Lib.hid hcc
  clear hcell hcc
  have hmi : ((xs.length : Int) + 1) / 2 = (xs.length : Int) := by omega
  have hp1 : 1 ≤ xs.length := by omega
  have hp2 : xs.length ≤ 1 := by omega
  have HP := Lib.hid hp
  clear hp
  go_enter Try.func102, Try.ntmps102
  go_wp2_with (refine wpList_make_full _ rfl _ _ 52 rfl w.heap.size 2 i0 (.int .i64 0) 1 Try.underlying52 hi hz0 hz1 .i64 .i64 _ _ xs.length rfl rfl rfl rfl (by rw [hz2]; omega) (by unfold maxLen; omega) (Nat.le_refl _) ?_; intro w1 hown hgrow)
  have hb1 : Below w.heap.size w w1 := (Below.refl _ _).grown hgrow (Nat.le_refl _) (fun _ h => by cases h)
  have hown1 : w1.ownsRow w.heap.size 2 1 (.slice (some ⟨w.heap.size, 0, none⟩) xs.length xs.length) xs.length (il (hvF xs 0)) := by
    rw [hv_zero]
    have e : (madeCells (Value.cells (.int .i64 0)) (xs.length * 1)).toList = il (List.replicate xs.length 0) := by
      rw [Nat.mul_one]
      show (madeCells #[Value.int .i64 0] xs.length).toList = _
      rw [toList_madeCells_one]; simp [il]
    rw [← e]; exact hown
  clear hown hgrow
  go_quiet (fail)
  go_wp2
  go_loopw [27] (HvRel w xs) (fun i _ => xs.length - (intOf i).toNat)
  case atStart => exact ⟨0, Nat.zero_le _, rfl, hown1, below_drawn hb1 _⟩
  case round =>
    obtain ⟨k, hk, rfl, hown, hb⟩ := hrel
    clear hown1 hb1
    by_cases hlt : k < xs.length
    · obtain rfl : k = 0 := by omega
      have hsrc : wr.cell? ⟨b, off, none⟩ = some (.int .i64 xs[0]) := (hb.cell (p := ⟨b, off + 0, none⟩) hbl).trans (hC.out 0 _ (il_get xs 0 hlt))
      have hlen : (il (hvF xs 0)).length = xs.length := by rw [hown.1]; omega
      have hst := (hown.stored 0 (.int .i64 xs[0])).1
      rw [il_set, hv_even xs 0 hlt rfl] at hst
      obtain ⟨x0, hdst⟩ : ∃ x0, wr.cell? ⟨w.heap.size, 0, none⟩ = some x0 :=
        ⟨(il (hvF xs 0))[0]'(by rw [hlen]; omega), by rw [hown.cellAt 0 (by omega)]; exact List.getElem?_eq_getElem _⟩
      have hfz : wr.frozen? ⟨w.heap.size, 0, none⟩ = false := hown.frozenAt 0
      have hbb : Below w.heap.size w (wr.setCell ⟨w.heap.size, 0, none⟩ (.int .i64 xs[0])) := hb.setCell (Nat.le_refl _) _
      have HO := Lib.hid hst
      have HB := Lib.hid hbb
      clear hst hbb hown hb hlen
      go_wp2
      go_roundw
      case rel => exact ⟨1, by omega, by go_num, HO.out, HB.out⟩
      case measure => simp [intOf]; omega
    · obtain rfl : k = xs.length := by omega
      rw [hv_all] at hown
      rw [show il (evF xs ++ odF xs) = il (evF xs) ++ il (odF xs) by simp [il]] at hown
      obtain ⟨o1, o2⟩ := own_parts hown (Nat.le_refl _)
      have hod : odF xs = [] := List.eq_nil_of_length_eq_zero (by rw [odF_len, HP.out])
      have hev : (il (evF xs)).length = xs.length := by rw [il_len, evF_len, HP.out]
      rw [hev] at o1
      have O1 := Lib.hid o1
      have OD := Lib.hid hod
      clear o1 o2 hown hod hev
      go_wp2
      go_ret2
      refine ⟨_, _, rfl, O1.out, by rw [OD.out]; exact ⟨_, _, rfl, by simp [il], by simp [maxLen], fun h => absurd h (by simp [il])⟩, ?_, hb⟩
      intro a n c' b' m d e1 e2
      cases e1
      cases e2
      simp only []
      omega
end Go.Proofs.Yteogogcjndfkoab
