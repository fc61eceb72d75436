/-
  Contracts: evens and odds of lists of 32-bit floats, by the program.
-/
import Derived.Test.YtfbdmhkmkmbipaaHalf
import Derived.Test.YtfbdmhkmkmbipaaFin
namespace Go.Proofs.Ytfbdmhkmkmbipaa
open Go.RowKit Fl
set_option linter.unusedVariables false

def evN (xs : List Nat) : List Nat := (List.range ((xs.length + 1) / 2)).map fun j => xs.getD (2 * j) 0
def odN (xs : List Nat) : List Nat := (List.range (xs.length / 2)).map fun j => xs.getD (2 * j + 1) 0
theorem evN_len (xs : List Nat) : (evN xs).length = (xs.length + 1) / 2 := by simp [evN]
theorem odN_len (xs : List Nat) : (odN xs).length = xs.length / 2 := by simp [odN]
/-- Returns two lists of its own. -/
def RetFF (xs ys : List Nat) (w : World) (e : Ending) (w' : World) : Prop :=
  ∃ v u, e = .returned (.tuple #[v, u]) ∧ Own w' w.heap.size v (fl xs) ∧ Own w' w.heap.size u (fl ys) ∧ Apart u v ∧ Below w.heap.size w w'
def hvAtN (xs : List Nat) (k i : Nat) : Nat :=
  if i < (xs.length + 1) / 2 then (if 2 * i < k then xs.getD (2 * i) 0 else 0) else (if 2 * (i - (xs.length + 1) / 2) + 1 < k then xs.getD (2 * (i - (xs.length + 1) / 2) + 1) 0 else 0)
def hvN (xs : List Nat) (k : Nat) : List Nat := (List.range xs.length).map (hvAtN xs k)
theorem range_setN {f g : Nat → Nat} {n p : Nat} {x : Nat} (hp : p < n) (hx : g p = x) (h : ∀ i, i < n → i ≠ p → f i = g i) : ((List.range n).map f).set p x = (List.range n).map g := by
  apply List.ext_getElem?
  intro i
  rw [List.getElem?_set]
  by_cases h1 : p = i
  · subst h1
    rw [if_pos rfl, if_pos (by simpa using hp)]
    simp [hp, hx]
  · rw [if_neg h1]
    by_cases hi : i < n
    · simp [hi, h i hi (by omega)]
    · simp [hi]
theorem hvN_zero (xs : List Nat) : hvN xs 0 = List.replicate xs.length 0 := by
  apply List.ext_getElem?
  intro i
  by_cases hi : i < xs.length
  · simp [hvN, hvAtN, hi]
  · simp [hvN, hi]
theorem hvN_all (xs : List Nat) : hvN xs xs.length = evN xs ++ odN xs := by
  apply List.ext_getElem?
  intro i
  by_cases hi : i < (xs.length + 1) / 2
  · rw [List.getElem?_append_left (by rw [evN_len]; exact hi)]
    simp [hvN, hvAtN, evN, hi, show i < xs.length by omega, show 2 * i < xs.length by omega]
  · rw [List.getElem?_append_right (by rw [evN_len]; omega), evN_len]
    by_cases h2 : i < xs.length
    · simp [hvN, hvAtN, odN, hi, h2, show i - (xs.length + 1) / 2 < xs.length / 2 by omega, show 2 * (i - (xs.length + 1) / 2) + 1 < xs.length by omega]
    · rw [List.getElem?_eq_none (by simp [hvN]; omega), List.getElem?_eq_none (by rw [odN_len]; omega)]
theorem hvN_even (xs : List Nat) (k : Nat) (h : k < xs.length) (he : k % 2 = 0) : (hvN xs k).set (k / 2) xs[k] = hvN xs (k + 1) := by
  refine range_setN (by omega) ?_ ?_
  · unfold hvAtN
    rw [if_pos (by omega), if_pos (by omega), show 2 * (k / 2) = k by omega]
    simp [List.getD, h]
  · intro i hi hne
    unfold hvAtN
    by_cases h1 : i < (xs.length + 1) / 2
    · rw [if_pos h1, if_pos h1]
      by_cases h2 : 2 * i < k
      · rw [if_pos h2, if_pos (by omega)]
      · rw [if_neg h2, if_neg (by omega)]
    · rw [if_neg h1, if_neg h1]
      by_cases h2 : 2 * (i - (xs.length + 1) / 2) + 1 < k
      · rw [if_pos h2, if_pos (by omega)]
      · rw [if_neg h2, if_neg (by omega)]
theorem hvN_odd (xs : List Nat) (k : Nat) (h : k < xs.length) (he : k % 2 = 1) : (hvN xs k).set ((xs.length + 1) / 2 + k / 2) xs[k] = hvN xs (k + 1) := by
  refine range_setN (by omega) ?_ ?_
  · unfold hvAtN
    rw [if_neg (by omega), if_pos (by omega), show 2 * ((xs.length + 1) / 2 + k / 2 - (xs.length + 1) / 2) + 1 = k by omega]
    simp [List.getD, h]
  · intro i hi hne
    unfold hvAtN
    by_cases h1 : i < (xs.length + 1) / 2
    · rw [if_pos h1, if_pos h1]
      by_cases h2 : 2 * i < k
      · rw [if_pos h2, if_pos (by omega)]
      · rw [if_neg h2, if_neg (by omega)]
    · rw [if_neg h1, if_neg h1]
      by_cases h2 : 2 * (i - (xs.length + 1) / 2) + 1 < k
      · rw [if_pos h2, if_pos (by omega)]
      · rw [if_neg h2, if_neg (by omega)]

def HvRelN (w : World) (xs : List Nat) (i : Value) (wr : World) : Prop :=
  ∃ k : Nat, k ≤ xs.length ∧ i = .int .i64 k ∧ wr.ownsRow w.heap.size 23 1 (.slice (some ⟨w.heap.size, 0, none⟩) xs.length xs.length) xs.length (fl (hvN xs k)) ∧ Below w.heap.size w wr
set_option maxHeartbeats 2000000 in
theorem spfI_any (vl : Value) (xs : List Nat) (w : World) (h : Rd w w.heap.size vl (fl xs)) (hm : xs.length ≤ 1048576) (hp : 2 ≤ xs.length) :
    Calls Try.prog 120 #[vl] w (RetFF (evN xs) (odN xs) w) := by
  obtain ⟨i0, hi, hz0, hz1, hz2⟩ := info_parts infoF
  obtain ⟨A, c, hv, hc1, hc2, hcell⟩ := h
  rw [fl_len] at hv hc1 hcell
  subst hv
  obtain ⟨b, off, rfl, hbl, hcc⟩ := hcell (by omega)
  have hC := Lib.hid hcc
  clear hcell hcc
  obtain ⟨mid, hmid⟩ : ∃ m : Nat, m = (xs.length + 1) / 2 := ⟨_, rfl⟩
  have hmi : ((xs.length : Int) + 1) / 2 = (mid : Int) := by omega
  have hm1 : 1 ≤ mid := by omega
  have hm2 : mid < xs.length := by omega
  have hm3 : xs.length ≤ 2 * mid := by omega
  have hm4 : 2 * mid ≤ xs.length + 1 := by omega
  have HM := Lib.hid hmid
  clear hmid
  go_enter Try.func120, Try.ntmps120
  go_wp2_with (refine wpList_make_full _ rfl _ _ 22 rfl w.heap.size 23 i0 (.float .f32 0) 1 Try.underlying22 hi hz0 hz1 .i64 .i64 _ _ xs.length rfl rfl rfl rfl (by rw [hz2]; omega) (by unfold maxLen; omega) (Nat.le_refl _) ?_; intro w1 hown hgrow)
  have hb1 : Below w.heap.size w w1 := (Below.refl _ _).grown hgrow (Nat.le_refl _) (fun _ h => by cases h)
  have hown1 : w1.ownsRow w.heap.size 23 1 (.slice (some ⟨w.heap.size, 0, none⟩) xs.length xs.length) xs.length (fl (hvN xs 0)) := by
    rw [hvN_zero]
    have e : (madeCells (Value.cells (.float .f32 0)) (xs.length * 1)).toList = fl (List.replicate xs.length 0) := by
      rw [Nat.mul_one]
      show (madeCells #[Value.float .f32 0] xs.length).toList = _
      rw [toList_madeCells_one]; simp [fl]
    rw [← e]; exact hown
  clear hown hgrow
  have hsf : ∀ (a : Addr) (x : Nat) (w : World), (store a (.float .f32 x)).run Try.prog w = stored Try.prog w a (.float .f32 x) .plain := fun a x w => run_store _ w a _ _ rfl
  go_quiet (fail)
  go_wp2
  go_loopw [27] (HvRelN w xs) (fun i _ => xs.length - (intOf i).toNat)
  case atStart => exact ⟨0, Nat.zero_le _, rfl, hown1, below_drawn hb1 _⟩
  case round =>
    obtain ⟨k, hk, rfl, hown, hb⟩ := hrel
    clear hown1 hb1
    by_cases hlt : k < xs.length
    · have hsrc : wr.cell? ⟨b, off + k, none⟩ = some (.float .f32 xs[k]) := (hb.cell (p := ⟨b, off + k, none⟩) hbl).trans (hC.out k _ (fl_get xs k hlt))
      have hlen : (fl (hvN xs k)).length = xs.length := by rw [hown.1]; omega
      obtain ⟨q, hqd⟩ : ∃ q : Nat, q = k / 2 := ⟨_, rfl⟩
      have hq : (k : Int) / 2 = (q : Int) := by omega
      have hq1 : 2 * q ≤ k := by omega
      have hq2 : k ≤ 2 * q + 1 := by omega
      have HQ := Lib.hid hqd
      clear hqd
      by_cases he : k % 2 = 0
      · have he' : (((k : Int) % 2) == 0) = true := by rw [beq_iff_eq]; omega
        have hq3 : q < mid := by omega
        have hst := (hown.stored (q) (.float .f32 xs[k])).1
        have hs2 : (hvN xs k).set (q) xs[k] = hvN xs (k + 1) := by have := hvN_even xs k hlt he; rw [← HQ.out] at this; exact this
        rw [fl_set, hs2] at hst
        obtain ⟨x0, hdst⟩ : ∃ x0, wr.cell? ⟨w.heap.size, q, none⟩ = some x0 :=
          ⟨(fl (hvN xs k))[q]'(by rw [hlen]; omega), by rw [hown.cellAt (q) (by omega)]; exact List.getElem?_eq_getElem _⟩
        have hfz : wr.frozen? ⟨w.heap.size, q, none⟩ = false := hown.frozenAt (q)
        have hbb : Below w.heap.size w (wr.setCell ⟨w.heap.size, q, none⟩ (.float .f32 xs[k])) := hb.setCell (Nat.le_refl _) _
        have HO := Lib.hid hst
        have HB := Lib.hid hbb
        clear hst hbb hown hb hlen he hs2 
        go_wp2
        go_roundw
        case rel => exact ⟨k + 1, by omega, by go_num, HO.out, HB.out⟩
        case measure => simp [intOf]; omega
      · have he1 : k % 2 = 1 := by omega
        have he' : (((k : Int) % 2) == 0) = false := by rw [beq_eq_false_iff_ne]; omega
        have hq3 : q < xs.length - mid := by have := HM.out; omega
        have hst := (hown.stored (mid + q) (.float .f32 xs[k])).1
        have hs2 : (hvN xs k).set (mid + q) xs[k] = hvN xs (k + 1) := by have := hvN_odd xs k hlt he1; rw [← HM.out, ← HQ.out] at this; exact this
        rw [fl_set, hs2] at hst
        obtain ⟨x0, hdst⟩ : ∃ x0, wr.cell? ⟨w.heap.size, mid + q, none⟩ = some x0 :=
          ⟨(fl (hvN xs k))[mid + q]'(by rw [hlen]; omega), by rw [hown.cellAt (mid + q) (by omega)]; exact List.getElem?_eq_getElem _⟩
        have hfz : wr.frozen? ⟨w.heap.size, mid + q, none⟩ = false := hown.frozenAt (mid + q)
        have hbb : Below w.heap.size w (wr.setCell ⟨w.heap.size, mid + q, none⟩ (.float .f32 xs[k])) := hb.setCell (Nat.le_refl _) _
        have HO := Lib.hid hst
        have HB := Lib.hid hbb
        clear hst hbb hown hb hlen he hs2 he1
        go_wp2
        go_roundw
        case rel => exact ⟨k + 1, by omega, by go_num, HO.out, HB.out⟩
        case measure => simp [intOf]; omega
    · obtain rfl : k = xs.length := by omega
      rw [hvN_all] at hown
      rw [show fl (evN xs ++ odN xs) = fl (evN xs) ++ fl (odN xs) by simp [fl]] at hown
      obtain ⟨o1, o2⟩ := own_parts hown (Nat.le_refl _)
      have o3 := o2 (some ⟨w.heap.size, mid, none⟩) (fun _ => by rw [fl_len, evN_len, ← HM.out])
      rw [fl_len, evN_len, ← HM.out] at o1
      have hl2 : (fl (odN xs)).length = xs.length - mid := by rw [fl_len, odN_len]; have := HM.out; omega
      rw [hl2] at o3
      have O1 := Lib.hid o1
      have O3 := Lib.hid o3
      clear o1 o2 o3 hl2 hown
      go_wp2
      go_ret2
      refine ⟨_, _, rfl, O1.out, O3.out, ?_, hb⟩
      intro a n c' b' m d e1 e2
      cases e1
      cases e2
      simp only []
      omega
set_option maxHeartbeats 2000000 in
theorem spfI_one (vl : Value) (xs : List Nat) (w : World) (h : Rd w w.heap.size vl (fl xs)) (hm : xs.length ≤ 1048576) (hp : xs.length = 1) :
    Calls Try.prog 120 #[vl] w (RetFF (evN xs) (odN xs) w) := by
  obtain ⟨i0, hi, hz0, hz1, hz2⟩ := info_parts infoF
  obtain ⟨A, c, hv, hc1, hc2, hcell⟩ := h
  rw [fl_len] at hv hc1 hcell
  subst hv
  obtain ⟨b, off, rfl, hbl, hcc⟩ := hcell (by omega)
  have hC := Lib.hid hcc
  clear hcell hcc
  have hmi : ((xs.length : Int) + 1) / 2 = (xs.length : Int) := by omega
  have hp1 : 1 ≤ xs.length := by omega
  have hp2 : xs.length ≤ 1 := by omega
  have HP := Lib.hid hp
  clear hp
  go_enter Try.func120, Try.ntmps120
  go_wp2_with (refine wpList_make_full _ rfl _ _ 22 rfl w.heap.size 23 i0 (.float .f32 0) 1 Try.underlying22 hi hz0 hz1 .i64 .i64 _ _ xs.length rfl rfl rfl rfl (by rw [hz2]; omega) (by unfold maxLen; omega) (Nat.le_refl _) ?_; intro w1 hown hgrow)
  have hb1 : Below w.heap.size w w1 := (Below.refl _ _).grown hgrow (Nat.le_refl _) (fun _ h => by cases h)
  have hown1 : w1.ownsRow w.heap.size 23 1 (.slice (some ⟨w.heap.size, 0, none⟩) xs.length xs.length) xs.length (fl (hvN xs 0)) := by
    rw [hvN_zero]
    have e : (madeCells (Value.cells (.float .f32 0)) (xs.length * 1)).toList = fl (List.replicate xs.length 0) := by
      rw [Nat.mul_one]
      show (madeCells #[Value.float .f32 0] xs.length).toList = _
      rw [toList_madeCells_one]; simp [fl]
    rw [← e]; exact hown
  clear hown hgrow
  have hsf : ∀ (a : Addr) (x : Nat) (w : World), (store a (.float .f32 x)).run Try.prog w = stored Try.prog w a (.float .f32 x) .plain := fun a x w => run_store _ w a _ _ rfl
  go_quiet (fail)
  go_wp2
  go_loopw [27] (HvRelN w xs) (fun i _ => xs.length - (intOf i).toNat)
  case atStart => exact ⟨0, Nat.zero_le _, rfl, hown1, below_drawn hb1 _⟩
  case round =>
    obtain ⟨k, hk, rfl, hown, hb⟩ := hrel
    clear hown1 hb1
    by_cases hlt : k < xs.length
    · obtain rfl : k = 0 := by omega
      have hsrc : wr.cell? ⟨b, off, none⟩ = some (.float .f32 xs[0]) := (hb.cell (p := ⟨b, off + 0, none⟩) hbl).trans (hC.out 0 _ (fl_get xs 0 hlt))
      have hlen : (fl (hvN xs 0)).length = xs.length := by rw [hown.1]; omega
      have hst := (hown.stored 0 (.float .f32 xs[0])).1
      rw [fl_set, hvN_even xs 0 hlt rfl] at hst
      obtain ⟨x0, hdst⟩ : ∃ x0, wr.cell? ⟨w.heap.size, 0, none⟩ = some x0 :=
        ⟨(fl (hvN xs 0))[0]'(by rw [hlen]; omega), by rw [hown.cellAt 0 (by omega)]; exact List.getElem?_eq_getElem _⟩
      have hfz : wr.frozen? ⟨w.heap.size, 0, none⟩ = false := hown.frozenAt 0
      have hbb : Below w.heap.size w (wr.setCell ⟨w.heap.size, 0, none⟩ (.float .f32 xs[0])) := hb.setCell (Nat.le_refl _) _
      have HO := Lib.hid hst
      have HB := Lib.hid hbb
      clear hst hbb hown hb hlen
      go_wp2
      go_roundw
      case rel => exact ⟨1, by omega, by go_num, HO.out, HB.out⟩
      case measure => simp [intOf]; omega
    · obtain rfl : k = xs.length := by omega
      rw [hvN_all] at hown
      rw [show fl (evN xs ++ odN xs) = fl (evN xs) ++ fl (odN xs) by simp [fl]] at hown
      obtain ⟨o1, o2⟩ := own_parts hown (Nat.le_refl _)
      have hod : odN xs = [] := List.eq_nil_of_length_eq_zero (by rw [odN_len, HP.out])
      have hev : (fl (evN xs)).length = xs.length := by rw [fl_len, evN_len, HP.out]
      rw [hev] at o1
      have O1 := Lib.hid o1
      have OD := Lib.hid hod
      clear o1 o2 hown hod hev
      go_wp2
      go_ret2
      refine ⟨_, _, rfl, O1.out, by rw [OD.out]; exact ⟨_, _, rfl, by simp [fl], by simp [maxLen], fun h => absurd h (by simp [fl])⟩, ?_, hb⟩
      intro a n c' b' m d e1 e2
      cases e1
      cases e2
      simp only []
      omega
end Go.Proofs.Ytfbdmhkmkmbipaa
