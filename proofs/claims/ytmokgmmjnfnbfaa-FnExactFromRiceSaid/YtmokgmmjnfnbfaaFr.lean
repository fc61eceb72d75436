/-
  Codes by runs that are read: what is read, as plain functions; the program's side.
-/
import Derived.Test.YtmokgmmjnfnbfaaBr
import Derived.Test.YtmokgmmjnfnbfaaVc
namespace Go.Proofs.Ytmokgmmjnfnbfaa
open Go.RowKit Fl
set_option linter.unusedVariables false

theorem fzP_any (n : Int) (w : World) : Calls Try.prog 73 #[.int .i64 n] w (fun e w' => e = .returned (.tuple #[.int .i64 (zgV n), .bool (inG n)]) ∧ w = w') := by
  by_cases h1 : n < 0
  · rw [show inG n = false from decide_eq_false (by omega), show zgV n = 0 by unfold zgV; rw [if_neg (by rw [show inG n = false from decide_eq_false (by omega)]; simp)]]
    go_enter Try.func73, Try.ntmps73
    go_wp2_with fail
    go_ret2
    exact ⟨rfl, rfl⟩
  · by_cases h2 : 2000000 < n
    · rw [show inG n = false from decide_eq_false (by omega), show zgV n = 0 by unfold zgV; rw [if_neg (by rw [show inG n = false from decide_eq_false (by omega)]; simp)]]
      go_enter Try.func73, Try.ntmps73
      go_wp2_with fail
      go_ret2
      exact ⟨rfl, rfl⟩
    · have h3 : 0 ≤ n := by omega
      have h4 : n ≤ 2000000 := by omega
      rw [show inG n = true from decide_eq_true ⟨h3, h4⟩, show zgV n = zag n by unfold zgV; rw [if_pos (show inG n = true from decide_eq_true ⟨h3, h4⟩)]]
      clear h1 h2
      obtain ⟨q, hq⟩ := par n
      have h0 : 0 ≤ q := by omega
      have h9 : q ≤ 1000000000000000 := by omega
      rcases hq with rfl | rfl
      · have e1 := tmod_e q h0
        have e5 : ((2 * q).tmod 2 == 1) = false := by rw [e1]; rfl
        have e6 : ((2 * q).tmod 2 == 0) = true := by rw [e1]; rfl
        have e2 := tdiv_e q h0
        rw [zag_e]
        generalize hn : 2 * q = n at *
        clear hn
        go_enter Try.func73, Try.ntmps73
        go_wp2_with fail
        go_ret2
        exact ⟨rfl, rfl⟩
      · have e1 := tmod_o q h0
        have e5 : ((2 * q + 1).tmod 2 == 1) = true := by rw [e1]; rfl
        have e6 : ((2 * q + 1).tmod 2 == 0) = false := by rw [e1]; rfl
        have e2 := tdiv_o q h0
        rw [zag_o]
        generalize hn : 2 * q + 1 = n at *
        clear hn
        go_enter Try.func73, Try.ntmps73
        go_wp2_with fail
        go_ret2
        exact ⟨rfl, rfl⟩

/-- The first m numbers that bits tell, and how many bits these are. -/
def frS (bs : List Bool) (k : Nat) : Nat → Option (List Int × Nat)
  | 0 => some ([], 0)
  | m + 1 => match frS bs k m with
    | none => none
    | some (L, a) => if ones (bs.drop a) + 1 + k ≤ (bs.drop a).length then some (L ++ [zag (zJ (bs.drop a) (ones (bs.drop a) + 1) (ones (bs.drop a)) k)], a + (ones (bs.drop a) + 1 + k)) else none
theorem frS_yes {bs : List Bool} {k m : Nat} {L : List Int} {a : Nat} (h : frS bs k m = some (L, a)) (hc : ones (bs.drop a) + 1 + k ≤ (bs.drop a).length) :
    frS bs k (m + 1) = some (L ++ [zag (zJ (bs.drop a) (ones (bs.drop a) + 1) (ones (bs.drop a)) k)], a + (ones (bs.drop a) + 1 + k)) := by
  show (match frS bs k m with | none => none | some (L, a) => _) = _
  rw [h]
  simp only []
  rw [if_pos hc]
theorem frS_no {bs : List Bool} {k m : Nat} {L : List Int} {a : Nat} (h : frS bs k m = some (L, a)) (hc : ¬ ones (bs.drop a) + 1 + k ≤ (bs.drop a).length) : frS bs k (m + 1) = none := by
  show (match frS bs k m with | none => none | some (L, a) => _) = _
  rw [h]
  simp only []
  rw [if_neg hc]
theorem frS_none {bs : List Bool} {k m : Nat} (h : frS bs k m = none) : ∀ d, frS bs k (m + d) = none
  | 0 => h
  | d + 1 => by
    show (match frS bs k (m + d) with | none => none | some (L, a) => _) = _
    rw [frS_none h d]
theorem withB_app {m : Int} {L : List Int} (h : withB m L = false) (y : Int) : withB m (L ++ [y]) = false := by
  rw [withB, decide_eq_false_iff_not] at h ⊢
  intro hh
  refine h fun i hi => ?_
  have := hh i (by simp; omega)
  rwa [List.getElem_append_left hi] at this
theorem withB_push {m : Int} {L : List Int} {y : Int} (h : withB m L = true) (h1 : -m ≤ y) (h2 : y ≤ m) : withB m (L ++ [y]) = true := by
  refine decide_eq_true fun i hi => ?_
  by_cases hl : i < L.length
  · rw [List.getElem_append_left hl]; exact withB_out h i hl
  · have he : i = L.length := by simp at hi; omega
    subst he
    simp; exact ⟨h1, h2⟩
theorem withB_last {m : Int} {L : List Int} {y : Int} (h : y < -m ∨ m < y) : withB m (L ++ [y]) = false := by
  refine decide_eq_false fun hh => ?_
  have := hh L.length (by simp)
  simp at this
  omega
theorem frS_bad {bs : List Bool} {k m : Nat} {L : List Int} {a : Nat} (h : frS bs k m = some (L, a)) (hb : withB 1000000 L = false) : ∀ d, frS bs k (m + d) = none ∨ ∃ L' a', frS bs k (m + d) = some (L', a') ∧ withB 1000000 L' = false
  | 0 => .inr ⟨L, a, h, hb⟩
  | d + 1 => by
    rcases frS_bad h hb d with h1 | ⟨L', a', h1, h2⟩
    · exact .inl (frS_none h1 1)
    · by_cases hc : ones (bs.drop a') + 1 + k ≤ (bs.drop a').length
      · exact .inr ⟨_, _, frS_yes h1 hc, withB_app h2 _⟩
      · exact .inl (frS_no h1 hc)
theorem frS_len {bs : List Bool} {k : Nat} : ∀ {m : Nat} {L : List Int} {a : Nat}, frS bs k m = some (L, a) → L.length = m ∧ a ≤ bs.length
  | 0, L, a, h => by simp [frS] at h; obtain ⟨rfl, rfl⟩ := h; simp
  | m + 1, L, a, h => by
    cases h0 : frS bs k m with
    | none => rw [frS_none h0 1] at h; cases h
    | some q =>
      obtain ⟨L0, a0⟩ := q
      obtain ⟨h1, h2⟩ := frS_len h0
      by_cases hc : ones (bs.drop a0) + 1 + k ≤ (bs.drop a0).length
      · rw [frS_yes h0 hc] at h
        simp only [Option.some.injEq, Prod.mk.injEq] at h
        obtain ⟨rfl, rfl⟩ := h
        rw [List.length_drop] at hc
        simp; omega
      · rw [frS_no h0 hc] at h; cases h
def frB (bs : List Bool) (k c : Nat) : Bool := match frS bs k c with | some (L, a) => decide (a = bs.length) && areB L | none => false
def frX (bs : List Bool) (k c : Nat) : List Int := match frS bs k c with | some (L, _) => L | none => []
theorem frB_none {bs : List Bool} {k c m : Nat} (h : frS bs k m = none) (hm : m ≤ c) : frB bs k c = false := by
  have := frS_none h (c - m)
  rw [show m + (c - m) = c by omega] at this
  unfold frB; rw [this]
theorem frB_bad {bs : List Bool} {k c m : Nat} {L : List Int} {a : Nat} (h : frS bs k m = some (L, a)) (hb : withB 1000000 L = false) (hm : m ≤ c) : frB bs k c = false := by
  have := frS_bad h hb (c - m)
  rw [show m + (c - m) = c by omega] at this
  rcases this with h1 | ⟨L', a', h1, h2⟩
  · unfold frB; rw [h1]
  · unfold frB; rw [h1]; simp [areB, h2]
theorem frB_at {bs : List Bool} {k c : Nat} {L : List Int} {a : Nat} (h : frS bs k c = some (L, a)) : frB bs k c = (decide (a = bs.length) && areB L) ∧ frX bs k c = L := by
  unfold frB frX; rw [h]; exact ⟨rfl, rfl⟩
def frG (bs : List Bool) (c k : Int) : Bool := stB bs && cnB c && ridB k
def frK (bs : List Bool) (c k : Int) : Bool := frG bs c k && frB bs k.toNat c.toNat
def frV (bs : List Bool) (c k : Int) : List Int := if frK bs c k then frX bs k.toNat c.toNat else []
theorem frV_no {bs : List Bool} {c k : Int} (h : frK bs c k = false) : frV bs c k = [] := by unfold frV; rw [if_neg (by rw [h]; simp)]
theorem frV_yes {bs : List Bool} {c k : Int} (h : frK bs c k = true) : frV bs c k = frX bs k.toNat c.toNat := by unfold frV; rw [if_pos h]
theorem frK_no {bs : List Bool} {c k : Int} (h : frG bs c k = false) : frK bs c k = false := by unfold frK; rw [h]; rfl
theorem frG_out {bs : List Bool} {c k : Int} (h : frG bs c k = true) : bs.length ≤ 32768 ∧ (1 ≤ c ∧ c ≤ 128) ∧ 0 ≤ k ∧ k ≤ 20 := by
  unfold frG at h; rw [Bool.and_eq_true, Bool.and_eq_true] at h
  exact ⟨of_decide_eq_true h.1.1, cnB_out h.1.2, ridB_out h.2⟩
theorem frV_len (bs : List Bool) (c k : Int) : (frV bs c k).length ≤ 1048576 := by
  cases hg : frK bs c k with
  | false => rw [frV_no hg]; simp
  | true =>
    rw [frV_yes hg]
    unfold frK at hg
    rw [Bool.and_eq_true] at hg
    obtain ⟨_, hc, _⟩ := frG_out hg.1
    unfold frX
    cases h0 : frS bs k.toNat c.toNat with
    | none => simp
    | some q => obtain ⟨L, a⟩ := q; have := (frS_len h0).1; simp only []; omega
theorem zag_in (z : Int) (h0 : 0 ≤ z) : (inG z = true ∧ -1000000 ≤ zag z ∧ zag z ≤ 1000000) ∨ (inG z = false ∧ (zag z < -1000000 ∨ 1000000 < zag z)) := by
  by_cases h : z ≤ 2000000
  · exact .inl ⟨decide_eq_true ⟨h0, h⟩, by unfold zag; split <;> omega, by unfold zag; split <;> omega⟩
  · exact .inr ⟨decide_eq_false (by omega), by unfold zag; split <;> omega⟩
/-- The state of the program's loop. -/
def FrRel (w : World) (bs : List Bool) (k c : Nat) (v i : Value) (wr : World) : Prop :=
  ∃ m L a, m ≤ c ∧ i = .int .i64 (m : Nat) ∧ frS bs k m = some (L, a) ∧ withB 1000000 L = true ∧ RdrOk w.heap.size w.heap.size (bs.drop a) wr ∧ wr.ownsRow (w.heap.size + 1) 2 1 v L.length (il L) ∧ w.heap.size + 1 ≤ wr.heap.size ∧ Below w.heap.size w wr
theorem fr_push {w wr w1 : World} {v v' : Value} {L : List Int} {y : Int} {l : List Bool} {o : Obj} (hr : RdrOk w.heap.size w.heap.size l wr) (hw : wr.ownsRow (w.heap.size + 1) 2 1 v L.length (il L)) (hz : w.heap.size + 1 ≤ wr.heap.size) (hb : Below w.heap.size w wr)
    (ho : w1.ownsRow (w.heap.size + 1) 2 1 v' (L.length + 1) (il L ++ [.int .i64 y])) (hg : (wr.alloc o).grownBy w1 v.ownBlock) :
    RdrOk w.heap.size w.heap.size l w1 ∧ w1.ownsRow (w.heap.size + 1) 2 1 v' (L ++ [y]).length (il (L ++ [y])) ∧ w.heap.size + 1 ≤ w1.heap.size ∧ Below w.heap.size w w1 := by
  have h1 : Below (w.heap.size + 1) wr w1 := ((Below.refl _ wr).alloc hz o).grown hg (by simp; omega) (fun j hj => (hw.lt j hj).1)
  exact ⟨hr.keep (Nat.le_refl _) h1, by rw [il_app, List.length_append]; exact ho, Nat.le_trans hz h1.size, hb.trans (h1.mono (by omega))⟩
set_option maxRecDepth 100000 in
set_option maxHeartbeats 4000000 in
theorem frI_any (v : Value) (bs : List Bool) (c k : Int) (w : World) (h : Rd w w.heap.size v (bl bs)) (hm : bs.length ≤ 1048576) (hcw : (Lit.int .i64 c).wf = true) (hkw : (Lit.int .i64 k).wf = true) :
    Calls Try.prog 39 #[v, .int .i64 c, .int .i64 k] w (RetJ (frV bs c k) (frK bs c k) w) := by
  obtain ⟨i0, hi, hz0, hz1, hz2⟩ := info_parts infoI
  have HSt := Lib.hid (stI_any v bs w _ h)
  have H0 := Lib.hid h
  obtain ⟨A, cp, hv, hc1, hc2, _⟩ := id h
  rw [bl_len] at hv hc1
  subst hv
  clear h
  cases t1 : stB bs with
  | false =>
    have hK := frK_no (show frG bs c k = false by unfold frG; rw [t1]; rfl)
    rw [frV_no hK, hK]
    have T1 := Lib.hid t1
    clear t1 hK
    go_enter Try.func39, Try.ntmps39
    go_wp2_with (first | (go_at_call 70; refine HSt.out.mono ?_; rintro e w' ⟨rfl, rfl⟩; rw [T1.out]))
    go_ret2
    exact retJ_nil (Below.refl _ _)
  | true =>
    by_cases hc : 1 ≤ c ∧ c ≤ 128
    · cases t3 : ridB k with
      | false =>
        have hK := frK_no (show frG bs c k = false by unfold frG; rw [t1, t3, Bool.and_false])
        rw [frV_no hK, hK]
        obtain ⟨hc3, hc4⟩ := hc
        have T1 := Lib.hid t1
        have T3 := Lib.hid t3
        clear t1 t3 hK
        go_enter Try.func39, Try.ntmps39
        go_wp2_with (first | (go_at_call 70; refine HSt.out.mono ?_; rintro e w' ⟨rfl, rfl⟩; rw [T1.out]) | (go_at_call 71; refine (ridI_any k _).mono ?_; rintro e w' ⟨rfl, rfl⟩; rw [T3.out]))
        go_ret2
        exact retJ_nil (Below.refl _ _)
      | true =>
        have HK := Lib.hid (show frK bs c k = frB bs k.toNat c.toNat by unfold frK frG; rw [t1, t3, show cnB c = true from decide_eq_true hc]; rfl)
        obtain ⟨hc3, hc4⟩ := hc
        obtain ⟨hk3, hk4⟩ := ridB_out t3
        have hn := of_decide_eq_true t1
        have T1 := Lib.hid t1
        have T3 := Lib.hid t3
        clear t1 t3
        obtain ⟨kk, rfl⟩ : ∃ kk : Nat, k = kk := ⟨k.toNat, by omega⟩
        obtain ⟨cc, rfl⟩ : ∃ cc : Nat, c = cc := ⟨c.toNat, by omega⟩
        rw [show ((kk : Int)).toNat = kk by omega, show ((cc : Int)).toNat = cc by omega] at HK
        have hrd : RdrOk w.heap.size w.heap.size bs (w.alloc (.cells #[.slice A bs.length cp] 79)) :=
          ⟨_, by simp [go_sem], by simp [go_sem], H0.out.below ((Below.refl w.heap.size w).alloc (Nat.le_refl _) _), hm⟩
        have hbw : Below w.heap.size w (w.alloc (.cells #[.slice A bs.length cp] 79)) := (Below.refl w.heap.size w).alloc (Nat.le_refl _) _
        have HRd := Lib.hid hrd
        have HBw := Lib.hid hbw
        clear hrd hbw
        go_enter Try.func39, Try.ntmps39
        go_wp2_with (first | (go_at_call 70; refine HSt.out.mono ?_; rintro e w' ⟨rfl, rfl⟩; rw [T1.out]) | (go_at_call 71; refine (ridI_any (kk : Int) _).mono ?_; rintro e w' ⟨rfl, rfl⟩; rw [T3.out]) | (at_make; refine wpList_make_own _ rfl _ _ 22 rfl (w.heap.size + 1) 2 i0 (.int .i64 0) 1 Try.underlying22 hi hz0 hz1 .i64 .i64 _ cc rfl rfl (by omega) (by rw [hz2]; omega) (by unfold maxLen; omega) (by simp) ?_; intro w1 hown hgrow))
        have hR1 : RdrOk w.heap.size w.heap.size bs w1 := HRd.out.keep (Nat.le_refl _) ((Below.refl _ _).grown hgrow (by simp) (fun j hj => absurd hj (by simp)))
        have hB1 : Below w.heap.size w w1 := HBw.out.trans ((Below.refl _ _).grown hgrow (by simp) (fun j hj => absurd hj (by simp)))
        have hz1' : w.heap.size + 1 ≤ w1.heap.size := by have := hgrow.size; simpa using this
        go_loopw [9, 34] (FrRel w bs kk cc) (fun _ i _ => cc - (intOf i).toNat)
        case atStart => exact ⟨0, [], 0, Nat.zero_le _, rfl, rfl, rfl, by rw [List.drop_zero]; exact hR1, by have h2 := hown; rw [show (w.alloc (Obj.cells #[Value.slice A bs.length cp] 79)).heap.size = w.heap.size + 1 by simp] at h2; exact h2, hz1', hB1⟩
        case round =>
          clear hR1 hB1 hz1' hown hgrow HRd HBw HSt H0
          obtain ⟨m, L, a, hmc, rfl, hfr, hwb, hr, hrow, hzz, hbb⟩ := hrel
          obtain ⟨hLm, hab⟩ := frS_len hfr
          have HRow0 := Lib.hid hrow
          have HZ0 := Lib.hid hzz
          have HB0 := Lib.hid hbb
          have HR0 := Lib.hid hr
          have HWB := Lib.hid hwb
          have HN := Lib.hid (show L.length ≤ 128 by omega)
          clear hrow hzz hbb hwb
          by_cases hlt : m < cc
          · have hdl : (bs.drop a).length ≤ 32768 := by rw [List.length_drop]; omega
            have HZZ := Lib.hid (zz_any w.heap.size w.heap.size (bs.drop a) kk wr hr (Nat.le_refl _) (by omega) (by omega))
            obtain ⟨z0, z1⟩ := zJ_le (bs.drop a) (ones (bs.drop a) + 1) (ones (bs.drop a)) kk (by have := ones_le (bs.drop a); omega) (by omega)
            by_cases hcd : ones (bs.drop a) + 1 + kk ≤ (bs.drop a).length
            · have hyes := frS_yes hfr hcd
              rw [decide_eq_true hcd, List.drop_drop] at HZZ
              clear hr hfr hdl hLm
              generalize zJ (bs.drop a) (ones (bs.drop a) + 1) (ones (bs.drop a) : Int) kk = z at *
              rcases zag_in z z0 with ⟨hg, hz3, hz4⟩ | ⟨hg, hbad⟩
              · have HFZ := Lib.hid (fun w' => (by have := fzP_any z w'; rw [show zgV z = zag z by unfold zgV; rw [if_pos hg], hg] at this; exact this : Calls Try.prog 73 #[.int .i64 z] w' fun e w'' => e = .returned (.tuple #[.int .i64 (zag z), .bool true]) ∧ w' = w''))
                have HWB2 := Lib.hid (withB_push HWB.out hz3 hz4)
                have HYES := Lib.hid hyes
                clear hyes hg hcd hab
                generalize zag z = y at *
                go_wp2_with (first | (go_at_call 72; refine HZZ.out.mono ?_; rintro e w2 ⟨rfl, hr2, hg2⟩; have HRow := Lib.hid (hg2.row (Nat.lt_succ_self _) HRow0.out); have HR2 := Lib.hid hr2; have HZ := Lib.hid (show w.heap.size + 1 ≤ w2.heap.size by rw [hg2.1]; exact HZ0.out); have HB2 := Lib.hid (HB0.out.trans (hg2.2.2 _ (Nat.le_refl _))); clear hr2 hg2) | (go_at_call 73; refine (HFZ.out _).mono ?_; rintro e w' ⟨rfl, rfl⟩) | (at_builtin; refine wpList_append_own _ rfl _ _ 22 rfl (w.heap.size + 1) 2 i0 (.int .i64 0) 1 8 Try.underlying22 hi hz0 hz1 hz2 rfl (by decide) _ _ _ rfl (HRow.out.alloc _) ⟨w2.heap.size, 0, none⟩ 1 1 [.int .i64 y] rfl rfl (one_newF _ _ _) (cellsI [y]) (by unfold maxLen; have := HN.out; omega) (by have := HN.out; omega) (by simp; have := HZ.out; omega) ?_; intro v' w3 hown' hgrow' _))
                have HP := Lib.hid (fr_push HR2.out HRow.out HZ.out HB2.out hown' hgrow')
                clear hown' hgrow'
                go_wp2
                go_roundw
                case rel => exact ⟨m + 1, _, _, by omega, by go_num, HYES.out, HWB2.out, HP.out⟩
                case measure => simp [intOf]; omega
              · have HFZ := Lib.hid (fun w' => (by have := fzP_any z w'; rw [show zgV z = 0 by unfold zgV; rw [if_neg (by rw [hg]; simp)], hg] at this; exact this : Calls Try.prog 73 #[.int .i64 z] w' fun e w'' => e = .returned (.tuple #[.int .i64 0, .bool false]) ∧ w' = w''))
                have HF := Lib.hid (show frK bs cc kk = false by rw [HK.out]; exact frB_bad hyes (withB_last hbad) (by omega))
                clear hyes hg hcd hab hbad
                go_wp2_with (first | (go_at_call 72; refine HZZ.out.mono ?_; rintro e w2 ⟨rfl, hr2, hg2⟩; have HB2 := Lib.hid (HB0.out.trans (hg2.2.2 _ (Nat.le_refl _))); clear hr2 hg2) | (go_at_call 73; refine (HFZ.out _).mono ?_; rintro e w' ⟨rfl, rfl⟩))
                go_ret2
                rw [frV_no HF.out, HF.out]
                exact retJ_nil HB2.out
            · have HF := Lib.hid (show frK bs cc kk = false by rw [HK.out]; exact frB_none (frS_no hfr hcd) (by omega))
              rw [decide_eq_false hcd] at HZZ
              clear hr hfr hdl hLm hcd hab
              generalize zJ (bs.drop a) (ones (bs.drop a) + 1) (ones (bs.drop a) : Int) kk = z at *
              go_wp2_with (first | (go_at_call 72; refine HZZ.out.mono ?_; rintro e w2 ⟨rfl, hr2, hg2⟩; have HB2 := Lib.hid (HB0.out.trans (hg2.2.2 _ (Nat.le_refl _))); clear hr2 hg2))
              go_ret2
              rw [frV_no HF.out, HF.out]
              exact retJ_nil HB2.out
          · obtain rfl : m = cc := by omega
            obtain ⟨hfb, hfx⟩ := frB_at hfr
            obtain ⟨vr, c1, c2, ⟨Ar, cr, hvr, _, _, _⟩, _⟩ := hr
            rw [bl_len, List.length_drop] at hvr
            subst hvr
            by_cases hae : a = bs.length
            · have HF := Lib.hid (show frK bs m kk = true by
                rw [HK.out, hfb, decide_eq_true hae, areB_mid (by omega) (by omega), HWB.out]; rfl)
              have HV := Lib.hid (show frV bs m kk = L by rw [frV_yes HF.out]; exact hfx)
              rw [show bs.length - a = 0 by omega] at c1
              clear hfr hfb hfx hae hLm
              go_wp2
              go_ret2
              rw [HV.out, HF.out]
              exact ⟨_, rfl, (Own.row HRow0.out).less (by omega), HB0.out⟩
            · have HF := Lib.hid (show frK bs m kk = false by rw [HK.out, hfb, decide_eq_false hae]; rfl)
              obtain ⟨d, hd⟩ : ∃ d, bs.length - a = d + 1 := ⟨bs.length - a - 1, by omega⟩
              rw [hd] at c1
              clear hfr hfb hfx hae hLm hd
              go_wp2
              go_ret2
              rw [frV_no HF.out, HF.out]
              exact retJ_nil HB0.out
    · have hK := frK_no (show frG bs c k = false by unfold frG; rw [t1, show cnB c = false from decide_eq_false hc]; rfl)
      rw [frV_no hK, hK]
      have T1 := Lib.hid t1
      clear t1 hK
      by_cases hc3 : c < 1
      · clear hc
        go_enter Try.func39, Try.ntmps39
        go_wp2_with (first | (go_at_call 70; refine HSt.out.mono ?_; rintro e w' ⟨rfl, rfl⟩; rw [T1.out]))
        go_ret2
        exact retJ_nil (Below.refl _ _)
      · have hc4 : 1 ≤ c := by omega
        have hc5 : 128 < c := by omega
        clear hc hc3
        go_enter Try.func39, Try.ntmps39
        go_wp2_with (first | (go_at_call 70; refine HSt.out.mono ?_; rintro e w' ⟨rfl, rfl⟩; rw [T1.out]))
        go_ret2
        exact retJ_nil (Below.refl _ _)
end Go.Proofs.Ytmokgmmjnfnbfaa
