/-
  Contracts: bits that are the same; SameCoded of both sides.
-/
import Derived.Test.YthkklilfignmpaaVc
import Derived.Test.YthkklilfignmpaaFin
namespace Go.Proofs.Ythkklilfignmpaa.Cf
open Go.RowKit Fl
set_option linter.unusedVariables false

def SmTo (xs ys : List Bool) (k : Nat) : Prop := ∀ i, i < k → xs[i]? = ys[i]?
theorem smTo_all {xs ys : List Bool} (hl : ys.length = xs.length) (h : SmTo xs ys xs.length) : decide (xs = ys) = true := by
  refine decide_eq_true (List.ext_getElem? fun i => ?_)
  by_cases hi : i < xs.length
  · exact h i hi
  · rw [List.getElem?_eq_none (by omega), List.getElem?_eq_none (by omega)]
theorem smTo_succ {xs ys : List Bool} {k : Nat} {x : Bool} (h : SmTo xs ys k) (h1 : xs[k]? = some x) (h2 : ys[k]? = some x) : SmTo xs ys (k + 1) := by
  intro i hi
  by_cases he : i = k
  · rw [he, h1, h2]
  · exact h i (by omega)
theorem sm_no {xs ys : List Bool} {k : Nat} {x y : Bool} (h1 : xs[k]? = some x) (h2 : ys[k]? = some y) (h : x ≠ y) : decide (xs = ys) = false :=
  decide_eq_false fun e => h (by rw [e, h2] at h1; exact (Option.some.inj h1).symm)
def SmRel (w : World) (xs ys : List Bool) (n : Nat) (i : Value) (wr : World) : Prop := ∃ k m : Nat, k ≤ n ∧ i = .int .i64 k ∧ SmTo xs ys k ∧ wr = w.drewN m
set_option maxRecDepth 100000 in
set_option maxHeartbeats 1000000 in
theorem sbS_any (va vb : Value) (xs ys : List Bool) (w : World) (B B' : Nat) (ha : Rd w B va (bl xs)) (hb : Rd w B' vb (bl ys)) (hm : xs.length ≤ 1048576) (hm2 : ys.length ≤ 1048576) :
    Calls Try.prog 148 #[va, vb] w (RetBo (decide (xs = ys)) w) := by
  obtain ⟨A, c, hva, hc1, hc2, hca⟩ := ha
  obtain ⟨A', c', hvb, hc1', hc2', hcb⟩ := hb
  rw [bl_len] at hva hvb hc1 hc1' hca hcb
  subst hva hvb
  have hCa := Lib.hid hca
  have hCb := Lib.hid hcb
  clear hca hcb hc1 hc2 hc1' hc2'
  by_cases hl : ys.length = xs.length
  · have HAll := Lib.hid (fun h => smTo_all hl h)
    obtain ⟨n, hn⟩ : ∃ n, xs.length = n := ⟨_, rfl⟩
    rw [hl] at hCb ⊢
    rw [hn] at hCa hCb HAll hm ⊢
    have HX := Lib.hid (show ∀ k, k < n → ∃ x, xs[k]? = some x ∧ (bl xs)[k]? = some (.bool x) from fun k h => ⟨xs[k]'(by omega), List.getElem?_eq_getElem _, bl_get xs k (by omega)⟩)
    have HY := Lib.hid (show ∀ k, k < n → ∃ x, ys[k]? = some x ∧ (bl ys)[k]? = some (.bool x) from fun k h => ⟨ys[k]'(by omega), List.getElem?_eq_getElem _, bl_get ys k (by omega)⟩)
    clear hl hn hm2
    go_enter Try.func148, Try.ntmps148
    go_wp2
    go_loopw [5] (SmRel w xs ys n) (fun i _ => n - (intOf i).toNat)
    case atStart => exact ⟨0, 0, Nat.zero_le _, rfl, fun i h => absurd h (Nat.not_lt_zero _), rfl⟩
    case round =>
      obtain ⟨k, m, hk, rfl, hs, rfl⟩ := hrel
      have HS := Lib.hid hs
      clear hs
      by_cases hlt : k < n
      · obtain ⟨b, off, rfl, hbl, hcc⟩ := hCa.out (by omega)
        obtain ⟨b', off', rfl, hbl', hcc'⟩ := hCb.out (by omega)
        obtain ⟨x, x1, gx⟩ := HX.out k hlt
        obtain ⟨y, y1, gy⟩ := HY.out k hlt
        have h1 : w.cell? ⟨b, off + k, none⟩ = some (.bool x) := hcc k _ gx
        have h2 : w.cell? ⟨b', off' + k, none⟩ = some (.bool y) := hcc' k _ gy
        have H1 := Lib.hid x1
        have H2 := Lib.hid y1
        clear hcc hcc' hCa hCb HX HY x1 y1 gx gy
        by_cases hxy : x = y
        · subst hxy
          have HN := Lib.hid (smTo_succ HS.out H1.out H2.out)
          clear H1 H2
          cases x
          all_goals
            go_wp2
            go_quiet (fail)
            go_wp2
            go_roundw
            case rel => exact ⟨k + 1, _, by omega, by go_num, HN.out, rfl⟩
            case measure => simp [intOf]; omega
        · have HN := Lib.hid (sm_no H1.out H2.out hxy)
          clear H1 H2
          cases x <;> cases y
          · exact absurd rfl hxy
          · clear hxy
            go_wp2
            go_quiet (fail)
            go_wp2
            go_ret
            rw [HN.out]
            exact ⟨rfl, _, World.drewN_drewN _ _ _⟩
          · clear hxy
            go_wp2
            go_quiet (fail)
            go_wp2
            go_ret
            rw [HN.out]
            exact ⟨rfl, _, World.drewN_drewN _ _ _⟩
          · exact absurd rfl hxy
      · obtain rfl : k = n := by omega
        have HN := Lib.hid (HAll.out HS.out)
        go_wp2
        go_ret
        rw [HN.out]
        exact ⟨rfl, _, rfl⟩
  · have HN := Lib.hid (show decide (xs = ys) = false from decide_eq_false fun e => hl (by rw [e]))
    have hne : ((xs.length : Int) != (ys.length : Int)) = true := by simp; omega
    generalize xs.length = n at *
    generalize ys.length = n' at *
    clear hCa hCb hl
    go_enter Try.func148, Try.ntmps148
    go_wp2
    go_ret
    rw [HN.out]
    exact ⟨rfl, 0, rfl⟩
set_option maxRecDepth 100000 in
set_option maxHeartbeats 1000000 in
theorem sbI_any (va vb : Value) (xs ys : List Bool) (w : World) (B B' : Nat) (ha : Rd w B va (bl xs)) (hb : Rd w B' vb (bl ys)) (hm : xs.length ≤ 1048576) (hm2 : ys.length ≤ 1048576) :
    Calls Try.prog 150 #[va, vb] w (RetBo (decide (xs = ys)) w) := by
  obtain ⟨A, c, hva, hc1, hc2, hca⟩ := ha
  obtain ⟨A', c', hvb, hc1', hc2', hcb⟩ := hb
  rw [bl_len] at hva hvb hc1 hc1' hca hcb
  subst hva hvb
  have hCa := Lib.hid hca
  have hCb := Lib.hid hcb
  clear hca hcb hc1 hc2 hc1' hc2'
  by_cases hl : ys.length = xs.length
  · have HAll := Lib.hid (fun h => smTo_all hl h)
    obtain ⟨n, hn⟩ : ∃ n, xs.length = n := ⟨_, rfl⟩
    rw [hl] at hCb ⊢
    rw [hn] at hCa hCb HAll hm ⊢
    have HX := Lib.hid (show ∀ k, k < n → ∃ x, xs[k]? = some x ∧ (bl xs)[k]? = some (.bool x) from fun k h => ⟨xs[k]'(by omega), List.getElem?_eq_getElem _, bl_get xs k (by omega)⟩)
    have HY := Lib.hid (show ∀ k, k < n → ∃ x, ys[k]? = some x ∧ (bl ys)[k]? = some (.bool x) from fun k h => ⟨ys[k]'(by omega), List.getElem?_eq_getElem _, bl_get ys k (by omega)⟩)
    clear hl hn hm2
    go_enter Try.func150, Try.ntmps150
    go_wp2
    go_loopw [13] (SmRel w xs ys n) (fun i _ => n - (intOf i).toNat)
    case atStart => exact ⟨0, 0, Nat.zero_le _, rfl, fun i h => absurd h (Nat.not_lt_zero _), rfl⟩
    case round =>
      obtain ⟨k, m, hk, rfl, hs, rfl⟩ := hrel
      have HS := Lib.hid hs
      clear hs
      by_cases hlt : k < n
      · obtain ⟨b, off, rfl, hbl, hcc⟩ := hCa.out (by omega)
        obtain ⟨b', off', rfl, hbl', hcc'⟩ := hCb.out (by omega)
        obtain ⟨x, x1, gx⟩ := HX.out k hlt
        obtain ⟨y, y1, gy⟩ := HY.out k hlt
        have h1 : w.cell? ⟨b, off + k, none⟩ = some (.bool x) := hcc k _ gx
        have h2 : w.cell? ⟨b', off' + k, none⟩ = some (.bool y) := hcc' k _ gy
        have H1 := Lib.hid x1
        have H2 := Lib.hid y1
        clear hcc hcc' hCa hCb HX HY x1 y1 gx gy
        by_cases hxy : x = y
        · subst hxy
          have HN := Lib.hid (smTo_succ HS.out H1.out H2.out)
          clear H1 H2
          cases x
          all_goals
            go_wp2
            go_quiet (fail)
            go_wp2
            go_roundw
            case rel => exact ⟨k + 1, _, by omega, by go_num, HN.out, rfl⟩
            case measure => simp [intOf]; omega
        · have HN := Lib.hid (sm_no H1.out H2.out hxy)
          clear H1 H2
          cases x <;> cases y
          · exact absurd rfl hxy
          · clear hxy
            go_wp2
            go_quiet (fail)
            go_wp2
            go_ret
            rw [HN.out]
            exact ⟨rfl, _, World.drewN_drewN _ _ _⟩
          · clear hxy
            go_wp2
            go_quiet (fail)
            go_wp2
            go_ret
            rw [HN.out]
            exact ⟨rfl, _, World.drewN_drewN _ _ _⟩
          · exact absurd rfl hxy
      · obtain rfl : k = n := by omega
        have HN := Lib.hid (HAll.out HS.out)
        go_wp2
        go_ret
        rw [HN.out]
        exact ⟨rfl, _, rfl⟩
  · have HN := Lib.hid (show decide (xs = ys) = false from decide_eq_false fun e => hl (by rw [e]))
    have hne : ((xs.length : Int) != (ys.length : Int)) = true := by simp; omega
    generalize xs.length = n at *
    generalize ys.length = n' at *
    clear hCa hCb hl
    go_enter Try.func150, Try.ntmps150
    go_wp2
    go_ret
    rw [HN.out]
    exact ⟨rfl, 0, rfl⟩
def scdB (p0 q0 : Int) (a0 : List Bool) (p1 q1 : Int) (a1 : List Bool) : Bool := decide (p0 = p1) && decide (q0 = q1) && decide (a0 = a1)
set_option maxRecDepth 100000 in
set_option maxHeartbeats 4000000 in
theorem scP_any (g g' : Nat) (v0 v1 : Value) (p0 q0 p1 q1 : Int) (a0 a1 : List Bool) (w : World) (B : Nat) (h0 : Rd w B v0 (bl a0)) (h1 : Rd w B v1 (bl a1)) (hm0 : a0.length ≤ 1048576) (hm1 : a1.length ≤ 1048576)
    (k0 : w.cell? ⟨g, 0, none⟩ = some (.int .i64 p0)) (k1 : w.cell? ⟨g, 1, none⟩ = some (.int .i64 q0)) (k2 : w.cell? ⟨g, 2, none⟩ = some v0)
    (k3 : w.cell? ⟨g', 0, none⟩ = some (.int .i64 p1)) (k4 : w.cell? ⟨g', 1, none⟩ = some (.int .i64 q1)) (k5 : w.cell? ⟨g', 2, none⟩ = some v1) :
    Calls Try.prog 84 #[.pointer (some ⟨g, 0, none⟩), .pointer (some ⟨g', 0, none⟩)] w (RetBo (scdB p0 q0 a0 p1 q1 a1) w) := by
  obtain ⟨A0, c0, hv0, _, _, _⟩ := id h0
  obtain ⟨A1, c1, hv1, _, _, _⟩ := id h1
  rw [bl_len] at hv0 hv1
  subst hv0 hv1
  have HQ := Lib.hid (fun a => (sbS_any (.slice A0 a0.length c0) (.slice A1 a1.length c1) a0 a1 (w.drewN a) B B (h0.drewN a) (h1.drewN a) hm0 hm1).mono (R' := fun e w'' => e = .returned (.bool (decide (a0 = a1))) ∧ ∃ q, w'' = w.drewN q) fun e w' ⟨he, q, hw⟩ => ⟨he, a + q, by rw [hw, World.drewN_drewN]⟩)
  clear h0 h1
  by_cases hp : p0 = p1
  · by_cases hq : q0 = q1
    · subst hp hq
      rw [show scdB p0 q0 a0 p0 q0 a1 = decide (a0 = a1) by simp [scdB]]
      go_enter Try.func84, Try.ntmps84
      go_wp2_with fail
      go_quiet ((exact HQ.out _))
      go_wp2
      go_ret
      exact ⟨rfl, _, rfl⟩
    · rw [show scdB p0 q0 a0 p1 q1 a1 = false by simp [scdB, hq]]
      have hq' : (q0 == q1) = false := beq_eq_false_iff_ne.2 hq
      have hq2 : decide (q0 = q1) = false := decide_eq_false hq
      subst hp
      clear hq
      go_enter Try.func84, Try.ntmps84
      go_wp2_with fail
      go_quiet ((exact HQ.out _))
      go_wp2
      go_ret
      exact ⟨rfl, _, rfl⟩
  · rw [show scdB p0 q0 a0 p1 q1 a1 = false by simp [scdB, hp]]
    have hp' : (p0 == p1) = false := beq_eq_false_iff_ne.2 hp
    have hp2 : decide (p0 = p1) = false := decide_eq_false hp
    clear hp
    go_enter Try.func84, Try.ntmps84
    go_wp2_with fail
    go_quiet ((exact HQ.out _))
    go_wp2
    go_ret
    exact ⟨rfl, _, rfl⟩
set_option maxRecDepth 100000 in
set_option maxHeartbeats 1000000 in
theorem scI_any (v0 : Value) (p0 q0 : Int) (a0 : List Bool) (v1 : Value) (p1 q1 : Int) (a1 : List Bool) (w : World) (h0 : Rd w w.heap.size v0 (bl a0)) (hm0 : a0.length ≤ 1048576) (h1 : Rd w w.heap.size v1 (bl a1)) (hm1 : a1.length ≤ 1048576) :
    Calls Try.prog 89 #[.agg #[.int .i64 p0, .int .i64 q0, v0], .agg #[.int .i64 p1, .int .i64 q1, v1]] w (RetBB (scdB p0 q0 a0 p1 q1 a1) w) := by
  obtain ⟨A0, c0, hv0, _, _, _⟩ := id h0
  obtain ⟨A1, c1, hv1, _, _, _⟩ := id h1
  rw [bl_len] at hv0 hv1
  subst hv0 hv1
  have hb : Below w.heap.size w ((w.alloc (.cells #[.int .i64 p0, .int .i64 q0, .slice A0 a0.length c0] 37)).alloc (.cells #[.int .i64 p1, .int .i64 q1, .slice A1 a1.length c1] 37)) := ((Below.refl _ _).alloc (Nat.le_refl _) _).alloc (by simp) _
  have HE := Lib.hid (sbI_any _ _ a0 a1 _ _ _ (h0.below hb) (h1.below hb) hm0 hm1)
  have HB := Lib.hid hb
  clear h0 h1 hb
  by_cases hp : p0 = p1
  · subst hp
    by_cases hq : q0 = q1
    · subst hq
      rw [show scdB p0 q0 a0 p0 q0 a1 = decide (a0 = a1) by simp [scdB]]
      go_enter Try.func89, Try.ntmps89
      go_wp2_with (go_at_call 150; refine HE.out.mono ?_; rintro e w1 ⟨rfl, n, rfl⟩)
      go_ret
      exact ⟨rfl, below_drawn HB.out _⟩
    · rw [show scdB p0 q0 a0 p0 q1 a1 = false by simp [scdB, hq]]
      have hq' : (q0 == q1) = false := beq_eq_false_iff_ne.2 hq
      have hq2 : decide (q0 = q1) = false := decide_eq_false hq
      clear hq
      go_enter Try.func89, Try.ntmps89
      go_wp2_with fail
      go_ret
      exact ⟨rfl, HB.out⟩
  · rw [show scdB p0 q0 a0 p1 q1 a1 = false by simp [scdB, hp]]
    have hp' : (p0 == p1) = false := beq_eq_false_iff_ne.2 hp
    have hp2 : decide (p0 = p1) = false := decide_eq_false hp
    clear hp
    go_enter Try.func89, Try.ntmps89
    go_wp2_with fail
    go_ret
    exact ⟨rfl, HB.out⟩
end Go.Proofs.Ythkklilfignmpaa.Cf
