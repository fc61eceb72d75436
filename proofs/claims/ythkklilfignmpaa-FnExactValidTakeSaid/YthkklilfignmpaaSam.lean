/-
  Contracts: the bits of 32-bit floats and whether schemes are the same, of both sides.
-/
import Derived.Test.YthkklilfignmpaaSch
import Derived.Deep.RegionWith
namespace Go.Proofs.Ythkklilfignmpaa
open Go.RowKit Fl
set_option linter.unusedVariables false
set_option maxRecDepth 100000
theorem row_bits (x : Nat) (w : World) : (callFunc 178 #[.float .f32 x]).run Try.prog w = .ok (.value (.int .u32 x)) w := by
  rw [run_callFunc_extern Try.func178 rfl rfl rfl rfl]; rfl
set_option maxHeartbeats 400000 in
theorem bits_any (x : Nat) (w : World) (hx : x < 2 ^ 32) : Calls Try.prog 176 #[.float .f32 x] w fun e w' => e = .returned (.int .i64 (cn .f32 x)) ∧ w = w' := by
  have hr := row_bits x
  have hs := neq_self .f32 x
  cases hn : isN .f32 x with
  | true =>
    rw [hn] at hs
    have hc := Lib.hid (cn_of_nan hn)
    clear hn
    go_enter Try.func176, Try.ntmps176
    go_wp2
    go_ret
    rw [hc.out]
    exact ⟨rfl, rfl⟩
  | false =>
    rw [hn] at hs
    have hc := Lib.hid (cn_of_not hn)
    clear hn
    go_enter Try.func176, Try.ntmps176
    go_wp2
    go_ret
    rw [hc.out]
    exact ⟨rfl, rfl⟩
set_option maxHeartbeats 400000 in
theorem implBits_any (x : Nat) (w : World) (hx : x < 2 ^ 32) : Calls Try.prog 149 #[.float .f32 x] w fun e w' => e = .returned (.int .i64 (cn .f32 x)) ∧ ∃ n, w' = w.drewN n := by
  have hr := row_bits x
  cases hn : isN .f32 x with
  | true =>
    have hc := Lib.hid (cn_of_nan hn)
    have hN := Lib.hid hn
    clear hn
    go_enter Try.func149, Try.ntmps149
    go_wp2_with (first | (refine up_wide (by rw [Try.underlying23]; rfl) Try.underlying82 ?_; intro r n hr) | (go_at_call 177; refine (isnan_any _ _).mono ?_; rintro e w' ⟨rfl, rfl⟩; rw [isN_of_is (by assumption), isN_wi, hN.out]))
    go_ret
    rw [hc.out]
    exact ⟨rfl, _, rfl⟩
  | false =>
    have hc := Lib.hid (cn_of_not hn)
    have hN := Lib.hid hn
    clear hn
    go_enter Try.func149, Try.ntmps149
    go_wp2_with (first | (refine up_wide (by rw [Try.underlying23]; rfl) Try.underlying82 ?_; intro r n hr) | (go_at_call 177; refine (isnan_any _ _).mono ?_; rintro e w' ⟨rfl, rfl⟩; rw [isN_of_is (by assumption), isN_wi, hN.out]))
    go_ret
    rw [hc.out]
    exact ⟨rfl, _, rfl⟩

def smB (x y : Nat) : Bool := decide (cn .f32 x = cn .f32 y)
theorem smP_any (x y : Nat) (w : World) (hx : x < 2 ^ 32) (hy : y < 2 ^ 32) : Calls Try.prog 147 #[.float .f32 x, .float .f32 y] w (RetBo (smB x y) w) := by
  have hd : (((cn .f32 x : Nat) : Int) == ((cn .f32 y : Nat) : Int)) = smB x y := by
    rw [Bool.eq_iff_iff, beq_iff_eq]; unfold smB; rw [decide_eq_true_eq]; omega
  have HX := Lib.hid (fun w => bits_any x w hx)
  have HY := Lib.hid (fun w => bits_any y w hy)
  generalize cn .f32 x = a at *
  generalize cn .f32 y = b at *
  generalize smB x y = r at *
  go_enter Try.func147, Try.ntmps147
  go_wp2_with fail
  refine (HX.out _).mono ?_
  rintro e w' ⟨rfl, rfl⟩
  go_wp2_with fail
  refine (HY.out _).mono ?_
  rintro e w' ⟨rfl, rfl⟩
  go_wp2_with fail
  go_ret
  exact ⟨rfl, 0, rfl⟩
theorem smI_any (x y : Nat) (w : World) (hx : x < 2 ^ 32) (hy : y < 2 ^ 32) : Calls Try.prog 86 #[.float .f32 x, .float .f32 y] w (RetBo (smB x y) w) := by
  have hd : (((cn .f32 x : Nat) : Int) == ((cn .f32 y : Nat) : Int)) = smB x y := by
    rw [Bool.eq_iff_iff, beq_iff_eq]; unfold smB; rw [decide_eq_true_eq]; omega
  have HX := Lib.hid (fun w => implBits_any x w hx)
  have HY := Lib.hid (fun w => implBits_any y w hy)
  generalize cn .f32 x = a at *
  generalize cn .f32 y = b at *
  generalize smB x y = r at *
  go_enter Try.func86, Try.ntmps86
  go_wp2_with fail
  refine (HX.out _).mono ?_
  rintro e w' ⟨rfl, n1, rfl⟩
  go_wp2_with fail
  refine (HY.out _).mono ?_
  rintro e w' ⟨rfl, n2, rfl⟩
  go_wp2_with fail
  go_ret
  exact ⟨rfl, _, rfl⟩
def wsB (xs ys : List Nat) : Bool := decide (xs.length = ys.length ∧ ∀ i (h : i < xs.length) (h2 : i < ys.length), cn .f32 xs[i] = cn .f32 ys[i])
def WsTo (xs ys : List Nat) (k : Nat) : Prop := ∀ i (h : i < xs.length) (h2 : i < ys.length), i < k → cn .f32 xs[i] = cn .f32 ys[i]
theorem wsB_len {xs ys : List Nat} (h : xs.length ≠ ys.length) : wsB xs ys = false := decide_eq_false fun hh => h hh.1
theorem wsB_yes {xs ys : List Nat} (hl : xs.length = ys.length) (h : WsTo xs ys xs.length) : wsB xs ys = true := decide_eq_true ⟨hl, fun i h1 h2 => h i h1 h2 h1⟩
theorem wsB_no {xs ys : List Nat} {k : Nat} (h1 : k < xs.length) (h2 : k < ys.length) (h : smB xs[k] ys[k] = false) : wsB xs ys = false := decide_eq_false fun hh => (of_decide_eq_false h) (hh.2 k h1 h2)
theorem wsTo_succ {xs ys : List Nat} {k : Nat} (h1 : k < xs.length) (h2 : k < ys.length) (ht : WsTo xs ys k) (h : smB xs[k] ys[k] = true) : WsTo xs ys (k + 1) := by
  intro i a b hi
  by_cases he : i = k
  · subst he; exact of_decide_eq_true h
  · exact ht i a b (by omega)
def WsRel (w : World) (xs ys : List Nat) (i : Value) (wr : World) : Prop := ∃ k m : Nat, k ≤ xs.length ∧ i = .int .i64 k ∧ WsTo xs ys k ∧ wr = w.drewN m
set_option maxHeartbeats 2000000 in
theorem wsP_any (va vb : Value) (xs ys : List Nat) (w : World) (B B' : Nat) (ha : Rd w B va (fl xs)) (hb : Rd w B' vb (fl ys)) (hm : xs.length ≤ 1048576) (hm' : ys.length ≤ 1048576) (hx : ∀ x ∈ xs, x < 2 ^ 32) (hy : ∀ x ∈ ys, x < 2 ^ 32) :
    Calls Try.prog 81 #[va, vb] w (RetBo (wsB xs ys) w) := by
  obtain ⟨A, c, hva, hc1, hc2, hca⟩ := ha
  obtain ⟨A', c', hvb, hc1', hc2', hcb⟩ := hb
  rw [fl_len] at hva hvb hc1 hc1' hca hcb
  subst hva hvb
  have hCa := Lib.hid hca
  have hCb := Lib.hid hcb
  have HX := Lib.hid hx
  have HY := Lib.hid hy
  clear hca hcb hx hy
  by_cases hl : xs.length = ys.length
  · have HL := Lib.hid hl
    have hne : (((xs.length : Nat) : Int) != ((ys.length : Nat) : Int)) = false := by rw [bne_eq_false_iff_eq]; omega
    clear hl
    go_enter Try.func81, Try.ntmps81
    go_wp2
    go_loopw [5] (WsRel w xs ys) (fun i _ => xs.length - (intOf i).toNat)
    case atStart => exact ⟨0, 0, Nat.zero_le _, rfl, fun i _ _ h => by omega, rfl⟩
    case round =>
      obtain ⟨k, m, hk, rfl, ht, rfl⟩ := hrel
      have HT := Lib.hid ht
      clear ht
      by_cases hlt : k < xs.length
      · have hk2 : k < ys.length := by have := HL.out; omega
        obtain ⟨b, off, rfl, hbl, hcc⟩ := hCa.out (by omega)
        obtain ⟨b', off', rfl, hbl', hcc'⟩ := hCb.out (by omega)
        have h1 : w.cell? ⟨b, off + k, none⟩ = some (.float .f32 xs[k]) := hcc k _ (fl_get xs k hlt)
        have h2 : w.cell? ⟨b', off' + k, none⟩ = some (.float .f32 ys[k]) := hcc' k _ (fl_get ys k hk2)
        have HC := Lib.hid (fun w => smP_any xs[k] ys[k] w (HX.out _ (List.getElem_mem hlt)) (HY.out _ (List.getElem_mem hk2)))
        clear hcc hcc' hCa hCb
        cases hs : smB xs[k] ys[k] with
        | true =>
          have HN := Lib.hid (wsTo_succ hlt hk2 HT.out hs)
          rw [hs] at HC
          clear hs
          generalize xs[k] = x at *
          generalize ys[k] = y at *
          go_wp2
          go_region_with (go_at_call 147; refine (HC.out _).mono ?_; rintro e w' ⟨rfl, n, rfl⟩)
          all_goals
            go_wp2
            go_roundw
            case rel => exact ⟨k + 1, _, by omega, by go_num, HN.out, rfl⟩
            case measure => simp [intOf]; omega
        | false =>
          have HN := Lib.hid (wsB_no hlt hk2 hs)
          rw [hs] at HC
          clear hs
          generalize xs[k] = x at *
          generalize ys[k] = y at *
          go_wp2
          go_region_with (go_at_call 147; refine (HC.out _).mono ?_; rintro e w' ⟨rfl, n, rfl⟩)
          all_goals
            go_wp2
            go_ret
            rw [HN.out]
            exact ⟨rfl, _, rfl⟩
      · obtain rfl : k = xs.length := by omega
        have HN := Lib.hid (wsB_yes HL.out HT.out)
        go_wp2
        go_ret
        rw [HN.out]
        exact ⟨rfl, _, rfl⟩
  · have HN := Lib.hid (wsB_len hl)
    have hne : (((xs.length : Nat) : Int) != ((ys.length : Nat) : Int)) = true := by rw [bne_iff_ne]; omega
    clear hl
    go_enter Try.func81, Try.ntmps81
    go_wp2
    go_ret
    rw [HN.out]
    exact ⟨rfl, 0, rfl⟩
set_option maxHeartbeats 2000000 in
theorem wsI_any (va vb : Value) (xs ys : List Nat) (w : World) (B B' : Nat) (ha : Rd w B va (fl xs)) (hb : Rd w B' vb (fl ys)) (hm : xs.length ≤ 1048576) (hm' : ys.length ≤ 1048576) (hx : ∀ x ∈ xs, x < 2 ^ 32) (hy : ∀ x ∈ ys, x < 2 ^ 32) :
    Calls Try.prog 85 #[va, vb, .func (.func 86) #[] #[]] w (RetBo (wsB xs ys) w) := by
  obtain ⟨A, c, hva, hc1, hc2, hca⟩ := ha
  obtain ⟨A', c', hvb, hc1', hc2', hcb⟩ := hb
  rw [fl_len] at hva hvb hc1 hc1' hca hcb
  subst hva hvb
  have hCa := Lib.hid hca
  have hCb := Lib.hid hcb
  have HX := Lib.hid hx
  have HY := Lib.hid hy
  clear hca hcb hx hy
  by_cases hl : xs.length = ys.length
  · have HL := Lib.hid hl
    have hne : (((xs.length : Nat) : Int) != ((ys.length : Nat) : Int)) = false := by rw [bne_eq_false_iff_eq]; omega
    clear hl
    go_enter Try.func85, Try.ntmps85
    go_wp2
    go_loopw [17] (WsRel w xs ys) (fun i _ => xs.length - (intOf i).toNat)
    case atStart => exact ⟨0, 0, Nat.zero_le _, rfl, fun i _ _ h => by omega, rfl⟩
    case round =>
      obtain ⟨k, m, hk, rfl, ht, rfl⟩ := hrel
      have HT := Lib.hid ht
      clear ht
      by_cases hlt : k < xs.length
      · have hk2 : k < ys.length := by have := HL.out; omega
        obtain ⟨b, off, rfl, hbl, hcc⟩ := hCa.out (by omega)
        obtain ⟨b', off', rfl, hbl', hcc'⟩ := hCb.out (by omega)
        have h1 : w.cell? ⟨b, off + k, none⟩ = some (.float .f32 xs[k]) := hcc k _ (fl_get xs k hlt)
        have h2 : w.cell? ⟨b', off' + k, none⟩ = some (.float .f32 ys[k]) := hcc' k _ (fl_get ys k hk2)
        have HC := Lib.hid (fun w => smI_any xs[k] ys[k] w (HX.out _ (List.getElem_mem hlt)) (HY.out _ (List.getElem_mem hk2)))
        clear hcc hcc' hCa hCb
        cases hs : smB xs[k] ys[k] with
        | true =>
          have HN := Lib.hid (wsTo_succ hlt hk2 HT.out hs)
          rw [hs] at HC
          clear hs
          generalize xs[k] = x at *
          generalize ys[k] = y at *
          go_wp2_with (go_at_call 86; refine (HC.out _).mono ?_; rintro e w' ⟨rfl, n, rfl⟩)
          all_goals
            go_wp2
            go_roundw
            case rel => exact ⟨k + 1, _, by omega, by go_num, HN.out, rfl⟩
            case measure => simp [intOf]; omega
        | false =>
          have HN := Lib.hid (wsB_no hlt hk2 hs)
          rw [hs] at HC
          clear hs
          generalize xs[k] = x at *
          generalize ys[k] = y at *
          go_wp2_with (go_at_call 86; refine (HC.out _).mono ?_; rintro e w' ⟨rfl, n, rfl⟩)
          all_goals
            go_wp2
            go_ret
            rw [HN.out]
            exact ⟨rfl, _, rfl⟩
      · obtain rfl : k = xs.length := by omega
        have HN := Lib.hid (wsB_yes HL.out HT.out)
        go_wp2
        go_ret
        rw [HN.out]
        exact ⟨rfl, _, rfl⟩
  · have HN := Lib.hid (wsB_len hl)
    have hne : (((xs.length : Nat) : Int) != ((ys.length : Nat) : Int)) = true := by rw [bne_iff_ne]; omega
    clear hl
    go_enter Try.func85, Try.ntmps85
    go_wp2
    go_ret
    rw [HN.out]
    exact ⟨rfl, 0, rfl⟩
end Go.Proofs.Ythkklilfignmpaa
