/-
  Contracts: sums of both sides, from left to right.
-/
import Derived.Test.YtcncobafpifimacEqF
import Derived.Test.YtcncobafpifimacFloSine
namespace Go.Proofs.Ytcncobafpifimac
open Go.RowKit Fl
set_option linter.unusedVariables false

section
variable {P : Program} {o : Oper} {a : Act} {w : World} {K : Act → World → Prop} {Q : Exit → Act → World → Prop}
theorem up_arl {op : BinOp} {t : TypeId} {k : FloatKind} {x y cx : Nat} (hop : arOp op = true) (h1 : Is k x cx)
    (h : ∀ r n, Is k r (ar op k cx y) → K (a.put o.dst (.float k r)) (w.drewN n)) :
    o.upon P a K Q ((Sem.run P (binOp op t (.float k x) (.float k y)) w).andThen fun v w' => .ok (.value v) w') :=
  up_ar hop fun r n hr => h r n (by rw [← ar_is_l h1]; exact hr)
end
def sumF (xs : List Nat) : Nat := xs.foldl (fun s x => ar .add .f32 s x) 0
theorem sumF_snoc (xs : List Nat) (x : Nat) : sumF (xs ++ [x]) = ar .add .f32 (sumF xs) x := by simp [sumF]
theorem sumF_take (xs : List Nat) (k : Nat) (h : k < xs.length) : sumF (xs.take (k + 1)) = ar .add .f32 (sumF (xs.take k)) xs[k] := by
  rw [List.take_succ_eq_append_getElem h, sumF_snoc]
def SumRel (w : World) (xs : List Nat) (s i : Value) (wr : World) : Prop := ∃ k m r : Nat, k ≤ xs.length ∧ i = .int .i64 k ∧ s = .float .f32 r ∧ Is .f32 r (sumF (xs.take k)) ∧ wr = w.drewN m
def RetF32 (c : Nat) (w : World) (e : Ending) (w' : World) : Prop := ∃ r n, e = .returned (.float .f32 r) ∧ Is .f32 r c ∧ w' = w.drewN n
/-- Returns a float that is worth c, and whether it is one. -/
def RetFB (c : Nat) (b : Bool) (w : World) (e : Ending) (w' : World) : Prop := ∃ r n, e = .returned (.tuple #[.float .f32 r, .bool b]) ∧ Is .f32 r c ∧ w' = w.drewN n

set_option maxHeartbeats 1000000 in
theorem sumS_any (v : Value) (xs : List Nat) (w : World) (B : Nat) (h : Rd w B v (fl xs)) (hm : xs.length ≤ 1048576) :
    Calls Try.prog 19 #[v] w (RetF32 (sumF xs) w) := by
  obtain ⟨A, c, hv, hc1, hc2, hcell⟩ := h
  rw [fl_len] at hv hc1 hcell
  subst hv
  have hC := Lib.hid hcell
  clear hcell
  go_enter Try.func19, Try.ntmps19
  go_wp2
  go_loopw [3, 4] (SumRel w xs) (fun _ i _ => xs.length - (intOf i).toNat)
  case atStart => exact ⟨0, 0, 0, Nat.zero_le _, rfl, rfl, is_lit (by decide), rfl⟩
  case round =>
    obtain ⟨k, m, r0, hk, rfl, rfl, hr0, rfl⟩ := hrel
    by_cases hlt : k < xs.length
    · obtain ⟨b, off, rfl, hbl, hcc⟩ := hC.out (by omega)
      have hsrc : w.cell? ⟨b, off + k, none⟩ = some (.float .f32 xs[k]) := hcc k _ (fl_get xs k hlt)
      have hS := Lib.hid (sumF_take xs k hlt)
      clear hcc hC
      go_wp2_with (refine up_arl rfl hr0 ?_; intro r n hr)
      go_roundw
      case rel => exact ⟨k + 1, _, _, by omega, by go_num, rfl, by rw [hS.out]; exact hr, rfl⟩
      case measure => simp [intOf]; omega
    · obtain rfl : k = xs.length := by omega
      rw [List.take_length] at hr0
      go_wp2
      go_ret
      exact ⟨_, _, rfl, hr0, rfl⟩
set_option maxHeartbeats 1000000 in
theorem sumI_any (v : Value) (xs : List Nat) (w : World) (B : Nat) (h : Rd w B v (fl xs)) (hm : xs.length ≤ 256) :
    Calls Try.prog 20 #[v] w (RetFB (sumF xs) true w) := by
  obtain ⟨A, c, hv, hc1, hc2, hcell⟩ := h
  rw [fl_len] at hv hc1 hcell
  subst hv
  have hC := Lib.hid hcell
  clear hcell
  go_enter Try.func20, Try.ntmps20
  go_wp2
  go_loopw [4, 13] (SumRel w xs) (fun _ i _ => xs.length - (intOf i).toNat)
  case atStart => exact ⟨0, 0, 0, Nat.zero_le _, rfl, rfl, is_lit (by decide), rfl⟩
  case round =>
    obtain ⟨k, m, r0, hk, rfl, rfl, hr0, rfl⟩ := hrel
    by_cases hlt : k < xs.length
    · obtain ⟨b, off, rfl, hbl, hcc⟩ := hC.out (by omega)
      have hsrc : w.cell? ⟨b, off + k, none⟩ = some (.float .f32 xs[k]) := hcc k _ (fl_get xs k hlt)
      have hS := Lib.hid (sumF_take xs k hlt)
      clear hcc hC
      go_wp2_with (refine up_arl rfl hr0 ?_; intro r n hr)
      go_roundw
      case rel => exact ⟨k + 1, _, _, by omega, by go_num, rfl, by rw [hS.out]; exact hr, rfl⟩
      case measure => simp [intOf]; omega
    · obtain rfl : k = xs.length := by omega
      rw [List.take_length] at hr0
      go_wp2
      go_ret2
      exact ⟨_, _, rfl, hr0, rfl⟩
theorem sumI_no (v : Value) (xs : List Nat) (w : World) (B : Nat) (h : Rd w B v (fl xs)) (hm : 256 < xs.length) (hm2 : xs.length ≤ 1048576) :
    Calls Try.prog 20 #[v] w (RetFB 0 false w) := by
  obtain ⟨A, c, hv, hc1, hc2, hcell⟩ := h
  rw [fl_len] at hv
  subst hv
  clear hcell
  go_enter Try.func20, Try.ntmps20
  go_wp2
  go_ret2
  exact ⟨_, 0, rfl, is_lit (by decide), rfl⟩
theorem few_any (v : Value) (xs : List Nat) (w : World) (B : Nat) (h : Rd w B v (fl xs)) (hm2 : xs.length ≤ 1048576) :
    Calls Try.prog 18 #[v] w fun e w' => e = .returned (.bool (decide (xs.length ≤ 256))) ∧ w = w' := by
  obtain ⟨A, c, hv, hc1, hc2, hcell⟩ := h
  rw [fl_len] at hv
  subst hv
  clear hcell
  have hd : decide ((xs.length : Int) ≤ 256) = decide (xs.length ≤ 256) := by rw [decide_eq_decide]; omega
  go_enter Try.func18, Try.ntmps18
  go_wp2
  go_ret
  exact ⟨by rw [← hd]; rfl, rfl⟩
theorem sumSp_yes (v : Value) (xs : List Nat) (w : World) (B : Nat) (h : Rd w B v (fl xs)) (hm : xs.length ≤ 256) :
    Calls Try.prog 7 #[v] w (RetFB (sumF xs) true w) := by
  have hd := Lib.hid (decide_eq_true hm)
  go_enter Try.func7, Try.ntmps7
  go_wp2_with (first | (go_at_call 18; refine (few_any _ _ _ _ h (by omega)).mono ?_; rintro e w' ⟨rfl, rfl⟩; rw [hd.out]) | (go_at_call 19; refine (sumS_any _ _ _ _ h (by omega)).mono ?_; rintro e w' ⟨r, n, rfl, hr, rfl⟩))
  go_ret2
  exact ⟨_, _, rfl, hr, rfl⟩
theorem sumSp_no (v : Value) (xs : List Nat) (w : World) (B : Nat) (h : Rd w B v (fl xs)) (hm : 256 < xs.length) (hm2 : xs.length ≤ 1048576) :
    Calls Try.prog 7 #[v] w (RetFB 0 false w) := by
  have hd := Lib.hid (decide_eq_false (show ¬ xs.length ≤ 256 by omega))
  go_enter Try.func7, Try.ntmps7
  go_wp2_with (go_at_call 18; refine (few_any _ _ _ _ h hm2).mono ?_; rintro e w' ⟨rfl, rfl⟩; rw [hd.out])
  go_ret2
  exact ⟨_, 0, rfl, is_lit (by decide), rfl⟩
end Go.Proofs.Ytcncobafpifimac
