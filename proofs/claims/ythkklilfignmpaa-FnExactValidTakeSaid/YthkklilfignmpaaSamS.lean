/-
  Contracts: SameScheme of both sides.
-/
import Derived.Test.YthkklilfignmpaaSam
import Derived.Deep.QuietTactic
import Derived.BigQuiet
namespace Go.Proofs.Ythkklilfignmpaa.Sg
open Go.RowKit Fl
set_option linter.unusedVariables false

def ssB (xs : List Nat) (s : Nat) (ys : List Nat) (t : Nat) : Bool := wsB xs ys && smB s t
def RetBB (b : Bool) (w : World) (e : Ending) (w' : World) : Prop := e = .returned (.bool b) ∧ Below w.heap.size w w'
theorem quietBo {P : Program} {F : FuncId} {gs : Array Value} {b : Bool} {w : World} {n : Nat} (h : Calls P F gs (w.drewN n) (RetBo b (w.drewN n))) : Calls P F gs (w.drewN n) fun e w'' => e = .returned (.bool b) ∧ ∃ m, w'' = w.drewN m := Calls.quiet_of h
set_option maxRecDepth 100000 in
set_option maxHeartbeats 1000000 in
theorem ssQ_any (g1 g2 : Nat) (va vb : Value) (xs ys : List Nat) (s t : Nat) (w : World) (B B' : Nat) (ha : Rd w B va (fl xs)) (hb : Rd w B' vb (fl ys)) (a0 : w.cell? ⟨g1, 0, none⟩ = some va) (a1 : w.cell? ⟨g1, 1, none⟩ = some (.float .f32 s)) (b0 : w.cell? ⟨g2, 0, none⟩ = some vb) (b1 : w.cell? ⟨g2, 1, none⟩ = some (.float .f32 t)) (hm : xs.length ≤ 1048576) (hm' : ys.length ≤ 1048576) (hx : ∀ x ∈ xs, x < 2 ^ 32) (hy : ∀ x ∈ ys, x < 2 ^ 32) (hs : s < 2 ^ 32) (ht : t < 2 ^ 32) :
    Calls Try.prog 82 #[.pointer (some ⟨g1, 0, none⟩), .pointer (some ⟨g2, 0, none⟩)] w (RetBo (ssB xs s ys t) w) := by
  obtain ⟨A, c, hva, _, _, _⟩ := id ha
  obtain ⟨A', c', hvb, _, _, _⟩ := id hb
  rw [fl_len] at hva hvb
  subst hva hvb
  have HW := Lib.hid (fun n => wsP_any _ _ xs ys (w.drewN n) B B' (ha.drewN n) (hb.drewN n) hm hm' hx hy)
  have HS := Lib.hid (fun n => smP_any s t (w.drewN n) hs ht)
  clear hx hy
  cases hw : wsB xs ys
  all_goals
    rw [hw] at HW
    have HV := Lib.hid hw
    clear hw
    cases hss : smB s t
    all_goals
      rw [hss] at HS
      have HV2 := Lib.hid (show ssB xs s ys t = _ by unfold ssB; rw [HV.out, hss])
      clear hss
      go_enter Try.func82, Try.ntmps82
      go_wp2
      go_quiet ((first | (go_at_call 81; exact quietBo (HW.out _)) | (go_at_call 147; exact quietBo (HS.out _))))
      go_wp2
      go_ret
      rw [HV2.out]
      exact ⟨rfl, _, rfl⟩

set_option maxRecDepth 100000 in
set_option maxHeartbeats 1000000 in
theorem sscI_any (va vb : Value) (xs ys : List Nat) (s t : Nat) (w : World) (ha : Rd w w.heap.size va (fl xs)) (hb : Rd w w.heap.size vb (fl ys)) (hm : xs.length ≤ 1048576) (hm' : ys.length ≤ 1048576) (hx : ∀ x ∈ xs, x < 2 ^ 32) (hy : ∀ x ∈ ys, x < 2 ^ 32) (hs : s < 2 ^ 32) (ht : t < 2 ^ 32) :
    Calls Try.prog 87 #[.agg #[va, .float .f32 s], .agg #[vb, .float .f32 t]] w (RetBB (ssB xs s ys t) w) := by
  obtain ⟨A, c, hva, _, _, _⟩ := id ha
  obtain ⟨A', c', hvb, _, _, _⟩ := id hb
  rw [fl_len] at hva hvb
  subst hva hvb
  have hb2 : Below w.heap.size w ((w.alloc (.cells #[.slice A xs.length c, .float .f32 s] 35)).alloc (.cells #[.slice A' ys.length c', .float .f32 t] 35)) := ((Below.refl _ _).alloc (Nat.le_refl _) _).alloc (by simp) _
  have hra := ha.step hb2
  have hrb := hb.step hb2
  have HS := Lib.hid (fun w => smI_any s t w hs ht)
  have HW := Lib.hid (fun n => wsI_any _ _ xs ys (((w.alloc (.cells #[.slice A xs.length c, .float .f32 s] 35)).alloc (.cells #[.slice A' ys.length c', .float .f32 t] 35)).drewN n) _ _ (hra.drewN n) (hrb.drewN n) hm hm' hx hy)
  clear hra hrb hx hy
  cases hss : smB s t with
  | true =>
    rw [hss] at HS
    have HV := Lib.hid (show ssB xs s ys t = wsB xs ys by unfold ssB; rw [hss, Bool.and_true])
    clear hss
    generalize wsB xs ys = r at *
    go_enter Try.func87, Try.ntmps87
    go_wp2_with fail
    refine (HS.out _).mono ?_
    rintro e w1 ⟨rfl, n, rfl⟩
    go_wp2_with fail
    refine (HW.out _).mono ?_
    rintro e w1 ⟨rfl, n2, rfl⟩
    go_wp2_with fail
    go_ret
    rw [HV.out]
    exact ⟨rfl, below_drawn hb2 _⟩
  | false =>
    rw [hss] at HS
    have HV := Lib.hid (show ssB xs s ys t = false by unfold ssB; rw [hss, Bool.and_false])
    clear hss HW
    go_enter Try.func87, Try.ntmps87
    go_wp2_with fail
    refine (HS.out _).mono ?_
    rintro e w1 ⟨rfl, n, rfl⟩
    go_wp2_with fail
    go_ret
    rw [HV.out]
    exact ⟨rfl, below_drawn hb2 _⟩
end Go.Proofs.Ythkklilfignmpaa.Sg
