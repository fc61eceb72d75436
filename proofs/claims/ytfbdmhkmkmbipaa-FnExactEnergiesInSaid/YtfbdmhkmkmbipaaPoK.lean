/-
  Contracts: a picture whose lights are told by their places, by the program.
-/
import Derived.Test.YtfbdmhkmkmbipaaGr
import Derived.Test.YtfbdmhkmkmbipaaIsl
import Derived.Deep.RegionHeld3
import Derived.Deep.RegionLaw
namespace Go.Proofs.Ytfbdmhkmkmbipaa
open Go.RowKit Fl
set_option linter.unusedVariables false

/-- The lights row by row. -/
def grd (p q : Int) (g : Nat → Nat → Nat) : List Nat := (List.range (p * q).toNat).map fun i => g (i % p.toNat) (i / p.toNat)
def pcB (p q : Int) (g : Nat → Nat → Nat) : Bool := ssB p q && finA (grd p q g)
/-- A picture of these lights, if it is one. -/
def RetGr (p q : Int) (g : Nat → Nat → Nat) (w : World) : Ending → World → Prop :=
  if pcB p q g then RetPc p q (grd p q g) true w else RetPc 0 0 [] false w
theorem retGr_no {p q : Int} {g : Nat → Nat → Nat} {w : World} (h : pcB p q g = false) : RetGr p q g w = RetPc 0 0 [] false w := by unfold RetGr; rw [h]; rfl
theorem retGr_yes {p q : Int} {g : Nat → Nat → Nat} {w : World} (h : pcB p q g = true) : RetGr p q g w = RetPc p q (grd p q g) true w := by unfold RetGr; rw [h]; rfl
/-- What a closure answers: a number worth this one. -/
def RetClG (c : Nat) (w : World) (e : Ending) (w' : World) : Prop := ∃ r, e = .returned (.float .f32 r) ∧ Is .f32 r c ∧ Below w.heap.size w w'
theorem row_low {w : World} {lo n : Nat} {e : TypeId} {v : Value} {xs : List Value} (h : w.ownsRow lo e 1 v n xs) (lo' : Nat) (hl : lo' ≤ lo) : w.ownsRow lo' e 1 v n xs := by
  refine ⟨h.1, ?_⟩
  rcases h.2 with h2 | ⟨g, cap, cur, hv, hb, r⟩
  · exact .inl h2
  · exact .inr ⟨g, cap, cur, hv, by omega, r⟩
theorem made_row (w : World) (n : Nat) (hn : n ≤ 256) : (w.alloc (.cells (madeCells #[.float .f32 0] n) 23)).ownsRow w.heap.size 23 1 (.slice (some ⟨w.heap.size, 0, none⟩) 0 n) 0 (fl []) := by
  obtain ⟨i0, hi, hz0, hz1, hz2⟩ := info_parts infoF
  obtain ⟨w', hr, ho, _⟩ := run_make_own (P := Try.prog) w w.heap.size 22 23 i0 (.float .f32 0) 1 Try.underlying22 hi hz0 hz1 .i64 .i64 n (by rw [hz2]; omega) (by unfold maxLen; omega) (Nat.le_refl _)
  have h := run_make (P := Try.prog) w 22 23 i0 (.float .f32 0) Try.underlying22 hi hz0 .i64 .i64 0 (n : Int) (by omega) (by omega) (by rw [hz2]; omega) (by omega)
  rw [h, hz1] at hr
  simp only [Result.ok.injEq] at hr
  have e2 := hr.2
  simp [Value.cells] at e2
  rw [← e2] at ho
  exact ho
theorem Gro.step {w0 wr w' : World} {lo g k : Nat} {W H : Int} {L : List Nat} {v : Value} (h : Gro w0 lo g W H k L v wr) (hb : Below wr.heap.size wr w') : Gro w0 lo g W H k L v w' := by
  obtain ⟨h0, h1, h2, h3, h4, h5, h6, h7, h8, h9, h10⟩ := h
  exact ⟨(hb.cell (p := ⟨g, 0, none⟩) h4).trans h0, (hb.cell (p := ⟨g, 1, none⟩) h4).trans h1, (hb.cell (p := ⟨g, 2, none⟩) h4).trans h2, (hb.frozen (p := ⟨g, 2, none⟩) h4).trans h3, by have := hb.size; omega, h5, row_step h6 hb, h7.trans (hb.mono (by omega)), by have := hb.size; omega, h9, h10⟩
def gl (P : Nat) (g : Nat → Nat → Nat) (k : Nat) : List Nat := (List.range k).map fun i => g (i % P) (i / P)
theorem gl_push {P x y : Nat} {g : Nat → Nat → Nat} (hx : x < P) : gl P g (y * P + x + 1) = gl P g (y * P + x) ++ [g x y] := by
  unfold gl
  rw [List.range_succ, List.map_append]
  have h1 : (y * P + x) % P = x := by rw [Nat.add_comm, Nat.add_mul_mod_self_right]; exact Nat.mod_eq_of_lt hx
  have h2 : (y * P + x) / P = y := by rw [Nat.add_comm, Nat.add_mul_div_right _ _ (by omega), Nat.div_eq_of_lt hx]; omega
  simp [h1, h2]
def OutRel (w1 : World) (lo b : Nat) (p q : Int) (P Q : Nat) (g : Nat → Nat → Nat) (i : Value) (wr : World) : Prop :=
  ∃ (y : Nat) (v : Value) (cur : List Nat), y ≤ Q ∧ i = .int .i64 y ∧ IsLs cur (gl P g (y * P)) ∧ Gro w1 lo b p q (y * P) cur v wr
def InnRel (w1 : World) (lo b : Nat) (p q : Int) (P y : Nat) (g : Nat → Nat → Nat) (i : Value) (wr : World) : Prop :=
  ∃ (x : Nat) (v : Value) (cur : List Nat), x ≤ P ∧ i = .int .i64 x ∧ IsLs cur (gl P g (y * P + x)) ∧ Gro w1 lo b p q (y * P + x) cur v wr
def ivV (b : Bool) (p q : Int) (v : Value) : Value := if b then .tuple #[.agg #[.int .i64 p, .int .i64 q, v], .bool true] else .tuple #[.agg #[.int .i64 0, .int .i64 0, .slice none 0 0], .bool false]
set_option maxHeartbeats 2000000 in
theorem ivI_any (p q : Int) (A : Option Addr) (c : Nat) (xs : List Nat) (w : World) (h : Rd w w.heap.size (.slice A xs.length c) (fl xs)) (hm : xs.length ≤ 1048576) (hx : ∀ x ∈ xs, x < 2 ^ 32) :
    Calls Try.prog 128 #[.agg #[.int .i64 p, .int .i64 q, .slice A xs.length c]] w fun e w' => e = .returned (ivV (vpcB p q xs) p q (.slice A xs.length c)) ∧ Below w.heap.size w w' := by
  have hb2 : Below w.heap.size w ((w.alloc (.cells #[.int .i64 p, .int .i64 q, .slice A xs.length c] 50)).alloc (.cells #[.int .i64 0, .int .i64 0, .slice none 0 0] 50)) := ((Below.refl _ _).alloc (Nat.le_refl _) _).alloc (by simp) _
  have HV := Lib.hid (vpI_any (.slice A xs.length c) p q xs _ (h.step hb2) hm hx)
  have HB2 := Lib.hid hb2
  clear hb2 h hx
  go_enter Try.func128, Try.ntmps128
  go_wp2_with fail
  refine HV.out.mono ?_
  rintro e w1 ⟨rfl, hb1⟩
  obtain ⟨hc, hf⟩ := bcell hb1
  have c0 : w1.cell? ⟨w.heap.size, 0, none⟩ = some (.int .i64 p) := (hc _ _ (by simp; try omega)).trans (by simp [go_sem])
  have c1 : w1.cell? ⟨w.heap.size, 1, none⟩ = some (.int .i64 q) := (hc _ _ (by simp; try omega)).trans (by simp [go_sem])
  have c2 : w1.cell? ⟨w.heap.size, 2, none⟩ = some (.slice A xs.length c) := (hc _ _ (by simp; try omega)).trans (by simp [go_sem])
  have r0 : w1.cell? ⟨w.heap.size + 1, 0, none⟩ = some (.int .i64 0) := (hc _ _ (by simp)).trans (by simp [go_sem])
  have r1 : w1.cell? ⟨w.heap.size + 1, 1, none⟩ = some (.int .i64 0) := (hc _ _ (by simp)).trans (by simp [go_sem])
  have r2 : w1.cell? ⟨w.heap.size + 1, 2, none⟩ = some (.slice none 0 0) := (hc _ _ (by simp)).trans (by simp [go_sem])
  have e0 : w1.frozen? ⟨w.heap.size + 1, 0, none⟩ = false := (hf _ _ (by simp)).trans (by simp [go_sem])
  have e1 : w1.frozen? ⟨w.heap.size + 1, 1, none⟩ = false := (hf _ _ (by simp)).trans (by simp [go_sem])
  have e2 : w1.frozen? ⟨w.heap.size + 1, 2, none⟩ = false := (hf _ _ (by simp)).trans (by simp [go_sem])
  have hb0 : Below w.heap.size w w1 := HB2.out.trans (hb1.mono HB2.out.size)
  clear hc hf hb1
  cases hs : vpcB p q xs with
  | false =>
    have HB := Lib.hid (((hb0.setCell (p := ⟨w.heap.size + 1, 0, none⟩) (by show _ ≤ w.heap.size + 1; omega) (.int .i64 0)).setCell (p := ⟨w.heap.size + 1, 1, none⟩) (by show _ ≤ w.heap.size + 1; omega) (.int .i64 0)).setCell (p := ⟨w.heap.size + 1, 2, none⟩) (by show _ ≤ w.heap.size + 1; omega) (.slice none 0 0))
    have HS := Lib.hid hs
    clear hs hb0
    go_wp2_with fail
    exact bodyPost_ret (v := .tuple #[.agg #[.int .i64 0, .int .i64 0, .slice none 0 0], .bool false]) (by simp [results, Try.results128, go_sem, r0, r1, r2]) rfl ⟨by rw [HS.out]; rfl, HB.out⟩
  | true =>
    have HB := Lib.hid (((hb0.setCell (p := ⟨w.heap.size + 1, 0, none⟩) (by show _ ≤ w.heap.size + 1; omega) (.int .i64 p)).setCell (p := ⟨w.heap.size + 1, 1, none⟩) (by show _ ≤ w.heap.size + 1; omega) (.int .i64 q)).setCell (p := ⟨w.heap.size + 1, 2, none⟩) (by show _ ≤ w.heap.size + 1; omega) (.slice A xs.length c))
    have HS := Lib.hid hs
    clear hs hb0
    go_wp2_with fail
    exact bodyPost_ret (v := .tuple #[.agg #[.int .i64 p, .int .i64 q, .slice A xs.length c], .bool true]) (by simp [results, Try.results128, go_sem, r0, r1, r2]) rfl ⟨by rw [HS.out]; rfl, HB.out⟩
end Go.Proofs.Ytfbdmhkmkmbipaa
