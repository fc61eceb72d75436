/-
  Contracts: gains of the program; the best break, of the model.
-/
import Derived.Test.YtpckljkhmaghmaaMn
namespace Go.Proofs.Ytpckljkhmaghmaa
open Go.RowKit Fl Ieee
set_option linter.unusedVariables false

theorem sum_nn : ∀ (xs : List Nat), (∀ x ∈ xs, finB .f32 x = true) → isN .f32 (sumF xs) = false := by
  intro xs
  have key : ∀ (ys : List Nat) (s : Nat), isN .f32 s = false → (∀ x ∈ ys, finB .f32 x = true) → isN .f32 (ys.foldl (fun s x => ar .add .f32 s x) s) = false := by
    intro ys
    induction ys with
    | nil => intro s hs _; exact hs
    | cons y ys ih => intro s hs h; exact ih _ (add_nn hs (h y (by simp))) (fun x hx => h x (by simp [hx]))
  intro h
  exact key xs 0 (by decide) h
theorem finA_mem {xs : List Nat} (h : finA xs = true) : ∀ x ∈ xs, finB .f32 x = true := by
  intro x hx
  obtain ⟨i, hi, rfl⟩ := List.getElem_of_mem hx
  exact finA_out h i hi
theorem part_nn {xs : List Nat} {m : Nat} (h : ∀ x ∈ xs, finB .f32 x = true) (h1 : 1 ≤ xs.length) (h2 : xs.length ≤ 256) (hm : finB .f32 m = true) : Nn (prX xs m) := by
  obtain ⟨k, e, hr, hk⟩ := foi_read xs.length h1 h2
  exact nn_part hr hk (sub_nn (quo_nn (sum_nn xs h) h1 h2) hm)
theorem part_fin {xs : List Nat} {m : Nat} (h : finB .f32 (prX xs m) = true) : finB .f32 m = true := (sub_fin (mul_fin h).2).2
def bbA (xs : List Nat) : Bool := decide (∀ i, i < xs.length → 1 ≤ i → finB .f32 (gnX xs (mnX xs) i) = true)
theorem bb_fin (xs : List Nat) (hf : finA xs = true) (h1 : 2 ≤ xs.length) (h2 : xs.length ≤ 128) : finB .f32 (bsK (gnX xs (mnX xs)) (xs.length - 1)).2 = bbA xs := by
  cases hm : finB .f32 (mnX xs) with
  | true =>
    have hg : ∀ i, 1 ≤ i → i ≤ xs.length - 1 → Nn (gnX xs (mnX xs) i) := fun i h3 h4 =>
      nn_add (part_nn (fun x hx => finA_mem hf x (List.mem_of_mem_take hx)) (by rw [List.length_take]; omega) (by rw [List.length_take]; omega) hm)
        (part_nn (fun x hx => finA_mem hf x (List.mem_of_mem_drop hx)) (by rw [List.length_drop]; omega) (by rw [List.length_drop]; omega) hm)
    cases hb : finB .f32 (bsK (gnX xs (mnX xs)) (xs.length - 1)).2 with
    | true => exact (decide_eq_true fun i h3 h4 => bsK_fin _ _ hg (xs.length - 1) (by omega) (Nat.le_refl _) hb i h4 (by omega)).symm
    | false =>
      refine (decide_eq_false fun hh => ?_).symm
      have := bsK_all (gnX xs (mnX xs)) (xs.length - 1) (fun i h3 h4 => hh i (by omega) h3) (by omega)
      rw [this] at hb; cases hb
  | false =>
    have hn : ∀ i, finB .f32 (gnX xs (mnX xs) i) = false := fun i => by
      cases hc : finB .f32 (gnX xs (mnX xs) i) with
      | false => rfl
      | true => rw [part_fin (add_fin hc).1] at hm; cases hm
    obtain ⟨i, _, _, h5⟩ := bsK_mem (gnX xs (mnX xs)) (xs.length - 1) (by omega)
    rw [h5, hn]
    exact (decide_eq_false fun hh => by have := hh 1 (by omega) (by omega); rw [hn] at this; cases this).symm
def bbG (xs : List Nat) : Bool := isL xs && decide (2 ≤ xs.length) && bbA xs
def bb1 (xs : List Nat) : Int := if bbG xs then ((bsK (gnX xs (mnX xs)) (xs.length - 1)).1 : Int) else 0
def bb2 (xs : List Nat) : Nat := if bbG xs then (bsK (gnX xs (mnX xs)) (xs.length - 1)).2 else 0
theorem retIB_bb {xs : List Nat} {w w' : World} (hG : bbG xs = false) (h : Below w.heap.size w w') : RetIB (bb1 xs) (bb2 xs) (bbG xs) w (.returned (.tuple #[.int .i64 0, .float .f32 0, .bool false])) w' := by
  unfold bb1 bb2; rw [hG]; exact retIB_no h
theorem bb_yes {xs : List Nat} (h : bbG xs = true) : bb1 xs = ((bsK (gnX xs (mnX xs)) (xs.length - 1)).1 : Int) ∧ bb2 xs = (bsK (gnX xs (mnX xs)) (xs.length - 1)).2 := by unfold bb1 bb2; rw [h]; exact ⟨rfl, rfl⟩
end Go.Proofs.Ytpckljkhmaghmaa
