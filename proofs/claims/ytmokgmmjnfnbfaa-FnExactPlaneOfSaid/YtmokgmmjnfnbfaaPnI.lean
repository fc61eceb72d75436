/-
  Contracts: PlaneOf of one side.
-/
import Derived.Test.YtmokgmmjnfnbfaaPnK
namespace Go.Proofs.Ytmokgmmjnfnbfaa
open Go.RowKit Fl
set_option linter.unusedVariables false

def RetK (xs : List Bool) (w : World) (e : Ending) (w' : World) : Prop := RetBl1 xs w e w'
set_option maxRecDepth 100000 in
theorem cloneB_any (a : Addr) (c : Nat) (xs : List Bool) (w : World) (h : Rd w w.heap.size (.slice (some a) xs.length c) (bl xs)) (hm : xs.length ≤ 1048576) :
    Calls Try.prog 59 #[.slice (some a) xs.length c] w (RetBl1 xs w) := by
  obtain ⟨i0, hi, hz0, hz1, hz2⟩ := info_parts infoB
  obtain ⟨A, c', hv, hc1, hc2, hcell⟩ := id h
  rw [bl_len] at hv hc1 hcell
  have hcl : ∀ j u, (bl xs)[j]? = some u → (w.alloc (Obj.cells #[] 4)).cell? (a.add j) = some u := by
    intro j u hu
    have hj := (List.getElem?_eq_some_iff.1 hu).1
    rw [bl_len] at hj
    obtain ⟨b, off, e, hb, hcc⟩ := hcell (by omega)
    simp only [Value.slice.injEq] at hv
    obtain ⟨e1, _, _⟩ := hv
    rw [e] at e1
    cases e1
    rw [Go.WideShapes.add_plain]
    exact (((Below.refl _ _).alloc (Nat.le_refl _) _).cell (p := ⟨b, off + j, none⟩) hb).trans (hcc j u hu)
  have hown : (w.alloc (Obj.cells #[] 4)).ownsRow w.heap.size 4 1 (.slice (some ⟨w.heap.size, 0, none⟩) 0 0) 0 (bl []) := World.ownsRow_made w #[] 0 (Nat.le_refl _) (Nat.zero_le _) rfl
  have hb0 : Below w.heap.size w (w.alloc (Obj.cells #[] 4)) := (Below.refl _ _).alloc (Nat.le_refl _) _
  have hnil : ∀ (W : World), (binOp .eql 28 (.slice (some a) xs.length c) (.slice none 0 0)).run Try.prog W = .ok (.bool false) W := fun W => Lib.run_eql_slice_nil W _ _ (some a) _ _ _ _ Try.underlying28
  clear hv hc1 hcell
  go_enter Try.func59, Try.ntmps59
  go_wp2_with (at_builtin; refine wpList_append_own _ rfl _ _ 28 rfl w.heap.size 4 i0 (.bool false) 1 1 Try.underlying28 hi hz0 hz1 hz2 rfl (by decide) _ _ _ rfl hown a xs.length c (bl xs) rfl (by rw [bl_len]; omega) hcl (cellsB xs) (by unfold maxLen; omega) (by omega) (by simp) ?_; intro v' w1 hown' hgrow _)
  go_ret
  refine ⟨_, rfl, ?_, hb0.grown hgrow (by simp) (fun j hj => (hown.lt j hj).1)⟩
  have := Own.row hown'
  simpa [bl] using this
/-- The world with a plane in a cell of its own. -/
noncomputable def PlW (w1 : World) (D : List Bool) : World := (w1.alloc (.cells Try.zeroCells68 68)).setRow w1.heap.size (bl D).toArray
theorem plW_heap (w1 : World) (D : List Bool) : (PlW w1 D).heap[w1.heap.size]? = some (.cells (bl D).toArray 68 (0, 0)) := setRow_heap _ _ _ _ _ _ (heap_alloc_new w1 _)
theorem plW_below (w1 : World) (D : List Bool) : Below w1.heap.size w1 (PlW w1 D) :=
  ((Below.refl _ _).alloc (Nat.le_refl _) _).trans ⟨rfl, rfl, rfl, by simp [PlW], fun k hk => setRow_other _ _ _ _ (by omega)⟩
theorem cloneP (D : List Bool) (n : Nat) (hD : D.length = 128) (hn1 : 1 ≤ n) (hn : n ≤ 128) (w1 : World) :
    Calls Try.prog 59 #[.slice (some ⟨w1.heap.size, 0, none⟩) n 128] (PlW w1 D) (RetBl1 (D.take n) (PlW w1 D)) := by
  have hl : (D.take n).length = n := by rw [List.length_take]; omega
  have hg := plW_heap w1 D
  have hlt : w1.heap.size < (PlW w1 D).heap.size := (Array.getElem?_eq_some_iff.1 hg).1
  have := cloneB_any ⟨w1.heap.size, 0, none⟩ 128 (D.take n) (PlW w1 D) ⟨some ⟨w1.heap.size, 0, none⟩, 128, by rw [bl_len], by rw [bl_len, hl]; exact hn, by unfold maxLen; omega, fun _ => ⟨w1.heap.size, 0, rfl, hlt, fun j u hu => by
    have hj := (List.getElem?_eq_some_iff.1 hu).1
    rw [bl_len, hl] at hj
    have e1 : (bl D)[j]? = some u := by
      rw [← hu]; simp [bl, hj]
    simp [World.cell?, hg, e1]⟩⟩ (by rw [hl]; omega)
  rw [hl] at this
  exact this
set_option maxRecDepth 100000 in
set_option maxHeartbeats 4000000 in
theorem poI_any (v : Value) (xs : List Int) (p : Int) (w : World) (hr : Rd w w.heap.size v (il xs)) (hm : xs.length ≤ 1048576) :
    Calls Try.prog 20 #[v, .int .i64 p] w (RetBl (pnV xs p) (pnG xs p) w) := by
  have HA := Lib.hid (areI_any v xs w _ hr hm)
  cases t1 : areB xs with
  | false =>
    have hb : pnG xs p = false := by unfold pnG; rw [t1]; rfl
    rw [pnV_no hb, hb]
    have T1 := Lib.hid t1
    clear t1 hb
    go_enter Try.func20, Try.ntmps20
    go_wp2_with (first | (go_at_call 55; refine HA.out.mono ?_; rintro e w' ⟨rfl, rfl⟩; rw [T1.out]))
    go_ret2
    exact retBl_nil (Below.refl _ _)
  | true =>
    cases t2 : pnP p with
    | false =>
      have hb : pnG xs p = false := by unfold pnG; rw [t1, t2]; rfl
      rw [pnV_no hb, hb]
      have T1 := Lib.hid t1
      have hnn := of_decide_eq_false (show decide (0 ≤ p ∧ p ≤ 23) = false from t2)
      clear t1 t2 hb
      by_cases hp0 : p < 0
      · clear hnn
        go_enter Try.func20, Try.ntmps20
        go_wp2_with (first | (go_at_call 55; refine HA.out.mono ?_; rintro e w' ⟨rfl, rfl⟩; rw [T1.out]))
        go_ret2
        exact retBl_nil (Below.refl _ _)
      · have hp1 : 24 ≤ p := by omega
        have hp2 : 0 ≤ p := by omega
        clear hnn hp0
        go_enter Try.func20, Try.ntmps20
        go_wp2_with (first | (go_at_call 55; refine HA.out.mono ?_; rintro e w' ⟨rfl, rfl⟩; rw [T1.out]))
        go_ret2
        exact retBl_nil (Below.refl _ _)
    | true =>
      have hb : pnG xs p = true := by unfold pnG; rw [t1, t2]; rfl
      rw [pnV_yes hb, hb]
      obtain ⟨hl1, hl2, hw⟩ := areB_len t1
      obtain ⟨hp1, hp2⟩ := of_decide_eq_true (show decide (0 ≤ p ∧ p ≤ 23) = true from t2)
      have T1 := Lib.hid t1
      clear t1 t2 hb
      obtain ⟨q, rfl⟩ : ∃ q : Nat, p = q := ⟨p.toNat, by omega⟩
      rw [show ((q : Int)).toNat = q by omega, ← pnK_take]
      have HP := Lib.hid (pla_any v xs q w hr hl2 hw (by omega))
      have hD := plD_len xs q hl2
      obtain ⟨A0, c, hv, hc1, hc2, hcell⟩ := hr
      rw [il_len] at hv hc1 hcell
      subst hv
      clear hcell hw
      generalize plD xs q = D at *
      have HCl := Lib.hid (cloneP D xs.length hD hl1 hl2)
      have HIN := Lib.hid (show (Try.prog.info? 68).map (·.size) = some ((bl D).toArray).size by rw [bl_size, hD]; exact infoP)
      have HZS := Lib.hid (show (Try.zeroCells68).size = ((bl D).toArray).size by rw [bl_size, hD]; exact zeroP)
      have HAL := Lib.hid (allB D)
      generalize xs.length = n at *
      have hal : Try.prog.arrayLen 68 = 128 := by kernel_rfl
      have hse : ∀ (W : World) (g : Nat), (Instr.sliceAt 68 (.pointer (some ⟨g, 0, none⟩)) none (some (.int .i64 n)) none).run Try.prog W = .ok (.slice (some ⟨g, 0, none⟩) n 128) W := fun W g => by
        have := run_sliceAt_array_h (P := Try.prog) (w := W) (t := 68) (a := ⟨g, 0, none⟩) Try.underlying68 .i64 n (by omega) (by rw [hal]; omega)
        rw [this, hal]
        have hsz : (sizeOf (Try.prog.elem 68)).run Try.prog W = .ok 1 W := by rw [show Try.prog.elem 68 = 4 by kernel_rfl]; simp [sizeOf]; rfl
        rw [hsz]
        simp only [Result.andThen, slicedAt, Addr.add, Int.toNat_natCast, Nat.zero_mul, Nat.add_zero, Nat.sub_zero, ite_self]
      clear hD
      go_enter Try.func20, Try.ntmps20
      go_wp2_with (first | (go_at_call 55; refine HA.out.mono ?_; rintro e w' ⟨rfl, rfl⟩; rw [T1.out]) | (go_at_call 56; refine HP.out.mono ?_; rintro e w1 ⟨rfl, hb1⟩) | (refine wpList_store_row rfl 68 _ _ rfl _ (bl D).toArray rfl rfl 68 _ (heap_alloc_new w1 _) HIN.out HZS.out HAL.out ?_) | (go_at_call 59; refine (HCl.out w1).mono ?_; rintro e w9 ⟨u, rfl, ho9, hb9⟩))
      go_ret2
      exact ⟨_, rfl, ho9.less (by have := hb1.size; have := (plW_below w1 D).size; omega), hb1.trans (((plW_below w1 D).trans (hb9.mono (plW_below w1 D).size)).mono hb1.size)⟩
end Go.Proofs.Ytmokgmmjnfnbfaa
