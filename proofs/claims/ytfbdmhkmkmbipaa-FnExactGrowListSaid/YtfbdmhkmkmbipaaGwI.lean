/-
  Contracts: GrowList, by the program and by the model.
-/
import Derived.Deep.RegionHeld3
import Derived.Test.YtfbdmhkmkmbipaaDtI
import Derived.Test.YtfbdmhkmkmbipaaDtS
namespace Go.Proofs.Ytfbdmhkmkmbipaa
open Go.RowKit Fl
set_option linter.unusedVariables false
set_option maxRecDepth 100000
set_option linter.unusedSimpArgs false
open Sf (vsB vsI_any vsP_any RetBB)
theorem run_mkD {P : Program} (t e : TypeId) (i : TypeInfo) (z : Value) (ht : P.underlying t = some (.slice e)) (hi : P.info? e = some i) (hz : i.zero = some z)
    (n : Nat) (hbytes : i.bytes * n ≤ 281474976710656) (h63 : n ≤ 9223372036854775807) (w : World) :
    (Instr.makeSlice t (.int .i64 (n : Int)) (.int .i64 (n : Int))).run P w = .ok (.slice (some ⟨w.heap.size, 0, none⟩) n n) (w.alloc (.cells (madeCells z.cells (n * i.size)) e)) := by
  have hb : (i.bytes : Int) * (n : Int) ≤ 281474976710656 := by
    have h : ((i.bytes * n : Nat) : Int) ≤ 281474976710656 := by omega
    rwa [Int.natCast_mul] at h
  have hr := run_make (P := P) w t e i z ht hi hz .i64 .i64 n n (by omega) (by omega) hb (by omega)
  simp only [Int.toNat_natCast] at hr
  exact hr
theorem zeros_lt (n : Nat) : ∀ x ∈ List.replicate n 0, x < 2 ^ 32 := by
  intro x hx
  rw [List.eq_of_mem_replicate hx]; decide
theorem zeros_fin (n : Nat) : finA (List.replicate n 0) = true := decide_eq_true fun i hi => by rw [List.getElem_replicate]; decide
theorem made_zeros (W : World) (n : Nat) (hn : n ≤ 1048576) : Own (W.alloc (Obj.cells (madeCells #[Value.float .f32 0] n) 23)) W.heap.size (.slice (some ⟨W.heap.size, 0, none⟩) n n) (fl (List.replicate n 0)) := by
  have e : (madeCells #[Value.float .f32 0] n).toList = fl (List.replicate n 0) := by rw [toList_madeCells_one]; simp [fl]
  have es : (madeCells #[Value.float .f32 0] n).size = n * 1 := by rw [← Array.length_toList, e, fl_len, List.length_replicate, Nat.mul_one]
  have r1 := World.ownsRow_lit (base := W.heap.size) (e := 23) (size := 1) W (madeCells #[Value.float .f32 0] n) n (Nat.le_refl _) (by unfold maxLen; omega) es
  rw [e] at r1
  exact Own.row r1
theorem dpB_noL {ws xs : List Nat} {s : Nat} (h : isL xs = false) : dpB ws s xs (List.replicate xs.length 0) = false := by
  cases hd : dpB ws s xs (List.replicate xs.length 0) with
  | false => rfl
  | true =>
    unfold dpB at hd
    simp only [Bool.and_eq_true] at hd
    have hf := fitB_out hd.1.1.1.2
    have : isL xs = true := by unfold isL; rw [hd.1.1.2]; simp; omega
    rw [h] at this; cases this
set_option maxHeartbeats 8000000 in
theorem gwI_any (s : Nat) (ws xs : List Nat) (vw vx : Value) (w : World) (hrw : Rd w w.heap.size vw (fl ws)) (hrx : Rd w w.heap.size vx (fl xs)) (hmw : ws.length ≤ 1048576) (hmx : xs.length ≤ 1048576) (hwx : ∀ x ∈ ws, x < 2 ^ 32) (hxx : ∀ x ∈ xs, x < 2 ^ 32) (hs : s < 2 ^ 32) :
    Calls Try.prog 28 #[.agg #[vw, .float .f32 s], vx] w (RetDb (dpR ws s xs (List.replicate xs.length 0)) (dpB ws s xs (List.replicate xs.length 0)) w) := by
  obtain ⟨i0, hi, hz0, hz1, hz2⟩ := info_parts infoF
  obtain ⟨w1, hw1⟩ : ∃ w1, w1 = (w.alloc (Obj.cells #[vw, .float .f32 s] 29)) := ⟨_, rfl⟩
  have hb01 : Below w.heap.size w w1 := by rw [hw1]; exact (Below.refl _ _).alloc (Nat.le_refl _) _
  have HB01 := Lib.hid hb01
  have hg : w.heap.size < w1.heap.size := by rw [hw1]; simp
  have K0 := Lib.hid (show w1.cell? ⟨w.heap.size, 0, none⟩ = some vw by rw [hw1]; exact (cell_of_row _ _ _ _ _ _ (heap_alloc_new w _)).trans rfl)
  have K1 := Lib.hid (show w1.cell? ⟨w.heap.size, 1, none⟩ = some (.float .f32 s) by rw [hw1]; exact (cell_of_row _ _ _ _ _ _ (heap_alloc_new w _)).trans rfl)
  have HRW := Lib.hid ((hrw.below hb01).more (Nat.le_of_lt hg))
  have HRX := Lib.hid ((hrx.below hb01).more (Nat.le_of_lt hg))
  have HW1 := Lib.hid hw1
  clear hw1 hb01 hrw hrx
  obtain ⟨Ax, cx, hvx, e1, e2, e3⟩ := id HRX.out
  clear e1 e2 e3
  rw [fl_len] at hvx
  subst hvx
  by_cases h1 : xs.length ≤ 64
  · have hle : (xs.length : Int) ≤ 64 := by omega
    have hmk : ∀ W : World, (Instr.makeSlice 22 (.int .i64 (xs.length : Int)) (.int .i64 (xs.length : Int))).run Try.prog W = .ok (.slice (some ⟨W.heap.size, 0, none⟩) xs.length xs.length) (W.alloc (Obj.cells (madeCells #[Value.float .f32 0] xs.length) 23)) := fun W => by have h := run_mkD (P := Try.prog) 22 23 i0 (.float .f32 0) Try.underlying22 hi hz0 xs.length (by rw [hz2]; omega) (by omega) W; rw [hz1, Nat.mul_one] at h; exact h
    obtain ⟨w2, hw2⟩ : ∃ w2, w2 = (w1.alloc (Obj.cells (madeCells #[Value.float .f32 0] xs.length) 23)).drew := ⟨_, rfl⟩
    have hb2 : Below w1.heap.size w1 w2 := by rw [hw2]; exact below_drawn ((Below.refl _ _).alloc (Nat.le_refl _) _) 1
    have ho2 : Own w2 w1.heap.size (.slice (some ⟨w1.heap.size, 0, none⟩) xs.length xs.length) (fl (List.replicate xs.length 0)) := by rw [hw2]; exact (made_zeros w1 xs.length hmx).drewN 1
    have HD := Lib.hid (dtI_any s ws xs (List.replicate xs.length 0) vw (.slice Ax xs.length cx) _ w2 (HRW.out.step hb2) (HRX.out.step hb2) ho2.rd hmw hmx (by rw [List.length_replicate]; exact hmx) hwx hxx (zeros_lt _) hs)
    have HB2 := Lib.hid hb2
    have K0m := Lib.hid ((hb2.cell (p := ⟨w.heap.size, 0, none⟩) hg).trans K0.out)
    have K1m := Lib.hid ((hb2.cell (p := ⟨w.heap.size, 1, none⟩) hg).trans K1.out)
    have K0d := Lib.hid (show w1.drew.cell? ⟨w.heap.size, 0, none⟩ = some vw from K0.out)
    have K1d := Lib.hid (show w1.drew.cell? ⟨w.heap.size, 1, none⟩ = some (.float .f32 s) from K1.out)
    rw [hw2] at HD K0m K1m
    have HW2 := Lib.hid hw2
    clear hw2 hb2 ho2
    go_enter Try.func28, Try.ntmps28
    go_wp2_with fail
    rw [← HW1.out]
    go_region_held3 (fun w' => w'.cell? ⟨w.heap.size, 0, none⟩ = some vw ∧ w'.cell? ⟨w.heap.size, 1, none⟩ = some (.float .f32 s)) (first | exact ⟨K0d.out, K1d.out⟩ | exact ⟨K0m.out, K1m.out⟩ | exact ⟨K0e.out, K1e.out⟩) ((go_at_call 26; refine HD.out.mono ?_; rintro e w5 ⟨v, rfl, o1, b5⟩; have K0e := Lib.hid ((b5.cell (p := ⟨w.heap.size, 0, none⟩) (by simp; omega)).trans K0m.out); have K1e := Lib.hid ((b5.cell (p := ⟨w.heap.size, 1, none⟩) (by simp; omega)).trans K1m.out)))
    rw [← HW2.out] at o1 b5
    go_wp2_with fail
    exact bodyPost_ret (v := .tuple #[v, .bool (dpB ws s xs (List.replicate xs.length 0))]) (by simp [results, Try.results28, go_sem]) rfl ⟨v, rfl, o1.less (Nat.le_trans (Nat.le_of_lt hg) HB2.out.size), (HB01.out.trans (HB2.out.mono (Nat.le_of_lt hg))).trans (b5.mono (Nat.le_trans (Nat.le_of_lt hg) HB2.out.size))⟩
  · have HOK := Lib.hid (show dpB ws s xs (List.replicate xs.length 0) = false by unfold dpB; rw [show fitB xs.length (List.replicate xs.length 0).length = false by rw [List.length_replicate]; unfold fitB; simp only [decide_eq_false_iff_not]; omega]; simp)
    have hgt : 64 < (xs.length : Int) := by omega
    go_enter Try.func28, Try.ntmps28
    go_wp2_with fail
    exact bodyPost_ret (v := .tuple #[.slice none 0 0, .bool false]) (by simp [results, Try.results28, go_sem]) rfl (retDb_no HOK.out ((Below.refl _ _).alloc (Nat.le_refl _) _))
set_option maxHeartbeats 8000000 in
theorem gwS_any (s : Nat) (ws xs : List Nat) (vw vx : Value) (w : World) (hrw : Rd w w.heap.size vw (fl ws)) (hrx : Rd w w.heap.size vx (fl xs)) (hmw : ws.length ≤ 1048576) (hmx : xs.length ≤ 1048576) (hwx : ∀ x ∈ ws, x < 2 ^ 32) (hxx : ∀ x ∈ xs, x < 2 ^ 32) (hs : s < 2 ^ 32) :
    Calls Try.prog 27 #[.agg #[vw, .float .f32 s], vx] w (RetDb (dpR ws s xs (List.replicate xs.length 0)) (dpB ws s xs (List.replicate xs.length 0)) w) := by
  obtain ⟨i0, hi, hz0, hz1, hz2⟩ := info_parts infoF
  obtain ⟨w1, hw1⟩ : ∃ w1, w1 = (w.alloc (Obj.cells #[vw, .float .f32 s] 29)) := ⟨_, rfl⟩
  have hb01 : Below w.heap.size w w1 := by rw [hw1]; exact (Below.refl _ _).alloc (Nat.le_refl _) _
  have HB01 := Lib.hid hb01
  have hg : w.heap.size < w1.heap.size := by rw [hw1]; simp
  have K0 := Lib.hid (show w1.cell? ⟨w.heap.size, 0, none⟩ = some vw by rw [hw1]; exact (cell_of_row _ _ _ _ _ _ (heap_alloc_new w _)).trans rfl)
  have K1 := Lib.hid (show w1.cell? ⟨w.heap.size, 1, none⟩ = some (.float .f32 s) by rw [hw1]; exact (cell_of_row _ _ _ _ _ _ (heap_alloc_new w _)).trans rfl)
  have HRW := Lib.hid ((hrw.below hb01).more (Nat.le_of_lt hg))
  have HRX := Lib.hid ((hrx.below hb01).more (Nat.le_of_lt hg))
  have HW1 := Lib.hid hw1
  clear hw1 hb01 hrw hrx
  obtain ⟨Ax, cx, hvx, e1, e2, e3⟩ := id HRX.out
  clear e1 e2 e3
  rw [fl_len] at hvx
  subst hvx
  obtain h1 | h1 : vsB ws s = false ∨ vsB ws s = true := by cases vsB ws s <;> simp
  · have HVB := Lib.hid h1
    have HOK := Lib.hid (show dpB ws s xs (List.replicate xs.length 0) = false by unfold dpB; rw [h1]; simp)
    clear h1
    go_enter Try.func27, Try.ntmps27
    go_wp2_with (go_at_call 57; rw [← HW1.out]; refine (vsP_any w.heap.size vw ws s w1 _ HRW.out K0.out K1.out hmw hwx hs).mono ?_; rintro e w2 ⟨rfl, n2, rfl⟩; rw [HVB.out])
    exact bodyPost_ret (v := .tuple #[.slice none 0 0, .bool false]) (by simp [results, Try.results27, go_sem]) rfl (retDb_no HOK.out (by first | exact HB01.out | exact below_drawn (HB01.out) _ | exact below_drawn (below_drawn (HB01.out) _) _ | exact below_drawn (below_drawn (below_drawn (HB01.out) _) _) _))
  · obtain h2 | h2 : isL xs = false ∨ isL xs = true := by cases isL xs <;> simp
    · have HVB := Lib.hid h1
      have HIB := Lib.hid h2
      have HOK := Lib.hid (dpB_noL (s := s) (ws := ws) h2)
      clear h1 h2
      go_enter Try.func27, Try.ntmps27
      go_wp2_with (first | (go_at_call 57; rw [← HW1.out]; refine (vsP_any w.heap.size vw ws s w1 _ HRW.out K0.out K1.out hmw hwx hs).mono ?_; rintro e w2 ⟨rfl, n2, rfl⟩; rw [HVB.out]) | (go_at_call 58; refine (islS_any (.slice Ax xs.length cx) xs (w1.drewN n2) _ (HRX.out.drewN _) hmx hxx).mono ?_; rintro e w3 ⟨rfl, n3, rfl⟩; rw [HIB.out]))
      exact bodyPost_ret (v := .tuple #[.slice none 0 0, .bool false]) (by simp [results, Try.results27, go_sem]) rfl (retDb_no HOK.out (by first | exact HB01.out | exact below_drawn (HB01.out) _ | exact below_drawn (below_drawn (HB01.out) _) _ | exact below_drawn (below_drawn (below_drawn (HB01.out) _) _) _))
    · by_cases h3 : xs.length ≤ 64
      · have HVB := Lib.hid h1
        have HIB := Lib.hid h2
        have hle : (xs.length : Int) ≤ 64 := by omega
        obtain ⟨hw8, hfw, hfs⟩ := vsB_out h1
        obtain ⟨hx8, hfx⟩ := isL_out h2
        have hmk : ∀ W : World, (Instr.makeSlice 22 (.int .i64 (xs.length : Int)) (.int .i64 (xs.length : Int))).run Try.prog W = .ok (.slice (some ⟨W.heap.size, 0, none⟩) xs.length xs.length) (W.alloc (Obj.cells (madeCells #[Value.float .f32 0] xs.length) 23)) := fun W => by have h := run_mkD (P := Try.prog) 22 23 i0 (.float .f32 0) Try.underlying22 hi hz0 xs.length (by rw [hz2]; omega) (by omega) W; rw [hz1, Nat.mul_one] at h; exact h
        have HOK := Lib.hid (show dpB ws s xs (List.replicate xs.length 0) = finA (dpL ws s xs (List.replicate xs.length 0)) by unfold dpB; rw [h1, hfx, zeros_fin, show fitB xs.length (List.replicate xs.length 0).length = true by rw [List.length_replicate]; exact decide_eq_true ⟨by omega, by omega, .inl rfl⟩]; simp)
        have HDS := Lib.hid (fun (m : Nat) => (show Calls Try.prog 66 #[.pointer (some ⟨w.heap.size, 0, none⟩), (.slice Ax xs.length cx), .slice (some ⟨w1.heap.size, 0, none⟩) xs.length xs.length] ((w1.drewN m).alloc (Obj.cells (madeCells #[Value.float .f32 0] xs.length) 23)) (RetDq (dpL ws s xs (List.replicate xs.length 0)) ((w1.drewN m).alloc (Obj.cells (madeCells #[Value.float .f32 0] xs.length) 23))) from by have hb3 : Below w1.heap.size w1 ((w1.drewN m).alloc (Obj.cells (madeCells #[Value.float .f32 0] xs.length) 23)) := (below_drawn (Below.refl _ _) m).alloc (Nat.le_refl _) _; exact dssS_any w.heap.size s ws xs (List.replicate xs.length 0) vw (.slice Ax xs.length cx) _ _ (Nat.lt_of_lt_of_le hg hb3.size) ((hb3.cell (p := ⟨w.heap.size, 0, none⟩) hg).trans K0.out) ((hb3.cell (p := ⟨w.heap.size, 1, none⟩) hg).trans K1.out) (HRW.out.step hb3) (HRX.out.step hb3) (made_zeros (w1.drewN m) xs.length hmx).rd hw8 hx8.1 (by omega) (by rw [List.length_replicate]; exact .inl rfl) hfw hwx hfx hxx (zeros_fin _) (zeros_lt _) hfs hs))
        clear h1 h2 hw8 hfw hfs hx8 hfx
        go_enter Try.func27, Try.ntmps27
        go_wp2_with (first | (go_at_call 57; rw [← HW1.out]; refine (vsP_any w.heap.size vw ws s w1 _ HRW.out K0.out K1.out hmw hwx hs).mono ?_; rintro e w2 ⟨rfl, n2, rfl⟩; rw [HVB.out]) | (go_at_call 58; refine (islS_any (.slice Ax xs.length cx) xs (w1.drewN n2) _ (HRX.out.drewN _) hmx hxx).mono ?_; rintro e w3 ⟨rfl, n3, rfl⟩; rw [HIB.out]) | (go_at_call 66; refine (HDS.out _).mono ?_; rintro e w6 ⟨v, cL, rfl, o1, i1, b6⟩; have O1 := Lib.hid o1; have I1 := Lib.hid i1; have B6 := Lib.hid b6; clear o1 i1 b6))
        exact bodyPost_ret (v := .tuple #[v, .bool (finA (dpL ws s xs (List.replicate xs.length 0)))]) (by simp [results, Try.results27, go_sem]) rfl (retDb_q HOK.out (O1.out.less (by simp; omega)) I1.out (below_then B6.out ((below_drawn HB01.out _).alloc (by simp; omega) _)))
      · have HVB := Lib.hid h1
        have HIB := Lib.hid h2
        have HOK := Lib.hid (show dpB ws s xs (List.replicate xs.length 0) = false by unfold dpB; rw [show fitB xs.length (List.replicate xs.length 0).length = false by rw [List.length_replicate]; unfold fitB; simp only [decide_eq_false_iff_not]; omega]; simp)
        have hgt : 64 < (xs.length : Int) := by omega
        clear h1 h2
        go_enter Try.func27, Try.ntmps27
        go_wp2_with (first | (go_at_call 57; rw [← HW1.out]; refine (vsP_any w.heap.size vw ws s w1 _ HRW.out K0.out K1.out hmw hwx hs).mono ?_; rintro e w2 ⟨rfl, n2, rfl⟩; rw [HVB.out]) | (go_at_call 58; refine (islS_any (.slice Ax xs.length cx) xs (w1.drewN n2) _ (HRX.out.drewN _) hmx hxx).mono ?_; rintro e w3 ⟨rfl, n3, rfl⟩; rw [HIB.out]))
        exact bodyPost_ret (v := .tuple #[.slice none 0 0, .bool false]) (by simp [results, Try.results27, go_sem]) rfl (retDb_no HOK.out (by first | exact HB01.out | exact below_drawn (HB01.out) _ | exact below_drawn (below_drawn (HB01.out) _) _ | exact below_drawn (below_drawn (below_drawn (HB01.out) _) _) _))
end Go.Proofs.Ytfbdmhkmkmbipaa
