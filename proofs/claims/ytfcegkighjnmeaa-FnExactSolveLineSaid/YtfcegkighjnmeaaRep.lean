/-
  Contracts: slices.Repeat of a list of one number.
-/
import Derived.Test.YtfcegkighjnmeaaFloDq
import Derived.Test.YtfcegkighjnmeaaSfm
import Derived.Test.YtfcegkighjnmeaaLin
namespace Go.Proofs.Ytfcegkighjnmeaa
open Go.RowKit Fl
set_option linter.unusedVariables false

def rpK (n x k : Nat) : List Nat := List.replicate k x ++ List.replicate (n - k) 0
theorem rp_splice (n x k m : Nat) (h : k + m ≤ n) : splice (fl (rpK n x k)) k (fl (List.replicate m x)) = fl (rpK n x (k + m)) := by
  have e : splice (fl (rpK n x k)) k (fl (List.replicate m x)) = fl (splice (rpK n x k) k (List.replicate m x)) := by simp [splice, fl, List.map_take, List.map_drop]
  rw [e]
  congr 1
  unfold splice rpK
  rw [List.take_left' (by simp), List.length_replicate, List.drop_append, List.drop_eq_nil_of_le (by simp), List.nil_append, List.drop_replicate, List.length_replicate, ← List.append_assoc, List.replicate_append_replicate]
  congr 2
  omega
theorem rp_cell {W : World} {g n x k m : Nat} (h : W.heap[g]? = some (.cells (fl (rpK n x k)).toArray 47 (0, 0))) (hm : m ≤ k) : ∀ j u, (fl (List.replicate m x))[j]? = some u → W.cell? ((⟨g, 0, none⟩ : Addr).add j) = some u := by
  intro j u hu
  have hj := (List.getElem?_eq_some_iff.1 hu).1
  rw [fl_len, List.length_replicate] at hj
  rw [Go.WideShapes.add_plain, Nat.zero_add, cell_of_row W g j _ _ _ h]
  have e : (fl (List.replicate m x))[j]? = some (.float .f32 x) := by simp [fl, hj]
  rw [e] at hu
  rw [← hu]
  have e2 : (fl (rpK n x k)).toArray[j]? = some (.float .f32 x) := by
    simp only [List.getElem?_toArray, fl, rpK, List.map_append, List.map_replicate]
    rw [List.getElem?_append_left (by simp; omega)]
    simp [show j < k by omega]
  exact e2
def RpR (w0 : World) (n x : Nat) (iv : Value) (wr : World) : Prop :=
  ∃ k : Nat, 1 ≤ k ∧ k ≤ n ∧ iv = .int .i64 k ∧ wr.heap[w0.heap.size]? = some (.cells (fl (rpK n x k)).toArray 47 (0, 0)) ∧ Below w0.heap.size w0 wr
set_option maxRecDepth 100000 in
set_option maxHeartbeats 4000000 in
theorem mul64_1 (w : World) : Calls Try.prog 101 #[.int .u64 1, .int .u64 1] w fun e w' => e = .returned (.tuple #[.int .u64 0, .int .u64 1]) ∧ w = w' := by
  go_enter Try.func101, Try.ntmps101
  go_wp2
  go_ret2
  exact ⟨rfl, rfl⟩
set_option maxRecDepth 100000 in
set_option maxHeartbeats 4000000 in
theorem mul_1 (w : World) : Calls Try.prog 97 #[.int .u64 1, .int .u64 1] w fun e w' => e = .returned (.tuple #[.int .u64 0, .int .u64 1]) ∧ w = w' := by
  go_enter Try.func97, Try.ntmps97
  go_wp2_with (go_at_call 101; refine (mul64_1 _).mono ?_; rintro e w' ⟨rfl, rfl⟩)
  go_ret2
  exact ⟨rfl, rfl⟩
set_option maxRecDepth 100000 in
set_option maxHeartbeats 8000000 in
theorem rep_1 (b off c x : Nat) (w : World) (hb : b < w.heap.size) (hx : w.cell? ⟨b, off, none⟩ = some (.float .f32 x)) :
    Calls Try.prog 81 #[.slice (some ⟨b, off, none⟩) 1 c, .int .i64 1] w (RetF1 (List.replicate 1 x) w) := by
  obtain ⟨i0, hi, hz0, hz1, hz2⟩ := info_parts infoF
  have hmk := fun W => run_mkL (P := Try.prog) 35 47 i0 _ Try.underlying35 hi hz0 1 (by rw [hz2]; omega) (by omega) (1 : Int) (by omega) W
  rw [hz1, Nat.mul_one] at hmk
  have hsz : (Try.prog.info? 47).map (·.size) = some 1 := by rw [hi]; simp [hz1]
  have hcur : (madeCells (Value.cells (.float .f32 0)) 1) = (fl (List.replicate 1 0)).toArray := by
    show (madeCells #[Value.float .f32 0] 1) = _
    have := toList_madeCells_one (.float .f32 0) 1
    rw [← Array.toArray_toList (xs := madeCells #[Value.float .f32 0] 1), this]; simp [fl]
  rw [hcur] at hmk
  have hcl : ∀ o : Obj, ∀ j u, (fl [x])[j]? = some u → (w.alloc o).cell? ((⟨b, off, none⟩ : Addr).add j) = some u := by
    intro o j u hu
    have hj := (List.getElem?_eq_some_iff.1 hu).1
    obtain rfl : j = 0 := by rw [fl_len] at hj; simp at hj; omega
    rw [Go.WideShapes.add_plain, Nat.add_zero]
    rw [show (fl [x])[0]? = some (.float .f32 x) from rfl] at hu
    rw [← hu]
    exact (((Below.refl _ _).alloc (Nat.le_refl _) _).cell (p := ⟨b, off, none⟩) hb).trans hx
  have HCL := Lib.hid hcl
  clear hcur hcl hx
  go_enter Try.func81, Try.ntmps81
  go_wp2_with (first | (go_at_call 97; refine (mul_1 _).mono ?_; rintro e w' ⟨rfl, rfl⟩) | (with_reducible refine wpList_copy_splice rfl _ _ _ _ rfl 47 Try.underlying35 hsz _ (some ⟨b, off, none⟩) _ _ 1 c rfl rfl w.heap.size 0 (fl (List.replicate 1 0)) 47 (heap_alloc_new w _) (fl [x]) (by rw [fl_len]; simp) (fun _ => ⟨rfl, _, rfl, fun j u hu => HCL.out _ j u hu⟩) (by rw [fl_len, fl_len]; simp) (cellsF [x]) w.heap.size w ((Below.refl _ _).alloc (Nat.le_refl _) _) (Nat.le_refl _) ?_; intro w1 hg1 hb1))
  have h1 : w1.heap[w.heap.size]? = some (.cells (fl (rpK 1 x 1)).toArray 47 (0, 0)) := hg1.out
  have H1 := Lib.hid h1
  have HB1 := Lib.hid hb1
  clear hg1 h1 hb1
  go_loopw [8] (RpR w 1 x) (fun i _ => 1 - (intOf i).toNat)
  case atStart => exact ⟨1, Nat.le_refl _, by omega, rfl, H1.out, HB1.out⟩
  case round =>
    clear H1 HB1
    obtain ⟨k, hk1, hk, rfl, hrow, hbl⟩ := hrel
    by_cases hlt : k < 1
    · exact absurd hlt (by omega)
    · obtain rfl : k = 1 := by omega
      rw [show rpK 1 x 1 = List.replicate 1 x by simp [rpK]] at hrow
      have ho := own_block hrow (Nat.le_refl _) (by simp)
      rw [List.length_replicate] at ho
      have HO := Lib.hid ho
      have HB := Lib.hid hbl
      clear ho hrow hbl
      go_wp2_with fail
      go_ret
      exact ⟨_, rfl, HO.out, HB.out⟩
set_option maxRecDepth 100000 in
set_option maxHeartbeats 4000000 in
theorem mul64_3 (w : World) : Calls Try.prog 101 #[.int .u64 1, .int .u64 3] w fun e w' => e = .returned (.tuple #[.int .u64 0, .int .u64 3]) ∧ w = w' := by
  go_enter Try.func101, Try.ntmps101
  go_wp2
  go_ret2
  exact ⟨rfl, rfl⟩
set_option maxRecDepth 100000 in
set_option maxHeartbeats 4000000 in
theorem mul_3 (w : World) : Calls Try.prog 97 #[.int .u64 1, .int .u64 3] w fun e w' => e = .returned (.tuple #[.int .u64 0, .int .u64 3]) ∧ w = w' := by
  go_enter Try.func97, Try.ntmps97
  go_wp2_with (go_at_call 101; refine (mul64_3 _).mono ?_; rintro e w' ⟨rfl, rfl⟩)
  go_ret2
  exact ⟨rfl, rfl⟩
set_option maxRecDepth 100000 in
set_option maxHeartbeats 8000000 in
theorem rep_3 (b off c x : Nat) (w : World) (hb : b < w.heap.size) (hx : w.cell? ⟨b, off, none⟩ = some (.float .f32 x)) :
    Calls Try.prog 81 #[.slice (some ⟨b, off, none⟩) 1 c, .int .i64 3] w (RetF1 (List.replicate 3 x) w) := by
  obtain ⟨i0, hi, hz0, hz1, hz2⟩ := info_parts infoF
  have hmk := fun W => run_mkL (P := Try.prog) 35 47 i0 _ Try.underlying35 hi hz0 3 (by rw [hz2]; omega) (by omega) (3 : Int) (by omega) W
  rw [hz1, Nat.mul_one] at hmk
  have hsz : (Try.prog.info? 47).map (·.size) = some 1 := by rw [hi]; simp [hz1]
  have hcur : (madeCells (Value.cells (.float .f32 0)) 3) = (fl (List.replicate 3 0)).toArray := by
    show (madeCells #[Value.float .f32 0] 3) = _
    have := toList_madeCells_one (.float .f32 0) 3
    rw [← Array.toArray_toList (xs := madeCells #[Value.float .f32 0] 3), this]; simp [fl]
  rw [hcur] at hmk
  have hcl : ∀ o : Obj, ∀ j u, (fl [x])[j]? = some u → (w.alloc o).cell? ((⟨b, off, none⟩ : Addr).add j) = some u := by
    intro o j u hu
    have hj := (List.getElem?_eq_some_iff.1 hu).1
    obtain rfl : j = 0 := by rw [fl_len] at hj; simp at hj; omega
    rw [Go.WideShapes.add_plain, Nat.add_zero]
    rw [show (fl [x])[0]? = some (.float .f32 x) from rfl] at hu
    rw [← hu]
    exact (((Below.refl _ _).alloc (Nat.le_refl _) _).cell (p := ⟨b, off, none⟩) hb).trans hx
  have HCL := Lib.hid hcl
  clear hcur hcl hx
  go_enter Try.func81, Try.ntmps81
  go_wp2_with (first | (go_at_call 97; refine (mul_3 _).mono ?_; rintro e w' ⟨rfl, rfl⟩) | (with_reducible refine wpList_copy_splice rfl _ _ _ _ rfl 47 Try.underlying35 hsz _ (some ⟨b, off, none⟩) _ _ 1 c rfl rfl w.heap.size 0 (fl (List.replicate 3 0)) 47 (heap_alloc_new w _) (fl [x]) (by rw [fl_len]; simp) (fun _ => ⟨rfl, _, rfl, fun j u hu => HCL.out _ j u hu⟩) (by rw [fl_len, fl_len]; simp) (cellsF [x]) w.heap.size w ((Below.refl _ _).alloc (Nat.le_refl _) _) (Nat.le_refl _) ?_; intro w1 hg1 hb1))
  have h1 : w1.heap[w.heap.size]? = some (.cells (fl (rpK 3 x 1)).toArray 47 (0, 0)) := hg1.out
  have H1 := Lib.hid h1
  have HB1 := Lib.hid hb1
  clear hg1 h1 hb1
  go_loopw [8] (RpR w 3 x) (fun i _ => 3 - (intOf i).toNat)
  case atStart => exact ⟨1, Nat.le_refl _, by omega, rfl, H1.out, HB1.out⟩
  case round =>
    clear H1 HB1
    obtain ⟨k, hk1, hk, rfl, hrow, hbl⟩ := hrel
    by_cases hlt : k < 3
    · have hI : (k : Int) < 3 := by omega
      have HROW := Lib.hid hrow
      have HB := Lib.hid hbl
      clear hrow hbl
      go_wp2_with fail
      refine Sf.wp_softM [true, false, false, false, false, false, false, true, true, true] [true, true, true, true, true, true, true, false, false, false] (fun i =>  1) (fun _ => undef) _ (by kernel_rfl) (by kernel_rfl) (by kernel_rfl) (by kernel_rfl) (by kernel_rfl) (by kernel_rfl) (fun _ _ _ h => h) (.inl ⟨rfl, fun _ => rfl⟩) ?_
      simp only [Act.put, List.setIfInBounds_toArray, List.set_cons_zero, List.set_cons_succ]
      simp only [Sf.tl]
      refine Sf.lx_over ?_
      refine Sf.lx_one rfl rfl (fun K hK => Sf.dft_quiet rfl ?_)
      go_big_quiet_op
      refine hK _ ?_
      clear hK K
      refine Sf.lx_one rfl rfl (fun K hK => Sf.dft_quiet rfl ?_)
      go_big_quiet_op
      refine hK _ ?_
      clear hK K
      refine Sf.lx_one rfl rfl (fun K hK => Sf.dft_quiet rfl ?_)
      go_big_quiet_op
      refine hK _ ?_
      clear hK K
      refine Sf.lx_one rfl rfl (fun K hK => Sf.dft_quiet rfl ?_)
      go_big_quiet_op
      refine hK _ ?_
      clear hK K
      refine Sf.lx_one rfl rfl (fun K hK => Sf.dft_quiet rfl ?_)
      go_big_quiet_op
      refine hK _ ?_
      clear hK K
      refine Sf.lx_one rfl rfl (fun K hK => Sf.dft_quiet rfl ?_)
      go_big_quiet_op
      refine hK _ ?_
      clear hK K
      refine Sf.lx_over ?_
      refine Sf.lx_over ?_
      refine Sf.lx_over ?_
      refine Sf.lx_nil ?_
      rintro _ ⟨nq, rfl⟩
      obtain ⟨m, hm⟩ : ∃ m, m = Nat.min k (3 - k) := ⟨_, rfl⟩
      have hm1 : m ≤ k := by rw [hm]; exact Nat.min_le_left _ _
      have hm2 : k + m ≤ 3 := by have : m ≤ 3 - k := (by rw [hm]; exact Nat.min_le_right _ _); omega
      have hm3 : 1 ≤ m := by rw [hm]; exact Nat.le_min.2 ⟨hk1, by omega⟩
      have HRq := Lib.hid (show (wr.drewN nq).heap[w.heap.size]? = some (.cells (fl (rpK 3 x k)).toArray 47 (0, 0)) from HROW.out)
      have HBq := Lib.hid (below_drawn HB.out nq)
      have HSR := Lib.hid (rp_cell HRq.out hm1)
      have hlm : (fl (List.replicate m x)).length = m := by rw [fl_len, List.length_replicate]
      have HMN := Lib.hid (show (fl (List.replicate m x)).length = Nat.min k (3 - k) by rw [hlm, hm])
      have HFI := Lib.hid (show k + (fl (List.replicate m x)).length ≤ (fl (rpK 3 x k)).length by rw [hlm, fl_len]; simp [rpK]; omega)
      clear hm HROW HB
      go_wp2_with (with_reducible refine wpList_copy_splice rfl _ _ _ _ rfl 47 Try.underlying35 hsz _ (some ⟨w.heap.size, 0, none⟩) _ _ _ _ rfl rfl w.heap.size k (fl (rpK 3 x k)) 47 HRq.out (fl (List.replicate m x)) HMN.out (fun _ => ⟨rfl, _, rfl, HSR.out⟩) HFI.out (cellsF _) w.heap.size w HBq.out (Nat.le_refl _) ?_; intro w2 hg2 hb2)
      have h2 : w2.heap[w.heap.size]? = some (.cells (fl (rpK 3 x (k + m))).toArray 47 (0, 0)) := by rw [← rp_splice 3 x k m hm2]; exact hg2.out
      have H2 := Lib.hid h2
      have HB2 := Lib.hid hb2
      clear hg2 h2 hb2
      go_roundw
      case rel => exact ⟨k + m, by omega, hm2, by first | go_num | (rw [hlm]; go_num) | (congr 1; omega), H2.out, HB2.out⟩
      case measure => simp [intOf]; omega
    · obtain rfl : k = 3 := by omega
      rw [show rpK 3 x 3 = List.replicate 3 x by simp [rpK]] at hrow
      have ho := own_block hrow (Nat.le_refl _) (by simp)
      rw [List.length_replicate] at ho
      have HO := Lib.hid ho
      have HB := Lib.hid hbl
      clear ho hrow hbl
      go_wp2_with fail
      go_ret
      exact ⟨_, rfl, HO.out, HB.out⟩
set_option maxRecDepth 100000 in
set_option maxHeartbeats 4000000 in
theorem mul64_7 (w : World) : Calls Try.prog 101 #[.int .u64 1, .int .u64 7] w fun e w' => e = .returned (.tuple #[.int .u64 0, .int .u64 7]) ∧ w = w' := by
  go_enter Try.func101, Try.ntmps101
  go_wp2
  go_ret2
  exact ⟨rfl, rfl⟩
set_option maxRecDepth 100000 in
set_option maxHeartbeats 4000000 in
theorem mul_7 (w : World) : Calls Try.prog 97 #[.int .u64 1, .int .u64 7] w fun e w' => e = .returned (.tuple #[.int .u64 0, .int .u64 7]) ∧ w = w' := by
  go_enter Try.func97, Try.ntmps97
  go_wp2_with (go_at_call 101; refine (mul64_7 _).mono ?_; rintro e w' ⟨rfl, rfl⟩)
  go_ret2
  exact ⟨rfl, rfl⟩
set_option maxRecDepth 100000 in
set_option maxHeartbeats 8000000 in
theorem rep_7 (b off c x : Nat) (w : World) (hb : b < w.heap.size) (hx : w.cell? ⟨b, off, none⟩ = some (.float .f32 x)) :
    Calls Try.prog 81 #[.slice (some ⟨b, off, none⟩) 1 c, .int .i64 7] w (RetF1 (List.replicate 7 x) w) := by
  obtain ⟨i0, hi, hz0, hz1, hz2⟩ := info_parts infoF
  have hmk := fun W => run_mkL (P := Try.prog) 35 47 i0 _ Try.underlying35 hi hz0 7 (by rw [hz2]; omega) (by omega) (7 : Int) (by omega) W
  rw [hz1, Nat.mul_one] at hmk
  have hsz : (Try.prog.info? 47).map (·.size) = some 1 := by rw [hi]; simp [hz1]
  have hcur : (madeCells (Value.cells (.float .f32 0)) 7) = (fl (List.replicate 7 0)).toArray := by
    show (madeCells #[Value.float .f32 0] 7) = _
    have := toList_madeCells_one (.float .f32 0) 7
    rw [← Array.toArray_toList (xs := madeCells #[Value.float .f32 0] 7), this]; simp [fl]
  rw [hcur] at hmk
  have hcl : ∀ o : Obj, ∀ j u, (fl [x])[j]? = some u → (w.alloc o).cell? ((⟨b, off, none⟩ : Addr).add j) = some u := by
    intro o j u hu
    have hj := (List.getElem?_eq_some_iff.1 hu).1
    obtain rfl : j = 0 := by rw [fl_len] at hj; simp at hj; omega
    rw [Go.WideShapes.add_plain, Nat.add_zero]
    rw [show (fl [x])[0]? = some (.float .f32 x) from rfl] at hu
    rw [← hu]
    exact (((Below.refl _ _).alloc (Nat.le_refl _) _).cell (p := ⟨b, off, none⟩) hb).trans hx
  have HCL := Lib.hid hcl
  clear hcur hcl hx
  go_enter Try.func81, Try.ntmps81
  go_wp2_with (first | (go_at_call 97; refine (mul_7 _).mono ?_; rintro e w' ⟨rfl, rfl⟩) | (with_reducible refine wpList_copy_splice rfl _ _ _ _ rfl 47 Try.underlying35 hsz _ (some ⟨b, off, none⟩) _ _ 1 c rfl rfl w.heap.size 0 (fl (List.replicate 7 0)) 47 (heap_alloc_new w _) (fl [x]) (by rw [fl_len]; simp) (fun _ => ⟨rfl, _, rfl, fun j u hu => HCL.out _ j u hu⟩) (by rw [fl_len, fl_len]; simp) (cellsF [x]) w.heap.size w ((Below.refl _ _).alloc (Nat.le_refl _) _) (Nat.le_refl _) ?_; intro w1 hg1 hb1))
  have h1 : w1.heap[w.heap.size]? = some (.cells (fl (rpK 7 x 1)).toArray 47 (0, 0)) := hg1.out
  have H1 := Lib.hid h1
  have HB1 := Lib.hid hb1
  clear hg1 h1 hb1
  go_loopw [8] (RpR w 7 x) (fun i _ => 7 - (intOf i).toNat)
  case atStart => exact ⟨1, Nat.le_refl _, by omega, rfl, H1.out, HB1.out⟩
  case round =>
    clear H1 HB1
    obtain ⟨k, hk1, hk, rfl, hrow, hbl⟩ := hrel
    by_cases hlt : k < 7
    · have hI : (k : Int) < 7 := by omega
      have HROW := Lib.hid hrow
      have HB := Lib.hid hbl
      clear hrow hbl
      go_wp2_with fail
      refine Sf.wp_softM [true, false, false, false, false, false, false, true, true, true] [true, true, true, true, true, true, true, false, false, false] (fun i =>  1) (fun _ => undef) _ (by kernel_rfl) (by kernel_rfl) (by kernel_rfl) (by kernel_rfl) (by kernel_rfl) (by kernel_rfl) (fun _ _ _ h => h) (.inl ⟨rfl, fun _ => rfl⟩) ?_
      simp only [Act.put, List.setIfInBounds_toArray, List.set_cons_zero, List.set_cons_succ]
      simp only [Sf.tl]
      refine Sf.lx_over ?_
      refine Sf.lx_one rfl rfl (fun K hK => Sf.dft_quiet rfl ?_)
      go_big_quiet_op
      refine hK _ ?_
      clear hK K
      refine Sf.lx_one rfl rfl (fun K hK => Sf.dft_quiet rfl ?_)
      go_big_quiet_op
      refine hK _ ?_
      clear hK K
      refine Sf.lx_one rfl rfl (fun K hK => Sf.dft_quiet rfl ?_)
      go_big_quiet_op
      refine hK _ ?_
      clear hK K
      refine Sf.lx_one rfl rfl (fun K hK => Sf.dft_quiet rfl ?_)
      go_big_quiet_op
      refine hK _ ?_
      clear hK K
      refine Sf.lx_one rfl rfl (fun K hK => Sf.dft_quiet rfl ?_)
      go_big_quiet_op
      refine hK _ ?_
      clear hK K
      refine Sf.lx_one rfl rfl (fun K hK => Sf.dft_quiet rfl ?_)
      go_big_quiet_op
      refine hK _ ?_
      clear hK K
      refine Sf.lx_over ?_
      refine Sf.lx_over ?_
      refine Sf.lx_over ?_
      refine Sf.lx_nil ?_
      rintro _ ⟨nq, rfl⟩
      obtain ⟨m, hm⟩ : ∃ m, m = Nat.min k (7 - k) := ⟨_, rfl⟩
      have hm1 : m ≤ k := by rw [hm]; exact Nat.min_le_left _ _
      have hm2 : k + m ≤ 7 := by have : m ≤ 7 - k := (by rw [hm]; exact Nat.min_le_right _ _); omega
      have hm3 : 1 ≤ m := by rw [hm]; exact Nat.le_min.2 ⟨hk1, by omega⟩
      have HRq := Lib.hid (show (wr.drewN nq).heap[w.heap.size]? = some (.cells (fl (rpK 7 x k)).toArray 47 (0, 0)) from HROW.out)
      have HBq := Lib.hid (below_drawn HB.out nq)
      have HSR := Lib.hid (rp_cell HRq.out hm1)
      have hlm : (fl (List.replicate m x)).length = m := by rw [fl_len, List.length_replicate]
      have HMN := Lib.hid (show (fl (List.replicate m x)).length = Nat.min k (7 - k) by rw [hlm, hm])
      have HFI := Lib.hid (show k + (fl (List.replicate m x)).length ≤ (fl (rpK 7 x k)).length by rw [hlm, fl_len]; simp [rpK]; omega)
      clear hm HROW HB
      go_wp2_with (with_reducible refine wpList_copy_splice rfl _ _ _ _ rfl 47 Try.underlying35 hsz _ (some ⟨w.heap.size, 0, none⟩) _ _ _ _ rfl rfl w.heap.size k (fl (rpK 7 x k)) 47 HRq.out (fl (List.replicate m x)) HMN.out (fun _ => ⟨rfl, _, rfl, HSR.out⟩) HFI.out (cellsF _) w.heap.size w HBq.out (Nat.le_refl _) ?_; intro w2 hg2 hb2)
      have h2 : w2.heap[w.heap.size]? = some (.cells (fl (rpK 7 x (k + m))).toArray 47 (0, 0)) := by rw [← rp_splice 7 x k m hm2]; exact hg2.out
      have H2 := Lib.hid h2
      have HB2 := Lib.hid hb2
      clear hg2 h2 hb2
      go_roundw
      case rel => exact ⟨k + m, by omega, hm2, by first | go_num | (rw [hlm]; go_num) | (congr 1; omega), H2.out, HB2.out⟩
      case measure => simp [intOf]; omega
    · obtain rfl : k = 7 := by omega
      rw [show rpK 7 x 7 = List.replicate 7 x by simp [rpK]] at hrow
      have ho := own_block hrow (Nat.le_refl _) (by simp)
      rw [List.length_replicate] at ho
      have HO := Lib.hid ho
      have HB := Lib.hid hbl
      clear ho hrow hbl
      go_wp2_with fail
      go_ret
      exact ⟨_, rfl, HO.out, HB.out⟩
set_option maxRecDepth 100000 in
set_option maxHeartbeats 4000000 in
theorem mul64_15 (w : World) : Calls Try.prog 101 #[.int .u64 1, .int .u64 15] w fun e w' => e = .returned (.tuple #[.int .u64 0, .int .u64 15]) ∧ w = w' := by
  go_enter Try.func101, Try.ntmps101
  go_wp2
  go_ret2
  exact ⟨rfl, rfl⟩
set_option maxRecDepth 100000 in
set_option maxHeartbeats 4000000 in
theorem mul_15 (w : World) : Calls Try.prog 97 #[.int .u64 1, .int .u64 15] w fun e w' => e = .returned (.tuple #[.int .u64 0, .int .u64 15]) ∧ w = w' := by
  go_enter Try.func97, Try.ntmps97
  go_wp2_with (go_at_call 101; refine (mul64_15 _).mono ?_; rintro e w' ⟨rfl, rfl⟩)
  go_ret2
  exact ⟨rfl, rfl⟩
set_option maxRecDepth 100000 in
set_option maxHeartbeats 8000000 in
theorem rep_15 (b off c x : Nat) (w : World) (hb : b < w.heap.size) (hx : w.cell? ⟨b, off, none⟩ = some (.float .f32 x)) :
    Calls Try.prog 81 #[.slice (some ⟨b, off, none⟩) 1 c, .int .i64 15] w (RetF1 (List.replicate 15 x) w) := by
  obtain ⟨i0, hi, hz0, hz1, hz2⟩ := info_parts infoF
  have hmk := fun W => run_mkL (P := Try.prog) 35 47 i0 _ Try.underlying35 hi hz0 15 (by rw [hz2]; omega) (by omega) (15 : Int) (by omega) W
  rw [hz1, Nat.mul_one] at hmk
  have hsz : (Try.prog.info? 47).map (·.size) = some 1 := by rw [hi]; simp [hz1]
  have hcur : (madeCells (Value.cells (.float .f32 0)) 15) = (fl (List.replicate 15 0)).toArray := by
    show (madeCells #[Value.float .f32 0] 15) = _
    have := toList_madeCells_one (.float .f32 0) 15
    rw [← Array.toArray_toList (xs := madeCells #[Value.float .f32 0] 15), this]; simp [fl]
  rw [hcur] at hmk
  have hcl : ∀ o : Obj, ∀ j u, (fl [x])[j]? = some u → (w.alloc o).cell? ((⟨b, off, none⟩ : Addr).add j) = some u := by
    intro o j u hu
    have hj := (List.getElem?_eq_some_iff.1 hu).1
    obtain rfl : j = 0 := by rw [fl_len] at hj; simp at hj; omega
    rw [Go.WideShapes.add_plain, Nat.add_zero]
    rw [show (fl [x])[0]? = some (.float .f32 x) from rfl] at hu
    rw [← hu]
    exact (((Below.refl _ _).alloc (Nat.le_refl _) _).cell (p := ⟨b, off, none⟩) hb).trans hx
  have HCL := Lib.hid hcl
  clear hcur hcl hx
  go_enter Try.func81, Try.ntmps81
  go_wp2_with (first | (go_at_call 97; refine (mul_15 _).mono ?_; rintro e w' ⟨rfl, rfl⟩) | (with_reducible refine wpList_copy_splice rfl _ _ _ _ rfl 47 Try.underlying35 hsz _ (some ⟨b, off, none⟩) _ _ 1 c rfl rfl w.heap.size 0 (fl (List.replicate 15 0)) 47 (heap_alloc_new w _) (fl [x]) (by rw [fl_len]; simp) (fun _ => ⟨rfl, _, rfl, fun j u hu => HCL.out _ j u hu⟩) (by rw [fl_len, fl_len]; simp) (cellsF [x]) w.heap.size w ((Below.refl _ _).alloc (Nat.le_refl _) _) (Nat.le_refl _) ?_; intro w1 hg1 hb1))
  have h1 : w1.heap[w.heap.size]? = some (.cells (fl (rpK 15 x 1)).toArray 47 (0, 0)) := hg1.out
  have H1 := Lib.hid h1
  have HB1 := Lib.hid hb1
  clear hg1 h1 hb1
  go_loopw [8] (RpR w 15 x) (fun i _ => 15 - (intOf i).toNat)
  case atStart => exact ⟨1, Nat.le_refl _, by omega, rfl, H1.out, HB1.out⟩
  case round =>
    clear H1 HB1
    obtain ⟨k, hk1, hk, rfl, hrow, hbl⟩ := hrel
    by_cases hlt : k < 15
    · have hI : (k : Int) < 15 := by omega
      have HROW := Lib.hid hrow
      have HB := Lib.hid hbl
      clear hrow hbl
      go_wp2_with fail
      refine Sf.wp_softM [true, false, false, false, false, false, false, true, true, true] [true, true, true, true, true, true, true, false, false, false] (fun i =>  1) (fun _ => undef) _ (by kernel_rfl) (by kernel_rfl) (by kernel_rfl) (by kernel_rfl) (by kernel_rfl) (by kernel_rfl) (fun _ _ _ h => h) (.inl ⟨rfl, fun _ => rfl⟩) ?_
      simp only [Act.put, List.setIfInBounds_toArray, List.set_cons_zero, List.set_cons_succ]
      simp only [Sf.tl]
      refine Sf.lx_over ?_
      refine Sf.lx_one rfl rfl (fun K hK => Sf.dft_quiet rfl ?_)
      go_big_quiet_op
      refine hK _ ?_
      clear hK K
      refine Sf.lx_one rfl rfl (fun K hK => Sf.dft_quiet rfl ?_)
      go_big_quiet_op
      refine hK _ ?_
      clear hK K
      refine Sf.lx_one rfl rfl (fun K hK => Sf.dft_quiet rfl ?_)
      go_big_quiet_op
      refine hK _ ?_
      clear hK K
      refine Sf.lx_one rfl rfl (fun K hK => Sf.dft_quiet rfl ?_)
      go_big_quiet_op
      refine hK _ ?_
      clear hK K
      refine Sf.lx_one rfl rfl (fun K hK => Sf.dft_quiet rfl ?_)
      go_big_quiet_op
      refine hK _ ?_
      clear hK K
      refine Sf.lx_one rfl rfl (fun K hK => Sf.dft_quiet rfl ?_)
      go_big_quiet_op
      refine hK _ ?_
      clear hK K
      refine Sf.lx_over ?_
      refine Sf.lx_over ?_
      refine Sf.lx_over ?_
      refine Sf.lx_nil ?_
      rintro _ ⟨nq, rfl⟩
      obtain ⟨m, hm⟩ : ∃ m, m = Nat.min k (15 - k) := ⟨_, rfl⟩
      have hm1 : m ≤ k := by rw [hm]; exact Nat.min_le_left _ _
      have hm2 : k + m ≤ 15 := by have : m ≤ 15 - k := (by rw [hm]; exact Nat.min_le_right _ _); omega
      have hm3 : 1 ≤ m := by rw [hm]; exact Nat.le_min.2 ⟨hk1, by omega⟩
      have HRq := Lib.hid (show (wr.drewN nq).heap[w.heap.size]? = some (.cells (fl (rpK 15 x k)).toArray 47 (0, 0)) from HROW.out)
      have HBq := Lib.hid (below_drawn HB.out nq)
      have HSR := Lib.hid (rp_cell HRq.out hm1)
      have hlm : (fl (List.replicate m x)).length = m := by rw [fl_len, List.length_replicate]
      have HMN := Lib.hid (show (fl (List.replicate m x)).length = Nat.min k (15 - k) by rw [hlm, hm])
      have HFI := Lib.hid (show k + (fl (List.replicate m x)).length ≤ (fl (rpK 15 x k)).length by rw [hlm, fl_len]; simp [rpK]; omega)
      clear hm HROW HB
      go_wp2_with (with_reducible refine wpList_copy_splice rfl _ _ _ _ rfl 47 Try.underlying35 hsz _ (some ⟨w.heap.size, 0, none⟩) _ _ _ _ rfl rfl w.heap.size k (fl (rpK 15 x k)) 47 HRq.out (fl (List.replicate m x)) HMN.out (fun _ => ⟨rfl, _, rfl, HSR.out⟩) HFI.out (cellsF _) w.heap.size w HBq.out (Nat.le_refl _) ?_; intro w2 hg2 hb2)
      have h2 : w2.heap[w.heap.size]? = some (.cells (fl (rpK 15 x (k + m))).toArray 47 (0, 0)) := by rw [← rp_splice 15 x k m hm2]; exact hg2.out
      have H2 := Lib.hid h2
      have HB2 := Lib.hid hb2
      clear hg2 h2 hb2
      go_roundw
      case rel => exact ⟨k + m, by omega, hm2, by first | go_num | (rw [hlm]; go_num) | (congr 1; omega), H2.out, HB2.out⟩
      case measure => simp [intOf]; omega
    · obtain rfl : k = 15 := by omega
      rw [show rpK 15 x 15 = List.replicate 15 x by simp [rpK]] at hrow
      have ho := own_block hrow (Nat.le_refl _) (by simp)
      rw [List.length_replicate] at ho
      have HO := Lib.hid ho
      have HB := Lib.hid hbl
      clear ho hrow hbl
      go_wp2_with fail
      go_ret
      exact ⟨_, rfl, HO.out, HB.out⟩
set_option maxRecDepth 100000 in
set_option maxHeartbeats 4000000 in
theorem mul64_31 (w : World) : Calls Try.prog 101 #[.int .u64 1, .int .u64 31] w fun e w' => e = .returned (.tuple #[.int .u64 0, .int .u64 31]) ∧ w = w' := by
  go_enter Try.func101, Try.ntmps101
  go_wp2
  go_ret2
  exact ⟨rfl, rfl⟩
set_option maxRecDepth 100000 in
set_option maxHeartbeats 4000000 in
theorem mul_31 (w : World) : Calls Try.prog 97 #[.int .u64 1, .int .u64 31] w fun e w' => e = .returned (.tuple #[.int .u64 0, .int .u64 31]) ∧ w = w' := by
  go_enter Try.func97, Try.ntmps97
  go_wp2_with (go_at_call 101; refine (mul64_31 _).mono ?_; rintro e w' ⟨rfl, rfl⟩)
  go_ret2
  exact ⟨rfl, rfl⟩
set_option maxRecDepth 100000 in
set_option maxHeartbeats 8000000 in
theorem rep_31 (b off c x : Nat) (w : World) (hb : b < w.heap.size) (hx : w.cell? ⟨b, off, none⟩ = some (.float .f32 x)) :
    Calls Try.prog 81 #[.slice (some ⟨b, off, none⟩) 1 c, .int .i64 31] w (RetF1 (List.replicate 31 x) w) := by
  obtain ⟨i0, hi, hz0, hz1, hz2⟩ := info_parts infoF
  have hmk := fun W => run_mkL (P := Try.prog) 35 47 i0 _ Try.underlying35 hi hz0 31 (by rw [hz2]; omega) (by omega) (31 : Int) (by omega) W
  rw [hz1, Nat.mul_one] at hmk
  have hsz : (Try.prog.info? 47).map (·.size) = some 1 := by rw [hi]; simp [hz1]
  have hcur : (madeCells (Value.cells (.float .f32 0)) 31) = (fl (List.replicate 31 0)).toArray := by
    show (madeCells #[Value.float .f32 0] 31) = _
    have := toList_madeCells_one (.float .f32 0) 31
    rw [← Array.toArray_toList (xs := madeCells #[Value.float .f32 0] 31), this]; simp [fl]
  rw [hcur] at hmk
  have hcl : ∀ o : Obj, ∀ j u, (fl [x])[j]? = some u → (w.alloc o).cell? ((⟨b, off, none⟩ : Addr).add j) = some u := by
    intro o j u hu
    have hj := (List.getElem?_eq_some_iff.1 hu).1
    obtain rfl : j = 0 := by rw [fl_len] at hj; simp at hj; omega
    rw [Go.WideShapes.add_plain, Nat.add_zero]
    rw [show (fl [x])[0]? = some (.float .f32 x) from rfl] at hu
    rw [← hu]
    exact (((Below.refl _ _).alloc (Nat.le_refl _) _).cell (p := ⟨b, off, none⟩) hb).trans hx
  have HCL := Lib.hid hcl
  clear hcur hcl hx
  go_enter Try.func81, Try.ntmps81
  go_wp2_with (first | (go_at_call 97; refine (mul_31 _).mono ?_; rintro e w' ⟨rfl, rfl⟩) | (with_reducible refine wpList_copy_splice rfl _ _ _ _ rfl 47 Try.underlying35 hsz _ (some ⟨b, off, none⟩) _ _ 1 c rfl rfl w.heap.size 0 (fl (List.replicate 31 0)) 47 (heap_alloc_new w _) (fl [x]) (by rw [fl_len]; simp) (fun _ => ⟨rfl, _, rfl, fun j u hu => HCL.out _ j u hu⟩) (by rw [fl_len, fl_len]; simp) (cellsF [x]) w.heap.size w ((Below.refl _ _).alloc (Nat.le_refl _) _) (Nat.le_refl _) ?_; intro w1 hg1 hb1))
  have h1 : w1.heap[w.heap.size]? = some (.cells (fl (rpK 31 x 1)).toArray 47 (0, 0)) := hg1.out
  have H1 := Lib.hid h1
  have HB1 := Lib.hid hb1
  clear hg1 h1 hb1
  go_loopw [8] (RpR w 31 x) (fun i _ => 31 - (intOf i).toNat)
  case atStart => exact ⟨1, Nat.le_refl _, by omega, rfl, H1.out, HB1.out⟩
  case round =>
    clear H1 HB1
    obtain ⟨k, hk1, hk, rfl, hrow, hbl⟩ := hrel
    by_cases hlt : k < 31
    · have hI : (k : Int) < 31 := by omega
      have HROW := Lib.hid hrow
      have HB := Lib.hid hbl
      clear hrow hbl
      go_wp2_with fail
      refine Sf.wp_softM [true, false, false, false, false, false, false, true, true, true] [true, true, true, true, true, true, true, false, false, false] (fun i =>  1) (fun _ => undef) _ (by kernel_rfl) (by kernel_rfl) (by kernel_rfl) (by kernel_rfl) (by kernel_rfl) (by kernel_rfl) (fun _ _ _ h => h) (.inl ⟨rfl, fun _ => rfl⟩) ?_
      simp only [Act.put, List.setIfInBounds_toArray, List.set_cons_zero, List.set_cons_succ]
      simp only [Sf.tl]
      refine Sf.lx_over ?_
      refine Sf.lx_one rfl rfl (fun K hK => Sf.dft_quiet rfl ?_)
      go_big_quiet_op
      refine hK _ ?_
      clear hK K
      refine Sf.lx_one rfl rfl (fun K hK => Sf.dft_quiet rfl ?_)
      go_big_quiet_op
      refine hK _ ?_
      clear hK K
      refine Sf.lx_one rfl rfl (fun K hK => Sf.dft_quiet rfl ?_)
      go_big_quiet_op
      refine hK _ ?_
      clear hK K
      refine Sf.lx_one rfl rfl (fun K hK => Sf.dft_quiet rfl ?_)
      go_big_quiet_op
      refine hK _ ?_
      clear hK K
      refine Sf.lx_one rfl rfl (fun K hK => Sf.dft_quiet rfl ?_)
      go_big_quiet_op
      refine hK _ ?_
      clear hK K
      refine Sf.lx_one rfl rfl (fun K hK => Sf.dft_quiet rfl ?_)
      go_big_quiet_op
      refine hK _ ?_
      clear hK K
      refine Sf.lx_over ?_
      refine Sf.lx_over ?_
      refine Sf.lx_over ?_
      refine Sf.lx_nil ?_
      rintro _ ⟨nq, rfl⟩
      obtain ⟨m, hm⟩ : ∃ m, m = Nat.min k (31 - k) := ⟨_, rfl⟩
      have hm1 : m ≤ k := by rw [hm]; exact Nat.min_le_left _ _
      have hm2 : k + m ≤ 31 := by have : m ≤ 31 - k := (by rw [hm]; exact Nat.min_le_right _ _); omega
      have hm3 : 1 ≤ m := by rw [hm]; exact Nat.le_min.2 ⟨hk1, by omega⟩
      have HRq := Lib.hid (show (wr.drewN nq).heap[w.heap.size]? = some (.cells (fl (rpK 31 x k)).toArray 47 (0, 0)) from HROW.out)
      have HBq := Lib.hid (below_drawn HB.out nq)
      have HSR := Lib.hid (rp_cell HRq.out hm1)
      have hlm : (fl (List.replicate m x)).length = m := by rw [fl_len, List.length_replicate]
      have HMN := Lib.hid (show (fl (List.replicate m x)).length = Nat.min k (31 - k) by rw [hlm, hm])
      have HFI := Lib.hid (show k + (fl (List.replicate m x)).length ≤ (fl (rpK 31 x k)).length by rw [hlm, fl_len]; simp [rpK]; omega)
      clear hm HROW HB
      go_wp2_with (with_reducible refine wpList_copy_splice rfl _ _ _ _ rfl 47 Try.underlying35 hsz _ (some ⟨w.heap.size, 0, none⟩) _ _ _ _ rfl rfl w.heap.size k (fl (rpK 31 x k)) 47 HRq.out (fl (List.replicate m x)) HMN.out (fun _ => ⟨rfl, _, rfl, HSR.out⟩) HFI.out (cellsF _) w.heap.size w HBq.out (Nat.le_refl _) ?_; intro w2 hg2 hb2)
      have h2 : w2.heap[w.heap.size]? = some (.cells (fl (rpK 31 x (k + m))).toArray 47 (0, 0)) := by rw [← rp_splice 31 x k m hm2]; exact hg2.out
      have H2 := Lib.hid h2
      have HB2 := Lib.hid hb2
      clear hg2 h2 hb2
      go_roundw
      case rel => exact ⟨k + m, by omega, hm2, by first | go_num | (rw [hlm]; go_num) | (congr 1; omega), H2.out, HB2.out⟩
      case measure => simp [intOf]; omega
    · obtain rfl : k = 31 := by omega
      rw [show rpK 31 x 31 = List.replicate 31 x by simp [rpK]] at hrow
      have ho := own_block hrow (Nat.le_refl _) (by simp)
      rw [List.length_replicate] at ho
      have HO := Lib.hid ho
      have HB := Lib.hid hbl
      clear ho hrow hbl
      go_wp2_with fail
      go_ret
      exact ⟨_, rfl, HO.out, HB.out⟩
set_option maxRecDepth 100000 in
set_option maxHeartbeats 4000000 in
theorem mul64_63 (w : World) : Calls Try.prog 101 #[.int .u64 1, .int .u64 63] w fun e w' => e = .returned (.tuple #[.int .u64 0, .int .u64 63]) ∧ w = w' := by
  go_enter Try.func101, Try.ntmps101
  go_wp2
  go_ret2
  exact ⟨rfl, rfl⟩
set_option maxRecDepth 100000 in
set_option maxHeartbeats 4000000 in
theorem mul_63 (w : World) : Calls Try.prog 97 #[.int .u64 1, .int .u64 63] w fun e w' => e = .returned (.tuple #[.int .u64 0, .int .u64 63]) ∧ w = w' := by
  go_enter Try.func97, Try.ntmps97
  go_wp2_with (go_at_call 101; refine (mul64_63 _).mono ?_; rintro e w' ⟨rfl, rfl⟩)
  go_ret2
  exact ⟨rfl, rfl⟩
set_option maxRecDepth 100000 in
set_option maxHeartbeats 8000000 in
theorem rep_63 (b off c x : Nat) (w : World) (hb : b < w.heap.size) (hx : w.cell? ⟨b, off, none⟩ = some (.float .f32 x)) :
    Calls Try.prog 81 #[.slice (some ⟨b, off, none⟩) 1 c, .int .i64 63] w (RetF1 (List.replicate 63 x) w) := by
  obtain ⟨i0, hi, hz0, hz1, hz2⟩ := info_parts infoF
  have hmk := fun W => run_mkL (P := Try.prog) 35 47 i0 _ Try.underlying35 hi hz0 63 (by rw [hz2]; omega) (by omega) (63 : Int) (by omega) W
  rw [hz1, Nat.mul_one] at hmk
  have hsz : (Try.prog.info? 47).map (·.size) = some 1 := by rw [hi]; simp [hz1]
  have hcur : (madeCells (Value.cells (.float .f32 0)) 63) = (fl (List.replicate 63 0)).toArray := by
    show (madeCells #[Value.float .f32 0] 63) = _
    have := toList_madeCells_one (.float .f32 0) 63
    rw [← Array.toArray_toList (xs := madeCells #[Value.float .f32 0] 63), this]; simp [fl]
  rw [hcur] at hmk
  have hcl : ∀ o : Obj, ∀ j u, (fl [x])[j]? = some u → (w.alloc o).cell? ((⟨b, off, none⟩ : Addr).add j) = some u := by
    intro o j u hu
    have hj := (List.getElem?_eq_some_iff.1 hu).1
    obtain rfl : j = 0 := by rw [fl_len] at hj; simp at hj; omega
    rw [Go.WideShapes.add_plain, Nat.add_zero]
    rw [show (fl [x])[0]? = some (.float .f32 x) from rfl] at hu
    rw [← hu]
    exact (((Below.refl _ _).alloc (Nat.le_refl _) _).cell (p := ⟨b, off, none⟩) hb).trans hx
  have HCL := Lib.hid hcl
  clear hcur hcl hx
  go_enter Try.func81, Try.ntmps81
  go_wp2_with (first | (go_at_call 97; refine (mul_63 _).mono ?_; rintro e w' ⟨rfl, rfl⟩) | (with_reducible refine wpList_copy_splice rfl _ _ _ _ rfl 47 Try.underlying35 hsz _ (some ⟨b, off, none⟩) _ _ 1 c rfl rfl w.heap.size 0 (fl (List.replicate 63 0)) 47 (heap_alloc_new w _) (fl [x]) (by rw [fl_len]; simp) (fun _ => ⟨rfl, _, rfl, fun j u hu => HCL.out _ j u hu⟩) (by rw [fl_len, fl_len]; simp) (cellsF [x]) w.heap.size w ((Below.refl _ _).alloc (Nat.le_refl _) _) (Nat.le_refl _) ?_; intro w1 hg1 hb1))
  have h1 : w1.heap[w.heap.size]? = some (.cells (fl (rpK 63 x 1)).toArray 47 (0, 0)) := hg1.out
  have H1 := Lib.hid h1
  have HB1 := Lib.hid hb1
  clear hg1 h1 hb1
  go_loopw [8] (RpR w 63 x) (fun i _ => 63 - (intOf i).toNat)
  case atStart => exact ⟨1, Nat.le_refl _, by omega, rfl, H1.out, HB1.out⟩
  case round =>
    clear H1 HB1
    obtain ⟨k, hk1, hk, rfl, hrow, hbl⟩ := hrel
    by_cases hlt : k < 63
    · have hI : (k : Int) < 63 := by omega
      have HROW := Lib.hid hrow
      have HB := Lib.hid hbl
      clear hrow hbl
      go_wp2_with fail
      refine Sf.wp_softM [true, false, false, false, false, false, false, true, true, true] [true, true, true, true, true, true, true, false, false, false] (fun i =>  1) (fun _ => undef) _ (by kernel_rfl) (by kernel_rfl) (by kernel_rfl) (by kernel_rfl) (by kernel_rfl) (by kernel_rfl) (fun _ _ _ h => h) (.inl ⟨rfl, fun _ => rfl⟩) ?_
      simp only [Act.put, List.setIfInBounds_toArray, List.set_cons_zero, List.set_cons_succ]
      simp only [Sf.tl]
      refine Sf.lx_over ?_
      refine Sf.lx_one rfl rfl (fun K hK => Sf.dft_quiet rfl ?_)
      go_big_quiet_op
      refine hK _ ?_
      clear hK K
      refine Sf.lx_one rfl rfl (fun K hK => Sf.dft_quiet rfl ?_)
      go_big_quiet_op
      refine hK _ ?_
      clear hK K
      refine Sf.lx_one rfl rfl (fun K hK => Sf.dft_quiet rfl ?_)
      go_big_quiet_op
      refine hK _ ?_
      clear hK K
      refine Sf.lx_one rfl rfl (fun K hK => Sf.dft_quiet rfl ?_)
      go_big_quiet_op
      refine hK _ ?_
      clear hK K
      refine Sf.lx_one rfl rfl (fun K hK => Sf.dft_quiet rfl ?_)
      go_big_quiet_op
      refine hK _ ?_
      clear hK K
      refine Sf.lx_one rfl rfl (fun K hK => Sf.dft_quiet rfl ?_)
      go_big_quiet_op
      refine hK _ ?_
      clear hK K
      refine Sf.lx_over ?_
      refine Sf.lx_over ?_
      refine Sf.lx_over ?_
      refine Sf.lx_nil ?_
      rintro _ ⟨nq, rfl⟩
      obtain ⟨m, hm⟩ : ∃ m, m = Nat.min k (63 - k) := ⟨_, rfl⟩
      have hm1 : m ≤ k := by rw [hm]; exact Nat.min_le_left _ _
      have hm2 : k + m ≤ 63 := by have : m ≤ 63 - k := (by rw [hm]; exact Nat.min_le_right _ _); omega
      have hm3 : 1 ≤ m := by rw [hm]; exact Nat.le_min.2 ⟨hk1, by omega⟩
      have HRq := Lib.hid (show (wr.drewN nq).heap[w.heap.size]? = some (.cells (fl (rpK 63 x k)).toArray 47 (0, 0)) from HROW.out)
      have HBq := Lib.hid (below_drawn HB.out nq)
      have HSR := Lib.hid (rp_cell HRq.out hm1)
      have hlm : (fl (List.replicate m x)).length = m := by rw [fl_len, List.length_replicate]
      have HMN := Lib.hid (show (fl (List.replicate m x)).length = Nat.min k (63 - k) by rw [hlm, hm])
      have HFI := Lib.hid (show k + (fl (List.replicate m x)).length ≤ (fl (rpK 63 x k)).length by rw [hlm, fl_len]; simp [rpK]; omega)
      clear hm HROW HB
      go_wp2_with (with_reducible refine wpList_copy_splice rfl _ _ _ _ rfl 47 Try.underlying35 hsz _ (some ⟨w.heap.size, 0, none⟩) _ _ _ _ rfl rfl w.heap.size k (fl (rpK 63 x k)) 47 HRq.out (fl (List.replicate m x)) HMN.out (fun _ => ⟨rfl, _, rfl, HSR.out⟩) HFI.out (cellsF _) w.heap.size w HBq.out (Nat.le_refl _) ?_; intro w2 hg2 hb2)
      have h2 : w2.heap[w.heap.size]? = some (.cells (fl (rpK 63 x (k + m))).toArray 47 (0, 0)) := by rw [← rp_splice 63 x k m hm2]; exact hg2.out
      have H2 := Lib.hid h2
      have HB2 := Lib.hid hb2
      clear hg2 h2 hb2
      go_roundw
      case rel => exact ⟨k + m, by omega, hm2, by first | go_num | (rw [hlm]; go_num) | (congr 1; omega), H2.out, HB2.out⟩
      case measure => simp [intOf]; omega
    · obtain rfl : k = 63 := by omega
      rw [show rpK 63 x 63 = List.replicate 63 x by simp [rpK]] at hrow
      have ho := own_block hrow (Nat.le_refl _) (by simp)
      rw [List.length_replicate] at ho
      have HO := Lib.hid ho
      have HB := Lib.hid hbl
      clear ho hrow hbl
      go_wp2_with fail
      go_ret
      exact ⟨_, rfl, HO.out, HB.out⟩
theorem rep_any (b off c x n : Nat) (w : World) (hn : liB n = true) (hb : b < w.heap.size) (hx : w.cell? ⟨b, off, none⟩ = some (.float .f32 x)) :
    Calls Try.prog 81 #[.slice (some ⟨b, off, none⟩) 1 c, .int .i64 (n : Int)] w (RetF1 (List.replicate n x) w) := by
  rcases liB_out hn with rfl | rfl | rfl | rfl | rfl | rfl
  · exact rep_1 b off c x w hb hx
  · exact rep_3 b off c x w hb hx
  · exact rep_7 b off c x w hb hx
  · exact rep_15 b off c x w hb hx
  · exact rep_31 b off c x w hb hx
  · exact rep_63 b off c x w hb hx
end Go.Proofs.Ytfcegkighjnmeaa
