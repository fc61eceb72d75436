/-
  Contracts: lines, their ends, and what two lines and a step must be, of both sides.
-/
import Derived.Test.YtfcegkighjnmeaaGrd
import Derived.Test.YtfcegkighjnmeaaAbs
import Derived.Test.YtfcegkighjnmeaaLst
import Derived.Laws.CopyOwn
namespace Go.Proofs.Ytfcegkighjnmeaa
open Go.RowKit Fl
set_option linter.unusedVariables false

def liB (n : Nat) : Bool := decide (n = 1 ∨ n = 3 ∨ n = 7 ∨ n = 15 ∨ n = 31 ∨ n = 63)
def lnG (xs : List Nat) : Bool := liB xs.length && finA xs
theorem liB_out {n : Nat} (h : liB n = true) : n = 1 ∨ n = 3 ∨ n = 7 ∨ n = 15 ∨ n = 31 ∨ n = 63 := of_decide_eq_true h
theorem liB_bd {n : Nat} (h : liB n = true) : 1 ≤ n ∧ n ≤ 63 := by rcases liB_out h with rfl | rfl | rfl | rfl | rfl | rfl <;> omega
theorem li_and : ∀ n : Fin 64, 1 ≤ n.val → (bits .and .i64 (n.val : Int) ((n.val : Int) + 1) == 0) = liB n.val := by decide
theorem lnG_len {xs : List Nat} (h : lnG xs = true) : liB xs.length = true ∧ finA xs = true := by unfold lnG at h; rwa [Bool.and_eq_true] at h
set_option maxRecDepth 100000 in
set_option maxHeartbeats 2000000 in
theorem islI_any (v : Value) (xs : List Nat) (w : World) (B : Nat) (h : Rd w B v (fl xs)) (hm : xs.length ≤ 1048576) (hx : ∀ x ∈ xs, x < 2 ^ 32) :
    Calls Try.prog 64 #[v] w (RetBo (lnG xs) w) := by
  have HF := finI_any v xs w B h hm hx
  obtain ⟨A, c, hv, _, _, _⟩ := h
  rw [fl_len] at hv
  subst hv
  have HG : lnG xs = (liB xs.length && finA xs) := rfl
  rw [HG]
  clear HG hx
  generalize xs.length = n at *
  by_cases h2 : n < 1
  · have HG := Lib.hid (show liB n = false from decide_eq_false (by omega))
    clear HF
    go_enter Try.func64, Try.ntmps64
    go_wp2_with fail
    go_ret
    rw [HG.out, Bool.false_and]
    exact ⟨rfl, 0, rfl⟩
  by_cases h65 : 63 < n
  · have HG := Lib.hid (show liB n = false from decide_eq_false (by omega))
    clear HF
    have h2' : 1 ≤ n := by omega
    clear h2
    go_enter Try.func64, Try.ntmps64
    go_wp2_with fail
    go_ret
    rw [HG.out, Bool.false_and]
    exact ⟨rfl, 0, rfl⟩
  have h2' : 1 ≤ n := by omega
  have h65' : n ≤ 63 := by omega
  have hand := li_and ⟨n, by omega⟩ h2'
  simp only at hand
  obtain ⟨z, hz⟩ : ∃ z, bits .and .i64 (n : Int) ((n : Int) + 1) = z := ⟨_, rfl⟩
  rw [hz] at hand
  have HF := Lib.hid HF
  clear h2 h65
  cases hg : liB n with
  | false =>
    rw [hg] at hand
    clear HF hg
    go_enter Try.func64, Try.ntmps64
    go_wp2_with fail
    go_ret
    exact ⟨rfl, 0, rfl⟩
  | true =>
    rw [hg] at hand
    clear hg
    cases hf : finA xs
    all_goals
      have HT := Lib.hid hf
      clear hf
      go_enter Try.func64, Try.ntmps64
      go_wp2_with (go_at_call 93; refine HF.out.mono ?_; rintro e w' ⟨rfl, n, rfl⟩; rw [HT.out])
      go_ret
      exact ⟨rfl, _, rfl⟩
set_option maxRecDepth 100000 in
set_option maxHeartbeats 2000000 in
theorem islS_any (v : Value) (xs : List Nat) (w : World) (B : Nat) (h : Rd w B v (fl xs)) (hm : xs.length ≤ 1048576) (hx : ∀ x ∈ xs, x < 2 ^ 32) :
    Calls Try.prog 61 #[v] w (RetBo (lnG xs) w) := by
  have HF := finS_any v xs w B h hm hx
  obtain ⟨A, c, hv, _, _, _⟩ := h
  rw [fl_len] at hv
  subst hv
  have HG : lnG xs = (liB xs.length && finA xs) := rfl
  rw [HG]
  clear HG hx
  generalize xs.length = n at *
  cases hg : liB n with
  | false =>
    have hg' := of_decide_eq_false hg
    have e1 : ((n : Int) == 1) = false := by rw [beq_eq_false_iff_ne]; omega
    have e3 : ((n : Int) == 3) = false := by rw [beq_eq_false_iff_ne]; omega
    have e7 : ((n : Int) == 7) = false := by rw [beq_eq_false_iff_ne]; omega
    have e15 : ((n : Int) == 15) = false := by rw [beq_eq_false_iff_ne]; omega
    have e31 : ((n : Int) == 31) = false := by rw [beq_eq_false_iff_ne]; omega
    have e63 : ((n : Int) == 63) = false := by rw [beq_eq_false_iff_ne]; omega
    clear HF hg hg'
    go_enter Try.func61, Try.ntmps61
    go_wp2_with fail
    go_ret
    exact ⟨rfl, 0, rfl⟩
  | true =>
    have hn := liB_out hg
    clear hg
    cases hf : finA xs
    all_goals
      have HT := Lib.hid hf
      have HF := Lib.hid HF
      clear hf
      rcases hn with rfl | rfl | rfl | rfl | rfl | rfl
    all_goals
      go_enter Try.func61, Try.ntmps61
      go_wp2_with (go_at_call 63; refine HF.out.mono ?_; rintro e w' ⟨rfl, n, rfl⟩; rw [HT.out])
      go_ret
      exact ⟨rfl, _, rfl⟩
/-- A number of a line, 0 at its ends, one place further on. -/
theorem atS_any (A : Option Addr) (n c : Nat) (xs : List Nat) (w : World) (B : Nat) (h : Rd w B (.slice A n c) (fl xs)) (h0 : 1 ≤ n) (hn : n ≤ 1048576) (j : Nat) (hj : j ≤ n + 1) (z : Int) (hz : z = (j : Int) - 1) :
    Calls Try.prog 94 #[.slice A n c, .int .i64 z] w fun e w' => e = .returned (.float .f32 ((0 :: xs).getD j 0)) ∧ w = w' := by
  obtain ⟨b, off, rfl, hb, hc⟩ := h.num (i := 0) (by omega)
  have hl : xs.length = n := by obtain ⟨A', c', hv, _⟩ := h; rw [fl_len] at hv; cases hv; rfl
  clear h
  rcases j with _ | i
  · obtain rfl : z = -1 := by omega
    clear hz hc hl
    go_enter Try.func94, Try.ntmps94
    go_wp2_with fail
    go_ret
    exact ⟨rfl, rfl⟩
  · obtain rfl : z = (i : Int) := by omega
    by_cases hi : i < n
    · have hci := hc i hi
      have e : (0 :: xs).getD (i + 1) 0 = xs.getD i 0 := rfl
      rw [e]
      clear hz hc hl e
      go_enter Try.func94, Try.ntmps94
      go_wp2_with fail
      go_ret
      exact ⟨rfl, rfl⟩
    · have e : (0 :: xs).getD (i + 1) 0 = 0 := getD_ge (xs := xs) (by omega)
      rw [e]
      have hi' : n ≤ i := by omega
      clear hz hc hl e hi
      go_enter Try.func94, Try.ntmps94
      go_wp2_with fail
      go_ret
      exact ⟨rfl, rfl⟩
theorem run_mkL {P : Program} (t e : TypeId) (i : TypeInfo) (z : Value) (ht : P.underlying t = some (.slice e)) (hi : P.info? e = some i) (hz : i.zero = some z)
    (n : Nat) (hbytes : i.bytes * n ≤ 281474976710656) (h63 : n ≤ 9223372036854775807) (m : Int) (hmn : m = (n : Int)) (w : World) :
    (Instr.makeSlice t (.int .i64 m) (.int .i64 m)).run P w = .ok (.slice (some ⟨w.heap.size, 0, none⟩) n n) (w.alloc (.cells (madeCells z.cells (n * i.size)) e)) := by
  subst hmn
  have hb : (i.bytes : Int) * (n : Int) ≤ 281474976710656 := by
    have h : ((i.bytes * n : Nat) : Int) ≤ 281474976710656 := by omega
    rwa [Int.natCast_mul] at h
  have hr := run_make (P := P) w t e i z ht hi hz .i64 .i64 n n (by omega) (by omega) hb (by omega)
  simpa using hr
def exL (xs : List Nat) : List Nat := 0 :: (xs ++ [0])
theorem exL_len (xs : List Nat) : (exL xs).length = xs.length + 2 := by simp [exL]
theorem exL_getD (xs : List Nat) (j : Nat) : (exL xs).getD j 0 = (0 :: xs).getD j 0 := by
  rcases j with _ | i
  · rfl
  · show (xs ++ [0]).getD i 0 = xs.getD i 0
    by_cases hi : i < xs.length
    · simp [List.getD, List.getElem?_append, hi]
    · by_cases he : i = xs.length
      · subst he; simp [List.getD]
      · have h1 : (xs ++ [0])[i]? = none := List.getElem?_eq_none (by simp; omega)
        simp [List.getD, h1, List.getElem?_eq_none (show xs.length ≤ i by omega)]
theorem own_block {w : World} {g lo : Nat} {L : List Nat} {t : TypeId} (h : w.heap[g]? = some (.cells (fl L).toArray t (0, 0))) (hg : lo ≤ g) (hm : L.length ≤ 1048576) : Own w lo (.slice (some ⟨g, 0, none⟩) L.length L.length) (fl L) := by
  refine ⟨_, L.length, by rw [fl_len], by rw [fl_len]; exact Nat.le_refl _, by unfold maxLen; omega, fun _ => ⟨g, 0, rfl, hg, lt_of_block h, fun i x hx => ?_, fun i hi => ?_⟩⟩
  · rw [Nat.zero_add, cell_of_row w g i _ _ _ h]; simpa using hx
  · rw [Nat.zero_add]; exact frozen_of_row w g i _ _ h
/-- Both slices lie in one block. -/
def RetEn (xs : List Nat) (w : World) (e : Ending) (w' : World) : Prop :=
  ∃ g, e = .returned (.tuple #[.slice (some ⟨g, 0, none⟩) (xs.length + 2) (xs.length + 2), .slice (some ⟨g, 1, none⟩) xs.length xs.length]) ∧ w.heap.size ≤ g ∧ Own w' w.heap.size (.slice (some ⟨g, 0, none⟩) (xs.length + 2) (xs.length + 2)) (fl (exL xs)) ∧ Below w.heap.size w w'
set_option maxRecDepth 100000 in
set_option maxHeartbeats 2000000 in
theorem endI_any (A : Option Addr) (n c : Nat) (xs : List Nat) (w : World) (h : Rd w w.heap.size (.slice A n c) (fl xs)) (hn : xs.length = n) (h0 : 1 ≤ n) (hm : n ≤ 63) :
    Calls Try.prog 67 #[.slice A n c] w (RetEn xs w) := by
  obtain ⟨i0, hi, hz0, hz1, hz2⟩ := info_parts infoF
  obtain ⟨b, off, rfl, hb, hc⟩ := h.num (i := 0) (by omega)
  have hmk := fun W => run_mkL (P := Try.prog) 35 47 i0 _ Try.underlying35 hi hz0 (n + 2) (by rw [hz2]; omega) (by omega) ((n : Int) + 2) (by omega) W
  rw [hz1, Nat.mul_one] at hmk
  have hsz : (Try.prog.info? 47).map (·.size) = some 1 := by rw [hi]; simp [hz1]
  have hcur : (madeCells (Value.cells (.float .f32 0)) (n + 2)) = (fl (List.replicate (n + 2) 0)).toArray := by
    show (madeCells #[Value.float .f32 0] (n + 2)) = _
    have := toList_madeCells_one (.float .f32 0) (n + 2)
    rw [← Array.toArray_toList (xs := madeCells #[Value.float .f32 0] (n + 2)), this]; simp [fl]
  rw [hcur] at hmk
  have hxl : (fl xs).length = n := by rw [fl_len]; exact hn
  have hsp : splice (fl (List.replicate (n + 2) 0)) 1 (fl xs) = fl (exL xs) := by
    have e1 : (fl (List.replicate (n + 2) 0)).take 1 = fl [0] := by simp [fl, List.replicate_succ]
    have e2 : (fl (List.replicate (n + 2) 0)).drop (1 + n) = fl [0] := by
      simp only [fl, List.map_replicate, List.drop_replicate, show n + 2 - (1 + n) = 1 by omega]; rfl
    unfold splice
    rw [hxl, e1, e2]
    simp [fl, exL]
  have hcl : ∀ j u, (fl xs)[j]? = some u → ∀ o : Obj, (w.alloc o).cell? ((⟨b, off, none⟩ : Addr).add j) = some u := by
    intro j u hu o
    have hj := (List.getElem?_eq_some_iff.1 hu).1
    rw [fl_len] at hj
    rw [fl_getD xs j hj] at hu
    cases hu
    rw [Go.WideShapes.add_plain]
    exact (((Below.refl _ _).alloc (Nat.le_refl _) _).cell (p := ⟨b, off + j, none⟩) hb).trans (hc j (by omega))
  have HS := Lib.hid hsp
  have HN := Lib.hid hn
  have HXL := Lib.hid hxl
  have HCL := Lib.hid hcl
  clear h hn hc hcur hsp hxl hcl
  go_enter Try.func67, Try.ntmps67
  go_wp2_with (with_reducible refine wpList_copy_splice rfl _ _ _ _ rfl 47 Try.underlying35 hsz _ (some ⟨b, off, none⟩) _ _ n c rfl rfl w.heap.size 1 (fl (List.replicate (n + 2) 0)) 47 (heap_alloc_new w _) (fl xs) (by rw [HXL.out]; simp) (fun _ => ⟨rfl, _, rfl, fun j u hu => HCL.out j u hu _⟩) (by rw [HXL.out, fl_len]; simp; omega) (cellsF xs) w.heap.size w ((Below.refl _ _).alloc (Nat.le_refl _) _) (Nat.le_refl _) ?_; intro w1 hg1 hb1)
  go_ret2
  have h1 := hg1.out
  rw [HS.out] at h1
  have ho := own_block h1 (Nat.le_refl w.heap.size) (by rw [exL_len, HN.out]; omega)
  rw [exL_len] at ho
  refine ⟨w.heap.size, by rw [HN.out]; rfl, Nat.le_refl _, ho, hb1⟩
def prB (us fs : List Nat) (s : Nat) : Bool := lnG us && lnG fs && decide (us.length = fs.length) && psB s
set_option maxRecDepth 100000 in
set_option maxHeartbeats 2000000 in
theorem canI_any (v u : Value) (us fs : List Nat) (s : Nat) (w : World) (B : Nat) (h : Rd w B v (fl us)) (h' : Rd w B u (fl fs)) (hm : us.length ≤ 1048576) (hm' : fs.length ≤ 1048576) (hx : ∀ x ∈ us, x < 2 ^ 32) (hx' : ∀ x ∈ fs, x < 2 ^ 32) (hs : s < 2 ^ 32) :
    Calls Try.prog 95 #[v, u, .float .f32 s] w (RetBo (prB us fs s) w) := by
  have HA := Lib.hid (islI_any v us w _ h hm hx)
  have HB := Lib.hid (fun q => islI_any u fs (w.drewN q) _ (h'.drewN q) hm' hx')
  have HP := Lib.hid (fun w => psI_any s w hs)
  obtain ⟨A, c, hv, _, _, _⟩ := h
  obtain ⟨A', c', hv', _, _, _⟩ := h'
  rw [fl_len] at hv hv'
  subst hv hv'
  have HG : prB us fs s = (lnG us && lnG fs && decide (us.length = fs.length) && psB s) := rfl
  rw [HG]
  clear HG hx hx'
  generalize us.length = n at *
  generalize fs.length = m at *
  generalize hga : lnG us = ga at *
  generalize hgb : lnG fs = gb at *
  generalize hgp : psB s = gp at *
  clear hga hgb hgp
  cases ga <;> cases gb <;> cases gp
  all_goals
    by_cases hnm : n = m
    · subst hnm
      go_enter Try.func95, Try.ntmps95
      go_wp2_with (first | (go_at_call_of 64 A; refine HA.out.mono ?_; rintro e w' ⟨rfl, n1, rfl⟩) | (go_at_call_of 64 A'; refine (HB.out _).mono ?_; rintro e w' ⟨rfl, n2, rfl⟩) | (go_at_call 79; refine (HP.out _).mono ?_; rintro e w' ⟨rfl, n3, rfl⟩))
      go_ret
      exact ⟨by simp, _, by first | rfl | exact World.drewN_drewN _ _ _⟩
    · have hne : ((n : Int) == (m : Int)) = false := by rw [beq_eq_false_iff_ne]; omega
      have HNE := Lib.hid hnm
      clear hnm
      go_enter Try.func95, Try.ntmps95
      go_wp2_with (first | (go_at_call_of 64 A; refine HA.out.mono ?_; rintro e w' ⟨rfl, n1, rfl⟩) | (go_at_call_of 64 A'; refine (HB.out _).mono ?_; rintro e w' ⟨rfl, n2, rfl⟩) | (go_at_call 79; refine (HP.out _).mono ?_; rintro e w' ⟨rfl, n3, rfl⟩))
      go_ret
      exact ⟨by simp [HNE.out], _, by first | rfl | exact World.drewN_drewN _ _ _⟩
set_option maxRecDepth 100000 in
set_option maxHeartbeats 2000000 in
theorem canS_any (v u : Value) (us fs : List Nat) (s : Nat) (w : World) (B : Nat) (h : Rd w B v (fl us)) (h' : Rd w B u (fl fs)) (hm : us.length ≤ 1048576) (hm' : fs.length ≤ 1048576) (hx : ∀ x ∈ us, x < 2 ^ 32) (hx' : ∀ x ∈ fs, x < 2 ^ 32) (hs : s < 2 ^ 32) :
    Calls Try.prog 70 #[v, u, .float .f32 s] w (RetBo (prB us fs s) w) := by
  have HA := Lib.hid (islS_any v us w _ h hm hx)
  have HB := Lib.hid (fun q => islS_any u fs (w.drewN q) _ (h'.drewN q) hm' hx')
  have HP := Lib.hid (fun w => psS_any s w hs)
  obtain ⟨A, c, hv, _, _, _⟩ := h
  obtain ⟨A', c', hv', _, _, _⟩ := h'
  rw [fl_len] at hv hv'
  subst hv hv'
  have HG : prB us fs s = (lnG us && lnG fs && decide (us.length = fs.length) && psB s) := rfl
  rw [HG]
  clear HG hx hx'
  generalize us.length = n at *
  generalize fs.length = m at *
  generalize hga : lnG us = ga at *
  generalize hgb : lnG fs = gb at *
  generalize hgp : psB s = gp at *
  clear hga hgb hgp
  cases ga <;> cases gb <;> cases gp
  all_goals
    by_cases hnm : n = m
    · subst hnm
      go_enter Try.func70, Try.ntmps70
      go_wp2_with (first | (go_at_call_of 61 A; refine HA.out.mono ?_; rintro e w' ⟨rfl, n1, rfl⟩) | (go_at_call_of 61 A'; refine (HB.out _).mono ?_; rintro e w' ⟨rfl, n2, rfl⟩) | (go_at_call 77; refine (HP.out _).mono ?_; rintro e w' ⟨rfl, n3, rfl⟩))
      go_ret
      exact ⟨by simp, _, by first | rfl | exact World.drewN_drewN _ _ _⟩
    · have hne : ((n : Int) == (m : Int)) = false := by rw [beq_eq_false_iff_ne]; omega
      have HNE := Lib.hid hnm
      clear hnm
      go_enter Try.func70, Try.ntmps70
      go_wp2_with (first | (go_at_call_of 61 A; refine HA.out.mono ?_; rintro e w' ⟨rfl, n1, rfl⟩) | (go_at_call_of 61 A'; refine (HB.out _).mono ?_; rintro e w' ⟨rfl, n2, rfl⟩) | (go_at_call 77; refine (HP.out _).mono ?_; rintro e w' ⟨rfl, n3, rfl⟩))
      go_ret
      exact ⟨by simp [HNE.out], _, by first | rfl | exact World.drewN_drewN _ _ _⟩
end Go.Proofs.Ytfcegkighjnmeaa
