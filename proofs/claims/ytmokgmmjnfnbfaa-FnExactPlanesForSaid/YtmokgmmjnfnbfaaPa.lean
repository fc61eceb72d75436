/-
  Planes as arrays.
-/
import Derived.Test.YtmokgmmjnfnbfaaDg
import Derived.Laws.Rows
import Derived.Laws.Tables
namespace Go.Proofs.Ytmokgmmjnfnbfaa
open Go.RowKit Fl
set_option linter.unusedVariables false

def absI (n : Int) : Int := if n < 0 then -n else n
theorem absI_b (n : Int) (h1 : -1000000 ≤ n) (h2 : n ≤ 1000000) : 0 ≤ absI n ∧ absI n ≤ 1000000 := by unfold absI; split <;> omega
theorem szo_any (n : Int) (w : World) (h1 : -1000000 ≤ n) (h2 : n ≤ 1000000) : Calls Try.prog 87 #[.int .i64 n] w fun e w' => e = .returned (.int .i64 (absI n)) ∧ w = w' := by
  have hmx := fun w => run_max_int2 (P := Try.prog) w
  by_cases h : n < 0
  · rw [show absI n = -n by unfold absI; rw [if_pos h]]
    go_enter Try.func87, Try.ntmps87
    go_wp2_with fail
    go_ret
    exact ⟨rfl, rfl⟩
  · rw [show absI n = n by unfold absI; rw [if_neg h]]
    have h' : 0 ≤ n := by omega
    clear h
    go_enter Try.func87, Try.ntmps87
    go_wp2_with fail
    all_goals (go_ret; exact ⟨by first | rfl | (congr 2; omega), rfl⟩)
/-- The digits of a plane, and what the array holds beside them. -/
def plD (xs : List Int) (p : Nat) : List Bool := xs.map (fun x => dig (absI x) p) ++ List.replicate (128 - xs.length) false
theorem plD_len (xs : List Int) (p : Nat) (h : xs.length ≤ 128) : (plD xs p).length = 128 := by simp [plD]; omega
theorem plD_at (xs : List Int) (p j : Nat) (h : j < xs.length) (h2 : j < (plD xs p).length) : (plD xs p)[j] = dig (absI xs[j]) p := by simp [plD, h]
theorem plD_end (xs : List Int) (p : Nat) (h : xs.length ≤ 128) : cpB (plD xs p) xs.length = plD xs p := by
  unfold cpB
  rw [plD_len xs p h]
  unfold plD
  rw [List.take_left' (by simp)]
theorem infoP : (Try.prog.info? 68).map (·.size) = some 128 := by kernel_rfl
theorem zeroP : (Try.zeroCells68).size = 128 := by kernel_rfl
theorem allB (D : List Bool) : ((bl D).toArray).all (·.oneCell') = true := Array.all_eq_true_iff_forall_mem.2 (fun v hv => cellsB D v (by simpa using hv))
theorem bl_size (D : List Bool) : ((bl D).toArray).size = D.length := by simp [bl]
/-- A list of the call's own that fills its block is the block. -/
theorem row_whole {w : World} {base g n : Nat} {e : TypeId} {D : List Bool} (h : w.ownsRow base e 1 (.slice (some ⟨g, 0, none⟩) n n) n (bl D)) : w.heap[g]? = some (.cells (bl D).toArray e (0, 0)) := by
  rcases h.2 with ⟨h0, _⟩ | ⟨g', cap, cur, hv, _, hg, hnc, _, hcs, htake⟩
  · cases h0
  · simp only [Value.slice.injEq, Option.some.injEq, Addr.mk.injEq, and_true, true_and] at hv
    obtain ⟨rfl, rfl⟩ := hv
    rw [List.take_of_length_le (by rw [Array.length_toList, hcs]; exact Nat.le_refl _)] at htake
    rw [hg, ← htake, Array.toArray_toList]
def PaRel (w : World) (xs : List Int) (p g : Nat) (i : Value) (wr : World) : Prop :=
  ∃ k : Nat, k ≤ xs.length ∧ i = .int .i64 k ∧ wr.ownsRow (w.heap.size + 1) 4 1 (.slice (some ⟨g, 0, none⟩) 128 128) 128 (bl (cpB (plD xs p) k)) ∧ Below (w.heap.size + 1) (w.alloc (.cells Try.zeroCells68 68)) wr
set_option maxRecDepth 100000 in
set_option maxHeartbeats 4000000 in
theorem pla_any (v : Value) (xs : List Int) (p : Nat) (w : World) (h : Rd w w.heap.size v (il xs)) (hm : xs.length ≤ 128) (hw : withB 1000000 xs = true) (hp : p ≤ 63) :
    Calls Try.prog 56 #[v, .int .i64 p] w fun e w' => e = .returned (.agg (bl (plD xs p)).toArray) ∧ Below w.heap.size w w' := by
  obtain ⟨i0, hi, hz0, hz1, hz2⟩ := info_parts infoB
  obtain ⟨A, c, hv, hc1, hc2, hcell⟩ := h
  rw [il_len] at hv hc1 hcell
  subst hv
  have hC := Lib.hid hcell
  clear hcell
  go_enter Try.func56, Try.ntmps56
  go_wp2_with (refine wpList_make_full _ rfl _ _ 28 rfl (w.heap.size + 1) 4 i0 (.bool false) 1 Try.underlying28 hi hz0 hz1 .i64 .i64 _ _ 128 rfl rfl rfl rfl (by rw [hz2]; omega) (by unfold maxLen; omega) (by simp) ?_; intro w1 hown hgrow)
  have hb1 : Below (w.heap.size + 1) (w.alloc (.cells Try.zeroCells68 68)) w1 := (Below.refl _ _).grown hgrow (by simp) (fun _ h => by cases h)
  have hg : (w.alloc (.cells Try.zeroCells68 68)).heap.size = w.heap.size + 1 := by simp
  rw [hg] at hown
  have hown1 : w1.ownsRow (w.heap.size + 1) 4 1 (.slice (some ⟨w.heap.size + 1, 0, none⟩) 128 128) 128 (bl (cpB (plD xs p) 0)) := by
    rw [cpB_zero, plD_len xs p hm]
    have e : (madeCells (Value.cells (.bool false)) (128 * 1)).toList = bl (List.replicate 128 false) := by
      rw [Nat.mul_one]
      show (madeCells #[Value.bool false] 128).toList = _
      rw [toList_madeCells_one]; simp [bl]
    rw [← e]; exact hown
  have HW := Lib.hid hw
  have HB0 := Lib.hid ((Below.refl w.heap.size w).alloc (Nat.le_refl _) (.cells Try.zeroCells68 68))
  clear hown hgrow hw hg
  go_loopw [11] (PaRel w xs p (w.heap.size + 1)) (fun i _ => xs.length - (intOf i).toNat)
  case atStart => exact ⟨0, Nat.zero_le _, rfl, hown1, hb1⟩
  case round =>
    clear hown1 hb1
    obtain ⟨k, hk, rfl, hown, hb⟩ := hrel
    by_cases hlt : k < xs.length
    · obtain ⟨b, off, rfl, hbl, hcc⟩ := hC.out (by omega)
      have hsrc : wr.cell? ⟨b, off + k, none⟩ = some (.int .i64 xs[k]) := ((hb.cell (p := ⟨b, off + k, none⟩) (by show b < _; omega)).trans (HB0.out.cell (p := ⟨b, off + k, none⟩) hbl)).trans (hcc k _ (il_get xs k hlt))
      have hk128 : k < 128 := by omega
      have hpl := plD_len xs p hm
      have hlen : (bl (cpB (plD xs p) k)).length = 128 := by rw [hown.1]
      obtain ⟨x0, hdst⟩ : ∃ x0, wr.cell? ⟨w.heap.size + 1, k, none⟩ = some x0 :=
        ⟨(bl (cpB (plD xs p) k))[k]'(by omega), by rw [hown.cellAt k (by omega)]; exact List.getElem?_eq_getElem _⟩
      have hfz : wr.frozen? ⟨w.heap.size + 1, k, none⟩ = false := hown.frozenAt k
      obtain ⟨hst, hgw⟩ := hown.stored k (.bool ((plD xs p)[k]'(by omega)))
      rw [bl_set, cpB_succ (plD xs p) k (by omega)] at hst
      rw [plD_at xs p k hlt (by omega)] at hst
      have hbb : Below (w.heap.size + 1) (w.alloc (.cells Try.zeroCells68 68)) (wr.setCell ⟨w.heap.size + 1, k, none⟩ (.bool (dig (absI xs[k]) p))) := hb.setCell (Nat.le_refl _) _
      obtain ⟨x1, x2⟩ := withB_out HW.out k hlt
      have HSz := Lib.hid (fun w' => szo_any xs[k] w' x1 x2)
      obtain ⟨d1, d2⟩ := absI_b xs[k] x1 x2
      have HDg := Lib.hid (fun w' => digI_any (absI xs[k]) p w' d1 (by omega) hp)
      have HO := Lib.hid hst
      have HB := Lib.hid hbb
      clear hst hbb hgw hcc hown hb hlen hC hpl HW HB0
      generalize dig (absI xs[k]) p = y at *
      generalize absI xs[k] = q at *
      generalize xs[k] = x at *
      go_wp2_with (first | (go_at_call 87; refine (HSz.out _).mono ?_; rintro e w' ⟨rfl, rfl⟩) | (go_at_call 95; refine (HDg.out _).mono ?_; rintro e w' ⟨rfl, rfl⟩))
      go_roundw
      case rel => exact ⟨k + 1, by omega, by go_num, HO.out, HB.out⟩
      case measure => simp [intOf]; omega
    · obtain rfl : k = xs.length := by omega
      rw [plD_end xs p hm] at hown
      have har := fun w' => run_arrayAt (P := Try.prog) w' 68 4 128 (some ⟨w.heap.size + 1, 0, none⟩) 128 128 Try.underlying68 (Nat.le_refl _)
      have hD := plD_len xs p hm
      have hgc := row_whole hown
      have hgz : wr.heap[w.heap.size]? = some (.cells Try.zeroCells68 68 (0, 0)) := (hb.block w.heap.size (by omega)).trans (heap_alloc_new w _)
      have hbw : Below w.heap.size w wr := HB0.out.trans (hb.mono (by omega))
      clear hown hb hlt hk
      obtain ⟨D, hDD⟩ : ∃ D, plD xs p = D := ⟨_, rfl⟩
      rw [hDD] at hgc hD
      have HDD := Lib.hid hDD
      clear hDD
      have hinf : (Try.prog.info? 68).map (·.size) = some ((bl D).toArray).size := by rw [bl_size, hD]; exact infoP
      have hzs : (Try.zeroCells68).size = ((bl D).toArray).size := by rw [bl_size, hD]; exact zeroP
      have hall := allB D
      have hset := setRow_heap wr w.heap.size _ (bl D).toArray _ _ hgz
      have HBW := Lib.hid (show Below w.heap.size w (wr.setRow w.heap.size (bl D).toArray) from hbw.trans ⟨rfl, rfl, rfl, by simp, fun k hk => setRow_other _ _ _ _ (by omega)⟩)
      have HGC := Lib.hid hgc
      have HGZ := Lib.hid hgz
      have HIN := Lib.hid hinf
      have HZS := Lib.hid hzs
      have HAL := Lib.hid hall
      have HSE := Lib.hid hset
      clear hgc hgz hbw hinf hzs hall hset hD
      obtain ⟨cs, hcs⟩ : ∃ cs, (bl D).toArray = cs := ⟨_, rfl⟩
      rw [hcs] at HBW HGC HIN HZS HAL HSE
      have HCS := Lib.hid hcs
      clear hcs
      go_wp2_with (first | (refine wpList_load_row rfl 68 _ rfl (w.heap.size + 1) rfl 4 cs (0, 0) _ HGC.out Try.underlying68 rfl HIN.out ?_) | (refine wpList_store_row rfl 68 _ _ rfl w.heap.size cs rfl rfl 68 _ HGZ.out HIN.out HZS.out HAL.out ?_))
      exact bodyPost_ret (v := .agg cs) (results_cell_row (Try.results56) _ _ w.heap.size 68 cs (0, 0) _ rfl HSE.out Try.underlying68 rfl HIN.out) rfl ⟨by rw [HDD.out, HCS.out], HBW.out⟩
end Go.Proofs.Ytmokgmmjnfnbfaa
