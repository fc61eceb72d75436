/-
  Contracts: the distance of two pictures, of both sides.
-/
import Derived.Test.YthkklilfignmpaaBot
import Derived.Test.YthkklilfignmpaaBoi
import Derived.Test.YthkklilfignmpaaMi
import Derived.Test.YthkklilfignmpaaIsw
import Derived.Test.YthkklilfignmpaaSfm
import Derived.Test.YthkklilfignmpaaFloRt
import Derived.Test.YthkklilfignmpaaRt
import Derived.Test.YthkklilfignmpaaPiL
namespace Go.Proofs.Ythkklilfignmpaa
open Go.RowKit Fl
set_option linter.unusedVariables false
set_option maxRecDepth 100000
theorem IsW.eqN {ys cs : List Nat} (h : IsW ys cs) (hn : ∀ i, isN .f32 (cs.getD i 0) = false) : ys = cs := by
  refine List.ext_getElem h.1 fun i h1 h2 => ?_
  have := h.2 i
  have hi := hn i
  rw [show ys.getD i 0 = ys[i] by simp [List.getD, h1], show cs.getD i 0 = cs[i] by simp [List.getD, h2]] at this
  rw [show cs.getD i 0 = cs[i] by simp [List.getD, h2]] at hi
  exact is_eq this hi
def dsX (a0 a1 : List Nat) : Nat := msX (dfL a0 a1)
def dsB (p0 q0 : Int) (a0 : List Nat) (p1 q1 : Int) (a1 : List Nat) : Bool := botB p0 q0 a0 p1 q1 a1 && finB .f32 (dsX a0 a1)
def dsV (p0 q0 : Int) (a0 : List Nat) (p1 q1 : Int) (a1 : List Nat) : Nat := if botB p0 q0 a0 p1 q1 a1 then fnV (rtF (dsX a0 a1)) else 0
theorem df_not {a0 a1 : List Nat} (f0 : finA a0 = true) (f1 : finA a1 = true) (i : Nat) : isN .f32 ((dfL a0 a1).getD i 0) = false := by
  by_cases hi : i < a0.length
  · have : (dfL a0 a1).getD i 0 = ar .sub .f32 (a0.getD i 0) (a1.getD i 0) := by simp [dfL, List.getD, hi]
    rw [this]
    exact dif_nums (fin_getD f0 i) (fin_getD f1 i)
  · rw [getD_ge (by rw [dfL_len]; omega)]; decide
theorem dk_nn {xs : List Nat} (h : ∀ i, isN .f32 (xs.getD i 0) = false) : ∀ k, k ≤ xs.length → Nn (dotK xs xs k)
  | 0, _ => .inl ⟨_, _, read_0⟩
  | k + 1, hk => by
    have := h k
    rw [show xs.getD k 0 = xs[k] by simp [List.getD, show k < xs.length by omega]] at this
    rw [dotK_succ xs xs k (by omega) (by omega)]
    exact nn_add (dk_nn h k (by omega)) (nn_sqr this)
theorem ds_nn {a0 a1 : List Nat} (f0 : finA a0 = true) (f1 : finA a1 = true) (h1 : 1 ≤ a0.length) (h2 : a0.length ≤ 256) : Nn (dsX a0 a1) := by
  unfold dsX msX enF
  refine nn_quo (dk_nn (df_not f0 f1) _ (Nat.le_refl _)) (foi_ps _ ?_ ?_) <;> rw [dfL_len] <;> omega
theorem ds_fin {a0 a1 : List Nat} (f0 : finA a0 = true) (f1 : finA a1 = true) (h1 : 1 ≤ a0.length) (h2 : a0.length ≤ 256) : finB .f32 (rtF (dsX a0 a1)) = finB .f32 (dsX a0 a1) ∧ rtF (fnV (dsX a0 a1)) = fnV (rtF (dsX a0 a1)) := by
  obtain ⟨r, hr⟩ := sqr_some (ds_nn f0 f1 h1 h2)
  cases h : finB .f32 (dsX a0 a1) with
  | true =>
    have h3 : finB .f32 (rtF (dsX a0 a1)) = true := rq_yes h hr
    exact ⟨h3, by unfold fnV; rw [h, h3]; rfl⟩
  | false =>
    have h3 : finB .f32 (rtF (dsX a0 a1)) = false := rq_no h
    refine ⟨h3, ?_⟩
    unfold fnV
    rw [h, h3]
    simp only [Bool.false_eq_true, if_false]
    decide
theorem bot_len {p0 q0 p1 q1 : Int} {a0 a1 : List Nat} (h : botB p0 q0 a0 p1 q1 a1 = true) : finA a0 = true ∧ finA a1 = true ∧ a1.length = a0.length ∧ 1 ≤ a0.length ∧ a0.length ≤ 256 := by
  obtain ⟨h1, h2, rfl, rfl⟩ := botB_out h
  obtain ⟨b1, b2, l1, f1⟩ := vpcB_out h1
  obtain ⟨_, _, l2, f2⟩ := vpcB_out h2
  have := mul_bd b1 b2
  exact ⟨f1, f2, by omega, by omega, by omega⟩
def FaR (w0 : World) (xs ys : List Nat) (v iv : Value) (wr : World) : Prop := ∃ (k : Nat) (cur : List Nat), k ≤ xs.length ∧ iv = .int .i64 k ∧ IsW cur ((dfL xs ys).take k) ∧ RowF w0 v cur wr
set_option maxHeartbeats 8000000 in
theorem farS_any (g0 g1 : Nat) (v0 : Value) (p0 q0 : Int) (a0 : List Nat) (v1 : Value) (p1 q1 : Int) (a1 : List Nat) (w : World) (h0 : Rd w w.heap.size v0 (fl a0)) (h1 : Rd w w.heap.size v1 (fl a1)) (hX : Bx w g0 [.int .i64 p0, .int .i64 q0, v0]) (hY : Bx w g1 [.int .i64 p1, .int .i64 q1, v1]) (hm0 : a0.length ≤ 1048576) (hx0 : ∀ x ∈ a0, x < 2 ^ 32) (hm1 : a1.length ≤ 1048576) (hx1 : ∀ x ∈ a1, x < 2 ^ 32) (f0 : finA a0 = true) (f1 : finA a1 = true) (hl : a1.length = a0.length) (l1 : 1 ≤ a0.length) (l2 : a0.length ≤ 256) :
    Calls Try.prog 116 #[.pointer (some ⟨g0, 0, none⟩), .pointer (some ⟨g1, 0, none⟩)] w fun e w' => ∃ r, e = .returned (.float .f32 r) ∧ Is .f32 r (rtF (dsX a0 a1)) ∧ Below w.heap.size w w' := by
  obtain ⟨i0, hi, hz0, hz1, hz2⟩ := info_parts infoF
  obtain ⟨A0, c0, hv0, _, _, z0⟩ := h0
  obtain ⟨A1, c1, hv1, _, _, z1⟩ := h1
  rw [fl_len] at hv0 hv1 z0 z1
  subst hv0 hv1
  obtain ⟨b, off, rfl, hb, hc⟩ := z0 (by omega)
  obtain ⟨b', off', rfl, hb', hc'⟩ := z1 (by omega)
  have HC := Lib.hid (show ∀ j, j < a0.length → w.cell? ⟨b, off + j, none⟩ = some (.float .f32 (a0.getD j 0)) from fun j hj => hc j _ (fl_getD a0 j hj))
  have HD := Lib.hid (show ∀ j, j < a0.length → w.cell? ⟨b', off' + j, none⟩ = some (.float .f32 (a1.getD j 0)) from fun j hj => hc' j _ (fl_getD a1 j (by omega)))
  have HX := Lib.hid hX
  have HYY := Lib.hid hY
  have HF0 := Lib.hid f0
  have HF1 := Lib.hid f1
  have HX0 := Lib.hid hx0
  have HX1 := Lib.hid hx1
  have HL := Lib.hid hl
  rw [hl] at hY HYY
  obtain ⟨n, hn⟩ : ∃ n, a0.length = n := ⟨_, rfl⟩
  have HNN := Lib.hid hn
  rw [hn] at l1 l2 HC HD HX HYY
  clear hX hY hx0 hx1 f0 f1 hl hc hc' z0 z1 hm0 hm1
  go_enter Try.func116, Try.ntmps116
  go_wp2
  go_loopw [5, 6] (FaR w a0 a1) (fun _ i _ => n - (intOf i).toNat)
  case atStart => exact ⟨0, [], Nat.zero_le _, rfl, IsW.nil, RowF.lit _⟩
  case round =>
    obtain ⟨k, cur, hk, rfl, hw, hr⟩ := hrel
    rw [HNN.out] at hk
    have x2 : wr.cell? ⟨g0, 2, none⟩ = some (.slice (some ⟨b, off, none⟩) n c0) := (hr.2.cell (p := ⟨g0, 2, none⟩) HX.out.1).trans (HX.out.2 2 _ rfl).1
    have y2 : wr.cell? ⟨g1, 2, none⟩ = some (.slice (some ⟨b', off', none⟩) n c1) := (hr.2.cell (p := ⟨g1, 2, none⟩) HYY.out.1).trans (HYY.out.2 2 _ rfl).1
    by_cases hlt : k < n
    · have hI : (k : Int) < (n : Int) := by omega
      have c0' : wr.cell? ⟨b, off + k, none⟩ = some (.float .f32 (a0.getD k 0)) := (hr.2.cell (p := ⟨b, off + k, none⟩) hb).trans (HC.out k hlt)
      have c1' : wr.cell? ⟨b', off' + k, none⟩ = some (.float .f32 (a1.getD k 0)) := (hr.2.cell (p := ⟨b', off' + k, none⟩) hb').trans (HD.out k hlt)
      have k0 := is_getD HF0.out HX0.out k
      have k1 := is_getD HF1.out HX1.out k
      have HN := Lib.hid (show cur.length ≤ 256 by rw [hw.len, List.length_take, dfL_len, HNN.out]; omega)
      have HT := Lib.hid (show (dfL a0 a1).take (k + 1) = (dfL a0 a1).take k ++ [ar .sub .f32 (a0.getD k 0) (a1.getD k 0)] by
        rw [List.take_add_one]
        congr 1
        have h1 := HNN.out
        simp [dfL, show k < a0.length by omega])
      have HR' := Lib.hid hr
      have HW := Lib.hid hw
      generalize a0.getD k 0 = xa at *
      generalize a1.getD k 0 = xb at *
      clear hr hw HC HD HX HYY
      go_wp2_with fail
      refine Sf.wp_softM [true, false, false, false, false, false, false, false, false, false, false, false, false, false, false, false, true, true, true] [true, true, true, true, true, true, true, true, true, true, true, true, true, true, true, true, false, false, false] (fun i => if i = 15 then 0 else 1) (fun _ => undef) _ (by kernel_rfl) (by kernel_rfl) (by kernel_rfl) (by kernel_rfl) (by kernel_rfl) (by kernel_rfl) (fun _ _ _ h => h) (.inl ⟨rfl, fun _ => rfl⟩) ?_
      simp only [Act.put, List.setIfInBounds_toArray, List.set_cons_zero, List.set_cons_succ]
      simp only [Sf.tl]
      refine Sf.lx_over ?_
      refine Sf.lx_one rfl rfl (fun K hK => Sf.dft_quiet rfl ?_)
      go_big_quiet_op
      refine hK _ ?_
      clear hK K
      refine Sf.lx_one rfl rfl (fun K hK => Sf.dft_nil rfl rfl (hK _ ?_))
      clear hK K
      simp only [Act.put, List.setIfInBounds_toArray, List.set_cons_zero, List.set_cons_succ]
      refine Sf.lx_one rfl rfl (fun K hK => Sf.dft_quiet rfl ?_)
      go_big_quiet_op
      refine hK _ ?_
      clear hK K
      refine Sf.lx_one rfl rfl (fun K hK => Sf.dft_quiet rfl ?_)
      go_big_quiet_op
      refine hK _ ?_
      clear hK K
      refine Sf.lx_one rfl rfl (fun K hK => Sf.dft_quiet rfl ?_)
      go_big_quiet_op
      refine hK _ ?_
      clear hK K
      refine Sf.lx_one rfl rfl (fun K hK => Sf.dft_quiet rfl ?_)
      go_big_quiet_op
      refine hK _ ?_
      clear hK K
      refine Sf.lx_one rfl rfl (fun K hK => Sf.dft_quiet rfl ?_)
      go_big_quiet_op
      refine hK _ ?_
      clear hK K
      refine Sf.lx_one rfl rfl (fun K hK => Sf.dft_quiet rfl ?_)
      go_big_quiet_op
      refine hK _ ?_
      clear hK K
      refine Sf.lx_one rfl rfl (fun K hK => Sf.dft_nil rfl rfl (hK _ ?_))
      clear hK K
      simp only [Act.put, List.setIfInBounds_toArray, List.set_cons_zero, List.set_cons_succ]
      refine Sf.lx_one rfl rfl (fun K hK => Sf.dft_quiet rfl ?_)
      go_big_quiet_op
      refine hK _ ?_
      clear hK K
      refine Sf.lx_one rfl rfl (fun K hK => Sf.dft_quiet rfl ?_)
      go_big_quiet_op
      refine hK _ ?_
      clear hK K
      refine Sf.lx_one rfl rfl (fun K hK => Sf.dft_quiet rfl ?_)
      go_big_quiet_op
      refine hK _ ?_
      clear hK K
      refine Sf.lx_one rfl rfl (fun K hK => Sf.dft_quiet rfl ?_)
      go_big_quiet_op
      refine hK _ ?_
      clear hK K
      refine Sf.lx_one rfl rfl (fun K hK => Sf.dft_quiet rfl ?_)
      go_big_quiet_op
      refine hK _ ?_
      clear hK K
      refine Sf.lx_fl rfl rfl (fun K hK => Sf.sft_ar (k := .f32) rfl rfl rfl rfl (k0) (k1) (fun r32 hr32 => hK _ ?_))
      clear hK K
      simp only [Act.put, List.setIfInBounds_toArray, List.set_cons_zero, List.set_cons_succ]
      refine Sf.lx_over ?_
      refine Sf.lx_over ?_
      refine Sf.lx_over ?_
      refine Sf.lx_nil ?_
      rintro _ ⟨nq, rfl⟩
      go_wp2_with (first | (at_builtin; refine wpList_append_own _ rfl _ _ 22 rfl w.heap.size 23 i0 (.float .f32 0) 1 4 Try.underlying22 hi hz0 hz1 hz2 rfl (by decide) _ _ _ rfl (HR'.out.1.alloc _) ⟨wr.heap.size, 0, none⟩ 1 1 [.float .f32 r32] rfl rfl (one_newF _ _ _) (cellsF [r32]) (by unfold maxLen; have := HN.out; omega) (by have := HN.out; omega) (by simp; have := HR'.out.2.size; omega) ?_; intro v' w1 hown' hgrow _) | (at_builtin; refine wpList_append_own _ rfl _ _ 22 rfl w.heap.size 23 i0 (.float .f32 0) 1 4 Try.underlying22 hi hz0 hz1 hz2 rfl (by decide) _ _ _ rfl ((rowDrewF HR'.out.1 _).alloc _) ⟨wr.heap.size, 0, none⟩ 1 1 [.float .f32 r32] rfl rfl (one_newF _ _ _) (cellsF [r32]) (by unfold maxLen; have := HN.out; omega) (by have := HN.out; omega) (by simp; have := HR'.out.2.size; omega) ?_; intro v' w1 hown' hgrow _))
      have HR2 := Lib.hid (show RowF w v' (cur ++ [r32]) w1 from RowF.push hown' (by first | exact HR'.out.2.alloc HR'.out.2.size _ | exact (below_drawn HR'.out.2 _).alloc HR'.out.2.size _) hgrow (fun j hj => (HR'.out.1.lt j hj).1))
      clear hown' hgrow
      go_wp2
      go_roundw
      case rel => exact ⟨k + 1, cur ++ [r32], by rw [HNN.out]; omega, by go_num, by rw [HT.out]; exact HW.out.app hr32, HR2.out⟩
      case measure => simp [intOf]; omega
    · obtain rfl : k = n := by omega
      have hE : cur = dfL a0 a1 := by
        have := hw.eqN (fun i => by
          rw [List.take_of_length_le (by rw [dfL_len, HNN.out]; exact Nat.le_refl _)]
          exact df_not HF0.out HF1.out i)
        rw [this, List.take_of_length_le (by rw [dfL_len, HNN.out]; exact Nat.le_refl _)]
      have hcl : cur.length = k := by rw [hE, dfL_len, HNN.out]
      have HEN := Lib.hid (fun W v5 (h : Rd W W.heap.size v5 (fl cur)) => enS_any v5 cur W W.heap.size h (by omega))
      have HE := Lib.hid (show dsX a0 a1 = ar .quo .f32 (enF cur) (floatOfInt .f32 (k : Int)) by unfold dsX msX; rw [hE, dfL_len, HNN.out])
      have HO := Lib.hid hr.own
      have HB := Lib.hid hr.2
      obtain ⟨Ao, co, hvo, _, _, _⟩ := id hr.own
      rw [fl_len, hcl] at hvo
      subst hvo
      clear hr hw hE HX HYY HC HD
      generalize enF cur = en at *
      go_wp2_with (first | (go_at_call 159; refine (HEN.out _ _ HO.out.rd).mono ?_; rintro e w' ⟨r1, n1, rfl, hr1, rfl⟩) | (refine up_ar2 (op := .quo) rfl hr1 (is_int32 _) ?_; intro r2 n2 hr2) | (go_at_call 158; refine (rtS_any _ _ _ hr2).mono ?_; rintro e w' ⟨r3, n3, rfl, hr3, rfl⟩))
      go_ret
      exact ⟨_, rfl, by rw [HE.out]; exact hr3, by first | exact below_drawn HB.out _ | exact below_drawn (below_drawn HB.out _) _ | exact below_drawn (below_drawn (below_drawn HB.out _) _) _⟩
end Go.Proofs.Ythkklilfignmpaa
