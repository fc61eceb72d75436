/-
  Contract: the lights of a region, by the program.
-/
import Derived.Test.YtfbdmhkmkmbipaaCrK
import Derived.Test.YtfbdmhkmkmbipaaBx
import Derived.Test.YtfbdmhkmkmbipaaRo
import Derived.Laws.MakeOwn
import Derived.OwnWalk
import Derived.BigRegion
import Derived.Test.YtfbdmhkmkmbipaaSfw
namespace Go.Proofs.Ytfbdmhkmkmbipaa
open Go.RowKit Fl
set_option linter.unusedVariables false
set_option maxRecDepth 100000

def LtR (w0 : World) (P : Nat) (xs : List Nat) (X Y W H : Nat) (v i : Value) (wr : World) : Prop := ∃ k : Nat, k ≤ H ∧ i = .int .i64 k ∧ RowF w0 v (crL P xs X Y W k) wr
set_option maxHeartbeats 8000000 in
theorem ltN_any (P Q X Y W H : Nat) (b off c n : Nat) (xs : List Nat) (w : World) (hP : 1 ≤ P ∧ P ≤ 16) (hQ : 1 ≤ Q ∧ Q ≤ 16) (hl : n = P * Q) (hxl : xs.length = n) (hx : X + W ≤ P) (hy : Y + H ≤ Q) (hnc : n ≤ c) (hc : c ≤ maxLen) (hb : b < w.heap.size)
    (hcell : ∀ (i : Nat) (h : i < n), w.cell? ⟨b, off + i, none⟩ = some (.float .f32 (xs.getD i 0))) :
    Calls Try.prog 105 #[.agg #[.int .i64 (P : Int), .int .i64 (Q : Int), .slice (some ⟨b, off, none⟩) n c], .agg #[.int .i64 (X : Int), .int .i64 (Y : Int), .int .i64 (W : Int), .int .i64 (H : Int)]] w (RetF1 (crL P xs X Y W H) w) := by
  obtain ⟨i0, hi, hz0, hz1, hz2⟩ := info_parts infoF
  obtain ⟨w0, hw0⟩ : ∃ w0, (w.alloc (.cells #[.int .i64 (P : Int), .int .i64 (Q : Int), .slice (some ⟨b, off, none⟩) n c] 50)).alloc (.cells #[.int .i64 (X : Int), .int .i64 (Y : Int), .int .i64 (W : Int), .int .i64 (H : Int)] 97) = w0 := ⟨_, rfl⟩
  have hb0 : Below w.heap.size w w0 := by rw [← hw0]; exact ((Below.refl _ _).alloc (Nat.le_refl _) _).alloc (by simp) _
  have hX : Bx w0 w.heap.size [.int .i64 (P : Int), .int .i64 (Q : Int), .slice (some ⟨b, off, none⟩) n c] := by rw [← hw0]; exact (bx_new w [.int .i64 (P : Int), .int .i64 (Q : Int), .slice (some ⟨b, off, none⟩) n c] _).step ((Below.refl _ _).alloc (Nat.le_refl _) _)
  have hY : Bx w0 (w.heap.size + 1) [.int .i64 (X : Int), .int .i64 (Y : Int), .int .i64 (W : Int), .int .i64 (H : Int)] := by rw [← hw0]; have := bx_new (w.alloc (.cells #[.int .i64 (P : Int), .int .i64 (Q : Int), .slice (some ⟨b, off, none⟩) n c] 50)) [.int .i64 (X : Int), .int .i64 (Y : Int), .int .i64 (W : Int), .int .i64 (H : Int)] 97; simpa using this
  have hz : w0.heap.size = w.heap.size + 2 := by rw [← hw0]; simp
  have hn256 : n ≤ 256 := by rw [hl]; exact Nat.le_trans (Nat.mul_le_mul hP.2 hQ.2) (by omega)
  have hWH : W * H ≤ 256 := Nat.le_trans (Nat.mul_le_mul (show W ≤ 16 by omega) (show H ≤ 16 by omega)) (by omega)
  obtain ⟨m0, hm0⟩ : ∃ m0, m0 = W * H := ⟨_, rfl⟩
  have hmul : (W : Int) * (H : Int) = (m0 : Int) := by rw [hm0]; simp
  have hmw : IntKind.i64.wrap ((W : Int) * (H : Int)) = (m0 : Int) := by rw [hmul, IntKind.wrap_i64]; omega
  have hm0b : m0 ≤ 256 := by omega
  have x0 := (hX.2 0 _ rfl).1
  have x1 := (hX.2 1 _ rfl).1
  have x2 := (hX.2 2 _ rfl).1
  have y0 := (hY.2 0 _ rfl).1
  have y1 := (hY.2 1 _ rfl).1
  have y2 := (hY.2 2 _ rfl).1
  have y3 := (hY.2 3 _ rfl).1
  have HX := Lib.hid hX
  have HY := Lib.hid hY
  have HC := Lib.hid hcell
  have HB0 := Lib.hid hb0
  have HL := Lib.hid hl
  have HZ := Lib.hid hz
  have HIX := Lib.hid (fun (k j : Nat) (hk : k < H) (hj : j < W) => cr_idx hl hx hy hk hj)
  clear hX hY hcell hb0 hl hm0 hmul hz
  go_enter Try.func105, Try.ntmps105
  go_wp2_with (at_make; refine wpList_make_own _ rfl _ _ 22 rfl w0.heap.size 23 i0 (.float .f32 0) 1 Try.underlying22 hi hz0 hz1 .i64 .i64 _ m0 rfl rfl (by omega) (by rw [hz2]; omega) (by unfold maxLen; omega) (Nat.le_refl _) ?_; intro w1 hown hgrow; have HM := Lib.hid (show RowF w0 _ (crL P xs X Y W 0) w1 from RowF.made hown hgrow); have HB1 := Lib.hid (show Below w0.heap.size w0 w1 from HM.out.2); clear hown hgrow x0 x1 x2 y0 y1 y2 y3 hw0; have y3 := ((HY.out.step HB1.out).2 3 _ rfl).1)
  go_loopw [5, 18] (LtR w0 P xs X Y W H) (fun _ i _ => H - (intOf i).toNat)
  case atStart => exact ⟨0, Nat.zero_le _, rfl, HM.out⟩
  case round =>
    clear HM HB1 y3
    obtain ⟨k, hk, rfl, hr⟩ := hrel
    have HR := Lib.hid hr
    have HBr := Lib.hid hr.2
    clear hr
    by_cases hlt : k < H
    · have hkz : (Y : Int) + (k : Int) = ((Y + k : Nat) : Int) := by omega
      obtain ⟨z, hzd⟩ : ∃ z, z = Y + k := ⟨_, rfl⟩
      obtain ⟨m, hmd⟩ : ∃ m, m = z * P := ⟨_, rfl⟩
      have hwz : IntKind.i64.wrap ((Y : Int) + (k : Int)) = (z : Int) := by rw [IntKind.wrap_i64]; omega
      have hmz : (z : Int) * (P : Int) = (m : Int) := by rw [hmd]; simp
      have hzQ : z + 1 ≤ Q := by omega
      have hmn : m + P ≤ n := by
        have h1 : (z + 1) * P ≤ Q * P := Nat.mul_le_mul_right _ hzQ
        rw [Nat.succ_mul] at h1
        rw [HL.out, Nat.mul_comm P Q, hmd]; omega
      have HRo := Lib.hid (fun (W' : World) => (show Calls Try.prog 83 #[.agg #[.int .i64 (P : Int), .int .i64 (Q : Int), .slice (some ⟨b, off, none⟩) n c], .int .i64 (z : Int)] W' fun e w' => e = .returned (.slice (some ⟨b, off + m, none⟩) P (c - m)) ∧ Below W'.heap.size W' w' by
        have := ro_any (P : Int) (Q : Int) b off n c z m W' (by omega) (by omega) hmz (by omega) hn256 hnc hc
        rw [Int.toNat_natCast] at this; exact this))
      have hXW : IntKind.i64.wrap ((X : Int) + (W : Int)) = ((X + W : Nat) : Int) := by rw [IntKind.wrap_i64]; omega
      obtain ⟨u, hu⟩ : ∃ u, u = X + W := ⟨_, rfl⟩
      rw [← hu] at hXW
      have hcb : c < 9223372036854775808 := by unfold maxLen at hc; omega
      have hXu : X ≤ u := by omega
      have huW : u - X = W := by omega
      have huc : u ≤ c - m := by omega
      have hXc : (X : Int) ≤ (u : Int) := by omega
      have huc' : (u : Int) ≤ ((c - m : Nat) : Int) := by omega
      have HSRC := Lib.hid (show ∀ (q : Sf.Gw wr) (j : Nat) (x : Value), (fl (crR P xs X Y W k))[j]? = some x → q.w.cell? ((⟨b, off + m + X, none⟩ : Addr).add j) = some x from fun q j x hx => by
        have hj := (List.getElem?_eq_some_iff.1 hx).1
        rw [fl_len, crR_len] at hj
        have hid := HIX.out k j hlt hj
        have e : x = .float .f32 (xs.getD ((Y + k) * P + X + j) 0) := by simpa [crR, fl, hj] using hx.symm
        rw [e, Go.WideShapes.add_plain]
        have hw1 : wr.cell? ⟨b, off + ((Y + k) * P + X + j), none⟩ = some (.float .f32 (xs.getD ((Y + k) * P + X + j) 0)) := ((HB0.out.trans (HBr.out.mono HB0.out.size)).cell (p := ⟨b, off + ((Y + k) * P + X + j), none⟩) hb).trans (HC.out _ hid)
        have := q.cell hw1
        rw [show off + m + X + j = off + ((Y + k) * P + X + j) by rw [hmd, hzd]; omega]
        exact this)
      have x0 : ∀ q : Sf.Gw wr, q.w.cell? ⟨w.heap.size, 0, none⟩ = some (.int .i64 (P : Int)) := fun q => q.cell ((HX.out.step HBr.out).2 0 _ rfl).1
      have x1 : ∀ q : Sf.Gw wr, q.w.cell? ⟨w.heap.size, 1, none⟩ = some (.int .i64 (Q : Int)) := fun q => q.cell ((HX.out.step HBr.out).2 1 _ rfl).1
      have x2 : ∀ q : Sf.Gw wr, q.w.cell? ⟨w.heap.size, 2, none⟩ = some (.slice (some ⟨b, off, none⟩) n c) := fun q => q.cell ((HX.out.step HBr.out).2 2 _ rfl).1
      have y0 : ∀ q : Sf.Gw wr, q.w.cell? ⟨w.heap.size + 1, 0, none⟩ = some (.int .i64 (X : Int)) := fun q => q.cell ((HY.out.step HBr.out).2 0 _ rfl).1
      have y1 : ∀ q : Sf.Gw wr, q.w.cell? ⟨w.heap.size + 1, 1, none⟩ = some (.int .i64 (Y : Int)) := fun q => q.cell ((HY.out.step HBr.out).2 1 _ rfl).1
      have y2 : ∀ q : Sf.Gw wr, q.w.cell? ⟨w.heap.size + 1, 2, none⟩ = some (.int .i64 (W : Int)) := fun q => q.cell ((HY.out.step HBr.out).2 2 _ rfl).1
      have y3 : ∀ q : Sf.Gw wr, q.w.cell? ⟨w.heap.size + 1, 3, none⟩ = some (.int .i64 (H : Int)) := fun q => q.cell ((HY.out.step HBr.out).2 3 _ rfl).1
      clear hkz hzd hmd hmz hu hmn
      go_wp2_with fail
      refine Sf.wp_softC (C := fun w' => ∃ q : Sf.Gw wr, w' = q.w) [false, false, false, false, false, false, false, false, false, false, false, false, false, false, false, false, true, true] [true, true, true, true, true, true, true, true, true, true, true, true, true, true, true, true, false, false] (fun i =>  1) (fun i => if i = 6 then (.slice (some ⟨b, off + m, none⟩) P (c - m)) else undef) (by kernel_rfl) (by kernel_rfl) (by kernel_rfl) ⟨Sf.gw_draw wr 1, rfl⟩ ?_
      simp only [Sf.tl]
      refine Sf.lx_one rfl rfl (fun K hK => Sf.dft_quiet rfl ?_)
      go_big_quiet_op
      refine hK _ ?_
      clear hK K
      refine Sf.lx_one rfl rfl (fun K hK => Sf.dft_quiet rfl ?_)
      go_big_quiet_op
      refine hK _ ?_
      clear hK K
      refine Sf.lx_one rfl rfl (fun K hK => Sf.dft_quiet rfl ?_)
      go_big_quiet_op
      refine hK _ ?_
      clear hK K
      refine Sf.lx_one rfl rfl (fun K hK => Sf.dft_quiet rfl ?_)
      go_big_quiet_op
      refine hK _ ?_
      clear hK K
      refine Sf.lx_one rfl rfl (fun K hK => Sf.dft_quiet rfl ?_)
      go_big_quiet_op
      refine hK _ ?_
      clear hK K
      refine Sf.lx_one rfl rfl (fun K hK => Sf.dft_quiet rfl ?_)
      go_big_quiet_op
      refine hK _ ?_
      clear hK K
      refine Sf.lx_one rfl rfl (fun K hK => Sf.dft_call ?_ (hK _ ?_))
      · clear hK K; rintro _ ⟨nc, rfl⟩; go_simp; exact (HRo.out nc.w).mono fun e w' ⟨he, hb⟩ => ⟨he, nc.next hb⟩
      clear hK K
      simp only [Act.put, List.setIfInBounds_toArray, List.set_cons_zero, List.set_cons_succ, if_true, if_false, reduceIte, Nat.reduceEqDiff]
      refine Sf.lx_one rfl rfl (fun K hK => Sf.dft_quiet rfl ?_)
      go_big_quiet_op
      refine hK _ ?_
      clear hK K
      refine Sf.lx_one rfl rfl (fun K hK => Sf.dft_quiet rfl ?_)
      go_big_quiet_op
      refine hK _ ?_
      clear hK K
      refine Sf.lx_one rfl rfl (fun K hK => Sf.dft_quiet rfl ?_)
      go_big_quiet_op
      refine hK _ ?_
      clear hK K
      refine Sf.lx_one rfl rfl (fun K hK => Sf.dft_quiet rfl ?_)
      go_big_quiet_op
      refine hK _ ?_
      clear hK K
      refine Sf.lx_one rfl rfl (fun K hK => Sf.dft_quiet rfl ?_)
      go_big_quiet_op
      refine hK _ ?_
      clear hK K
      refine Sf.lx_one rfl rfl (fun K hK => Sf.dft_quiet rfl ?_)
      go_big_quiet_op
      refine hK _ ?_
      clear hK K
      refine Sf.lx_one rfl rfl (fun K hK => Sf.dft_quiet rfl ?_)
      go_big_quiet_op
      refine hK _ ?_
      clear hK K
      refine Sf.lx_one rfl rfl (fun K hK => Sf.dft_quiet rfl ?_)
      go_big_quiet_op
      refine hK _ ?_
      clear hK K
      refine Sf.lx_one rfl rfl (fun K hK => Sf.dft_quiet rfl ?_)
      go_big_quiet_op
      refine hK _ ?_
      clear hK K
      refine Sf.lx_over ?_
      refine Sf.lx_over ?_
      refine Sf.lx_nil ?_
      rintro _ ⟨nq, rfl⟩
      have HRq := Lib.hid (HR.out.step nq.h)
      have HSq := Lib.hid (HSRC.out nq)
      clear HSRC
      have HLEN := Lib.hid (show (crL P xs X Y W k).length ≤ 256 by rw [crL_len]; exact Nat.le_trans (Nat.mul_le_mul_left W (show k ≤ H by omega)) hWH)
      have HRL := Lib.hid (crR_len P xs X Y W k)
      have HNX := Lib.hid (crL_row P xs X Y W k)
      generalize crL P xs X Y W k = L at *
      generalize crR P xs X Y W k = R at *
      by_cases hce : c - m = X
      · rw [if_pos hce]
        go_wp2_with (at_builtin; go_loud (refine wpList_append_own _ rfl _ _ 22 rfl w0.heap.size 23 i0 (.float .f32 0) 1 4 Try.underlying22 hi hz0 hz1 hz2 rfl (by decide) _ _ _ rfl HRq.out.1 ⟨b, off + m, none⟩ W (c - m - X) (fl R) rfl (by rw [fl_len, HRL.out]; omega) (fun j x hx => absurd (List.getElem?_eq_some_iff.1 hx).1 (by rw [fl_len, HRL.out]; omega)) (cellsF R) (by unfold maxLen; have := HLEN.out; omega) (by have := HLEN.out; omega) HRq.out.2.size ?_; intro v' w1' hown' hgrow' _))
        have HR2 := Lib.hid (show RowF w0 v' (L ++ R) w1' from RowF.pushL (by rw [HRL.out]; exact hown') HRq.out.2 hgrow' (fun j hj => (HRq.out.1.lt j hj).1))
        clear hown' hgrow'
        go_wp2
        go_roundw
        case rel => exact ⟨k + 1, by omega, by go_num, by rw [← HNX.out]; exact HR2.out⟩
        case measure => simp [intOf]; omega
      · rw [if_neg hce]
        go_wp2_with (at_builtin; go_loud (refine wpList_append_own _ rfl _ _ 22 rfl w0.heap.size 23 i0 (.float .f32 0) 1 4 Try.underlying22 hi hz0 hz1 hz2 rfl (by decide) _ _ _ rfl HRq.out.1 ⟨b, off + m + X, none⟩ W (c - m - X) (fl R) rfl (by rw [fl_len, HRL.out]; omega) HSq.out (cellsF R) (by unfold maxLen; have := HLEN.out; omega) (by have := HLEN.out; omega) HRq.out.2.size ?_; intro v' w1' hown' hgrow' _))
        have HR2 := Lib.hid (show RowF w0 v' (L ++ R) w1' from RowF.pushL (by rw [HRL.out]; exact hown') HRq.out.2 hgrow' (fun j hj => (HRq.out.1.lt j hj).1))
        clear hown' hgrow'
        go_wp2
        go_roundw
        case rel => exact ⟨k + 1, by omega, by go_num, by rw [← HNX.out]; exact HR2.out⟩
        case measure => simp [intOf]; omega
    · obtain rfl : k = H := by omega
      go_wp2_with fail
      go_ret
      exact ⟨_, rfl, HR.out.own.less HB0.out.size, HB0.out.trans (HBr.out.mono HB0.out.size)⟩
theorem ltI_any (p q x y W H : Int) (b off c n : Nat) (xs : List Nat) (w : World) (hp : 1 ≤ p ∧ p ≤ 16) (hq : 1 ≤ q ∧ q ≤ 16) (hl : (xs.length : Int) = p * q) (hn : n = xs.length) (hx : 0 ≤ x ∧ x + W ≤ p) (hy : 0 ≤ y ∧ y + H ≤ q) (hW : 0 ≤ W) (hH : 0 ≤ H) (hnc : xs.length ≤ c) (hc : c ≤ maxLen) (hb : b < w.heap.size)
    (hcell : ∀ (i : Nat) (h : i < xs.length), w.cell? ⟨b, off + i, none⟩ = some (.float .f32 (xs.getD i 0))) :
    Calls Try.prog 105 #[.agg #[.int .i64 p, .int .i64 q, .slice (some ⟨b, off, none⟩) n c], .agg #[.int .i64 x, .int .i64 y, .int .i64 W, .int .i64 H]] w (RetF1 (crL p.toNat xs x.toNat y.toNat W.toNat H.toNat) w) := by
  subst hn
  obtain ⟨P, rfl⟩ : ∃ P : Nat, p = (P : Int) := ⟨p.toNat, by omega⟩
  obtain ⟨Q, rfl⟩ : ∃ P : Nat, q = (P : Int) := ⟨q.toNat, by omega⟩
  obtain ⟨X, rfl⟩ : ∃ P : Nat, x = (P : Int) := ⟨x.toNat, by omega⟩
  obtain ⟨Y, rfl⟩ : ∃ P : Nat, y = (P : Int) := ⟨y.toNat, by omega⟩
  obtain ⟨W, rfl⟩ : ∃ P : Nat, W = (P : Int) := ⟨W.toNat, by omega⟩
  obtain ⟨H, rfl⟩ : ∃ P : Nat, H = (P : Int) := ⟨H.toNat, by omega⟩
  simp only [Int.toNat_natCast]
  have hlN : xs.length = P * Q := by
    have : (xs.length : Int) = ((P * Q : Nat) : Int) := by rw [hl]; simp
    omega
  exact ltN_any P Q X Y W H b off c xs.length xs w (by omega) (by omega) hlN rfl (by omega) (by omega) hnc hc hb hcell
end Go.Proofs.Ytfbdmhkmkmbipaa
