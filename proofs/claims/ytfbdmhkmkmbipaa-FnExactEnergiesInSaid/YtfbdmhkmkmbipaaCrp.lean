/-
  Contract: a part of a picture, by the model.
-/
import Derived.Test.YtfbdmhkmkmbipaaCrK
import Derived.Deep.QuietTactic
import Derived.BigQuiet
import Derived.Deep.RegionHeld3
namespace Go.Proofs.Ytfbdmhkmkmbipaa
open Go.RowKit Fl
set_option linter.unusedVariables false
set_option maxRecDepth 100000

def CroRel (w0 : World) (lo g : Nat) (W H : Int) (n : Nat) (f : Nat → Nat) (i : Value) (wr : World) : Prop :=
  ∃ (k : Nat) (v : Value), k ≤ n ∧ i = .int .i64 k ∧ Gro w0 lo g W H k ((List.range k).map f) v wr
theorem gro_startC (p q : Int) (W : World) : Gro W W.heap.size (W.heap.size + 1) p q 0 [] (.slice (some ⟨W.heap.size, 0, none⟩) 0 0) ((W.alloc (.cells #[] 23)).alloc (.cells #[.int .i64 p, .int .i64 q, .slice (some ⟨W.heap.size, 0, none⟩) 0 0] 50)) := by
  refine ⟨by simp [go_sem], by simp [go_sem], by simp [go_sem], by simp [go_sem], by simp, by simp [Value.ownBlock], ?_, ((Below.refl _ _).alloc (Nat.le_refl _) _).alloc (by simp) _, by simp; try omega, by omega, Nat.le_refl _⟩
  have h := (row_nil W).alloc (.cells #[.int .i64 p, .int .i64 q, .slice (some ⟨W.heap.size, 0, none⟩) 0 0] 50)
  simpa using h
set_option maxHeartbeats 8000000 in
theorem cpN_any (g0 P Q X Y W H : Nat) (q_ : Int) (b off c nx : Nat) (xs : List Nat) (w : World) (hP : 1 ≤ P ∧ P ≤ 16) (hQ : 1 ≤ Q ∧ Q ≤ 16) (hl : nx = P * Q) (hx : X + W ≤ P) (hy : Y + H ≤ Q) (hW : 1 ≤ W) (hH : 1 ≤ H) (hg0 : g0 < w.heap.size) (hb : b < w.heap.size)
    (k0 : w.cell? ⟨g0, 0, none⟩ = some (.int .i64 (P : Int))) (k2 : w.cell? ⟨g0, 2, none⟩ = some (.slice (some ⟨b, off, none⟩) nx c))
    (hcell : ∀ (i : Nat) (h : i < nx), w.cell? ⟨b, off + i, none⟩ = some (.float .f32 (xs.getD i 0))) :
    Calls Try.prog 132 #[.pointer (some ⟨g0, 0, none⟩), .int .i64 (X : Int), .int .i64 (Y : Int), .int .i64 (W : Int), .int .i64 (H : Int)] w (RetAg (W : Int) (H : Int) (crL P xs X Y W H) w) := by
  obtain ⟨i0, hi, hz0, hz1, hz2⟩ := info_parts infoF
  obtain ⟨n, hne⟩ : ∃ n, n = W * H := ⟨_, rfl⟩
  have hn256 : n ≤ 256 := by rw [hne]; exact Nat.le_trans (Nat.mul_le_mul (show W ≤ 16 by omega) (show H ≤ 16 by omega)) (by omega)
  have hnx : nx ≤ 256 := by rw [hl]; exact Nat.le_trans (Nat.mul_le_mul hP.2 hQ.2) (by omega)
  have hmul : (W : Int) * (H : Int) = (n : Int) := by rw [hne]; simp
  have hmw : IntKind.i64.wrap ((W : Int) * (H : Int)) = (n : Int) := by rw [hmul, IntKind.wrap_i64]; omega
  have HSL := Lib.hid (show crL P xs X Y W H = (List.range n).map (crF P xs X Y W) by unfold crL; rw [hne])
  have HKH := Lib.hid (fun (k : Nat) (hk : k < n) => (show k / W < H from Nat.div_lt_of_lt_mul (by rw [← hne]; exact hk)))
  have HIX := Lib.hid (fun (k j : Nat) (hk : k < H) (hj : j < W) => cr_idx hl hx hy hk hj)
  have HC := Lib.hid hcell
  obtain ⟨W0, hW0⟩ : ∃ W0, W0 = w.alloc (.cells #[.int .i64 0, .int .i64 0, .slice none 0 0] 50) := ⟨_, rfl⟩
  have hb0 : Below w.heap.size w W0 := by rw [hW0]; exact (Below.refl _ _).alloc (Nat.le_refl _) _
  have hz : W0.heap.size = w.heap.size + 1 := by rw [hW0]; simp
  have r0 : W0.cell? ⟨w.heap.size, 0, none⟩ = some (.int .i64 0) := by rw [hW0]; simp [go_sem]
  have r1 : W0.cell? ⟨w.heap.size, 1, none⟩ = some (.int .i64 0) := by rw [hW0]; simp [go_sem]
  have r2 : W0.cell? ⟨w.heap.size, 2, none⟩ = some (.slice none 0 0) := by rw [hW0]; simp [go_sem]
  have e0 : W0.frozen? ⟨w.heap.size, 0, none⟩ = false := by rw [hW0]; simp [go_sem]
  have e1 : W0.frozen? ⟨w.heap.size, 1, none⟩ = false := by rw [hW0]; simp [go_sem]
  have e2 : W0.frozen? ⟨w.heap.size, 2, none⟩ = false := by rw [hW0]; simp [go_sem]
  have hgA : g0 < W0.heap.size := by omega
  have hbW : b < W0.heap.size := by omega
  have hlt2 : w.heap.size < W0.heap.size := by omega
  replace k0 := (hb0.cell (p := ⟨g0, 0, none⟩) hg0).trans k0
  replace k2 := (hb0.cell (p := ⟨g0, 2, none⟩) hg0).trans k2
  replace HC := Lib.hid (fun i hi => (hb0.cell (p := ⟨b, off + i, none⟩) hb).trans (HC.out i hi))
  have HZ := Lib.hid hz
  have HB0 := Lib.hid hb0
  clear hb0 hz hcell hl hne hmul
  have hG0 : Gro W0 (w.heap.size + 1) (w.heap.size + 2) (W : Int) (H : Int) 0 [] (.slice (some ⟨w.heap.size + 1, 0, none⟩) 0 0) ((W0.alloc (.cells #[] 23)).alloc (.cells #[.int .i64 (W : Int), .int .i64 (H : Int), .slice (some ⟨w.heap.size + 1, 0, none⟩) 0 0] 50)) := by have := gro_startC (W : Int) (H : Int) W0; rw [HZ.out] at this; exact this
  go_enter Try.func132, Try.ntmps132
  go_wp2_with fail
  rw [← hW0]
  clear hW0
  go_wp2_with fail
  go_loopw [12] (CroRel W0 (w.heap.size + 1) (w.heap.size + 2) (W : Int) (H : Int) n (crF P xs X Y W)) (fun i _ => n - (intOf i).toNat)
  case atStart => exact ⟨0, _, Nat.zero_le _, rfl, hG0⟩
  case round =>
    clear hG0
    obtain ⟨k, v, hk, rfl, hG⟩ := hrel
    obtain ⟨g0_, g1_, g2_, gf_, gz_, gn_, gr_, gb_, _⟩ := id hG
    have HG := Lib.hid hG
    have HGB := Lib.hid gb_
    have q0 := (gb_.cell (p := ⟨g0, 0, none⟩) hgA).trans k0
    have q2 := (gb_.cell (p := ⟨g0, 2, none⟩) hgA).trans k2
    clear hG gr_ gb_ gn_
    by_cases hlt : k < n
    · have hkH := HKH.out k hlt
      have hkW : k % W < W := Nat.mod_lt _ (by omega)
      have hidx := HIX.out (k / W) (k % W) hkH hkW
      have hsrc0 := HC.out _ hidx
      have hrem : (k : Int).tmod (W : Int) = ((k % W : Nat) : Int) := by rw [Int.tmod_eq_emod_of_nonneg (by omega)]; simp
      have hquo : (k : Int).tdiv (W : Int) = ((k / W : Nat) : Int) := by rw [Int.tdiv_eq_ediv_of_nonneg (by omega)]; simp
      obtain ⟨u, hu⟩ : ∃ u, u = xs.getD ((Y + k / W) * P + X + k % W) 0 := ⟨_, rfl⟩
      rw [← hu] at hsrc0
      have HU := Lib.hid (show u = crF P xs X Y W k from hu)
      clear hu
      generalize k % W = x at *
      generalize k / W = y at *
      obtain ⟨s, hs⟩ : ∃ s, s = Y + y := ⟨_, rfl⟩
      obtain ⟨m, hm⟩ : ∃ m, m = s * P := ⟨_, rfl⟩
      obtain ⟨m2, hm2⟩ : ∃ m2, m2 = m + X := ⟨_, rfl⟩
      obtain ⟨z, hz⟩ : ∃ z, z = m2 + x := ⟨_, rfl⟩
      have hze : (Y + y) * P + X + x = z := by rw [hz, hm2, hm, hs]
      rw [hze] at hsrc0 hidx
      have hsrc : wr.cell? ⟨b, off + z, none⟩ = some (.float .f32 u) := (HGB.out.cell (p := ⟨b, off + z, none⟩) hbW).trans hsrc0
      have HSW := Lib.hid (fun (w' : World) (hbw : Below W0.heap.size W0 w') => (show w'.cell? ⟨g0, 0, none⟩ = some (.int .i64 (P : Int)) ∧ w'.cell? ⟨g0, 2, none⟩ = some (.slice (some ⟨b, off, none⟩) nx c) ∧ w'.cell? ⟨b, off + z, none⟩ = some (.float .f32 u) from ⟨(hbw.cell (p := ⟨g0, 0, none⟩) hgA).trans k0, (hbw.cell (p := ⟨g0, 2, none⟩) hgA).trans k2, (hbw.cell (p := ⟨b, off + z, none⟩) hbW).trans hsrc0⟩))
      have hqz : ¬ (W : Int) = 0 := by omega
      have hqzN : ¬ W = 0 := by omega
      have hyw : IntKind.i64.wrap (y : Int) = (y : Int) := by rw [IntKind.wrap_i64]; omega
      have hsw : IntKind.i64.wrap ((Y : Int) + (y : Int)) = (s : Int) := by rw [IntKind.wrap_i64]; omega
      have hmw1 : IntKind.i64.wrap ((s : Int) * (P : Int)) = (m : Int) := by rw [show (s : Int) * (P : Int) = (m : Int) by rw [hm]; simp, IntKind.wrap_i64]; omega
      have hmw2 : IntKind.i64.wrap ((m : Int) + (X : Int)) = (m2 : Int) := by rw [IntKind.wrap_i64]; omega
      have hzw : IntKind.i64.wrap ((m2 : Int) + (x : Int)) = (z : Int) := by rw [IntKind.wrap_i64]; omega
      have hzn : (z : Int) < (nx : Int) := by omega
      have hzz : (0 : Int) ≤ (z : Int) := by omega
      have hkn : (k : Int) < (n : Int) := by omega
      clear hs hm hm2 hz hze hsrc0 hidx
      have HGQ := HG
      go_wp2_with fail
      have HSA := Lib.hid (fun o => HSW.out (wr.alloc o) (HGQ.out.2.2.2.2.2.2.2.1.alloc (Nat.le_trans (Nat.le_of_eq HZ.out) HGQ.out.2.2.2.2.2.2.2.2.1) o))
      have hcA : ∀ o, (wr.alloc o).cell? ⟨w.heap.size + 2, 2, none⟩ = some v := fun o => (((Below.refl wr.heap.size wr).alloc (Nat.le_refl _) o).cell (p := ⟨w.heap.size + 2, 2, none⟩) HGQ.out.2.2.2.2.1).trans g2_
      refine wp_region_held_drew (S := (fun w' => w'.cell? ⟨g0, 0, none⟩ = some (.int .i64 (P : Int)) ∧ w'.cell? ⟨g0, 2, none⟩ = some (.slice (some ⟨b, off, none⟩) nx c) ∧ w'.cell? ⟨b, off + z, none⟩ = some (.float .f32 u))) (by kernel_rfl) ?_ (fun hHeld => ?_)
      · exact ⟨q0, q2, hsrc⟩
      refine wpAnyH_take (i := 0) (v := ?v1) rfl (by kernel_rfl) (by kernel_rfl) (by kernel_rfl) (fun _ _ _ h => h) (Or.inl ⟨by rfl, ?y1⟩) (by assumption) ?r1
      case y1 => (intro w hSw; (try dsimp only at hSw); go_simp; try (with_reducible rfl))
      (try simp only [Act.put]); (try simp only [List.setIfInBounds_toArray]); (try simp only [List.set_cons_succ]); (try simp only [List.set_cons_zero])
      refine wpAnyH_take (i := 2) (v := ?v2) rfl (by kernel_rfl) (by kernel_rfl) (by kernel_rfl) (fun _ _ _ h => h) (Or.inl ⟨by rfl, ?y2⟩) (by assumption) ?r2
      case y2 => (intro w hSw; (try dsimp only at hSw); go_simp; try (with_reducible rfl))
      (try simp only [Act.put]); (try simp only [List.setIfInBounds_toArray]); (try simp only [List.set_cons_succ]); (try simp only [List.set_cons_zero])
      refine wpAnyH_take (i := 3) (v := ?v3) rfl (by kernel_rfl) (by kernel_rfl) (by kernel_rfl) (fun _ _ _ h => h) (Or.inl ⟨by rfl, ?y3⟩) (by assumption) ?r3
      case y3 => (intro w hSw; (try dsimp only at hSw); go_simp; try (with_reducible rfl))
      (try simp only [Act.put]); (try simp only [List.setIfInBounds_toArray]); (try simp only [List.set_cons_succ]); (try simp only [List.set_cons_zero])
      refine wpAnyH_take (i := 4) (v := ?v4) rfl (by kernel_rfl) (by kernel_rfl) (by kernel_rfl) (fun _ _ _ h => h) (Or.inl ⟨by rfl, ?y4⟩) (by assumption) ?r4
      case y4 => (intro w hSw; (try dsimp only at hSw); go_simp; try (with_reducible rfl))
      (try simp only [Act.put]); (try simp only [List.setIfInBounds_toArray]); (try simp only [List.set_cons_succ]); (try simp only [List.set_cons_zero])
      refine wpAnyH_take (i := 5) (v := ?v5) rfl (by kernel_rfl) (by kernel_rfl) (by kernel_rfl) (fun _ _ _ h => h) (Or.inl ⟨by rfl, ?y5⟩) (by assumption) ?r5
      case y5 => (intro w hSw; (try dsimp only at hSw); go_simp; try (with_reducible rfl))
      (try simp only [Act.put]); (try simp only [List.setIfInBounds_toArray]); (try simp only [List.set_cons_succ]); (try simp only [List.set_cons_zero])
      refine wpAnyH_take (i := 6) (v := ?v6) rfl (by kernel_rfl) (by kernel_rfl) (by kernel_rfl) (fun _ _ _ h => h) (Or.inl ⟨by rfl, ?y6⟩) (by assumption) ?r6
      case y6 => (intro w hSw; (try dsimp only at hSw); go_simp; try (with_reducible rfl))
      (try simp only [Act.put]); (try simp only [List.setIfInBounds_toArray]); (try simp only [List.set_cons_succ]); (try simp only [List.set_cons_zero])
      refine wpAnyH_take (i := 7) (v := ?v7) rfl (by kernel_rfl) (by kernel_rfl) (by kernel_rfl) (fun _ _ _ h => h) (Or.inl ⟨by rfl, ?y7⟩) (by assumption) ?r7
      case y7 => (intro w hSw; (try dsimp only at hSw); go_simp; try (with_reducible rfl))
      (try simp only [Act.put]); (try simp only [List.setIfInBounds_toArray]); (try simp only [List.set_cons_succ]); (try simp only [List.set_cons_zero])
      refine wpAnyH_take (i := 8) (v := ?v8) rfl (by kernel_rfl) (by kernel_rfl) (by kernel_rfl) (fun _ _ _ h => h) (Or.inl ⟨by rfl, ?y8⟩) (by assumption) ?r8
      case y8 => (intro w hSw; (try dsimp only at hSw); go_simp; try (with_reducible rfl))
      (try simp only [Act.put]); (try simp only [List.setIfInBounds_toArray]); (try simp only [List.set_cons_succ]); (try simp only [List.set_cons_zero])
      refine wpAnyH_take (i := 9) (v := ?v9) rfl (by kernel_rfl) (by kernel_rfl) (by kernel_rfl) (fun _ _ _ h => h) (Or.inl ⟨by rfl, ?y9⟩) (by assumption) ?r9
      case y9 => (intro w hSw; (try dsimp only at hSw); go_simp; try (with_reducible rfl))
      (try simp only [Act.put]); (try simp only [List.setIfInBounds_toArray]); (try simp only [List.set_cons_succ]); (try simp only [List.set_cons_zero])
      refine wpAnyH_take (i := 10) (v := ?v10) rfl (by kernel_rfl) (by kernel_rfl) (by kernel_rfl) (fun _ _ _ h => h) (Or.inl ⟨by rfl, ?y10⟩) (by assumption) ?r10
      case y10 => (intro w hSw; (try dsimp only at hSw); go_simp; try (with_reducible rfl))
      (try simp only [Act.put]); (try simp only [List.setIfInBounds_toArray]); (try simp only [List.set_cons_succ]); (try simp only [List.set_cons_zero])
      refine wpAnyH_take (i := 11) (v := ?v11) rfl (by kernel_rfl) (by kernel_rfl) (by kernel_rfl) (fun _ _ _ h => h) (Or.inl ⟨by rfl, ?y11⟩) (by assumption) ?r11
      case y11 => (intro w hSw; (try dsimp only at hSw); go_simp; try (with_reducible rfl))
      (try simp only [Act.put]); (try simp only [List.setIfInBounds_toArray]); (try simp only [List.set_cons_succ]); (try simp only [List.set_cons_zero])
      refine wpAnyH_take (i := 12) (v := ?v12) rfl (by kernel_rfl) (by kernel_rfl) (by kernel_rfl) (fun _ _ _ h => h) (Or.inl ⟨by rfl, ?y12⟩) (by assumption) ?r12
      case y12 => (intro w hSw; (try dsimp only at hSw); go_simp; try (with_reducible rfl))
      (try simp only [Act.put]); (try simp only [List.setIfInBounds_toArray]); (try simp only [List.set_cons_succ]); (try simp only [List.set_cons_zero])
      refine wpAnyH_take (i := 13) (v := ?v13) rfl (by kernel_rfl) (by kernel_rfl) (by kernel_rfl) (fun _ _ _ h => h) (Or.inl ⟨by rfl, ?y13⟩) (by assumption) ?r13
      case y13 => (intro w hSw; (try dsimp only at hSw); go_simp; try (with_reducible rfl))
      (try simp only [Act.put]); (try simp only [List.setIfInBounds_toArray]); (try simp only [List.set_cons_succ]); (try simp only [List.set_cons_zero])
      refine wpAnyH_take (i := 14) (v := ?v14) rfl (by kernel_rfl) (by kernel_rfl) (by kernel_rfl) (fun _ _ _ h => h) (Or.inl ⟨by rfl, ?y14⟩) (by assumption) ?r14
      case y14 => (intro w hSw; (try dsimp only at hSw); go_simp; try (with_reducible rfl))
      (try simp only [Act.put]); (try simp only [List.setIfInBounds_toArray]); (try simp only [List.set_cons_succ]); (try simp only [List.set_cons_zero])
      refine wpAnyH_take (i := 15) (v := ?v15) rfl (by kernel_rfl) (by kernel_rfl) (by kernel_rfl) (fun _ _ _ h => h) (Or.inl ⟨by rfl, ?y15⟩) (by assumption) ?r15
      case y15 => (intro w hSw; (try dsimp only at hSw); go_simp; try (with_reducible rfl))
      (try simp only [Act.put]); (try simp only [List.setIfInBounds_toArray]); (try simp only [List.set_cons_succ]); (try simp only [List.set_cons_zero])
      refine wpAnyH_take (i := 16) (v := ?v16) rfl (by kernel_rfl) (by kernel_rfl) (by kernel_rfl) (fun _ _ _ h => h) (Or.inl ⟨by rfl, ?y16⟩) (by assumption) ?r16
      case y16 => (intro w hSw; (try dsimp only at hSw); go_simp; try (with_reducible rfl))
      (try simp only [Act.put]); (try simp only [List.setIfInBounds_toArray]); (try simp only [List.set_cons_succ]); (try simp only [List.set_cons_zero])
      refine wpAnyH_take (i := 17) (v := ?v17) rfl (by kernel_rfl) (by kernel_rfl) (by kernel_rfl) (fun _ _ _ h => h) (Or.inl ⟨by rfl, ?y17⟩) (by assumption) ?r17
      case y17 => (intro w hSw; (try dsimp only at hSw); go_simp; try (with_reducible rfl))
      (try simp only [Act.put]); (try simp only [List.setIfInBounds_toArray]); (try simp only [List.set_cons_succ]); (try simp only [List.set_cons_zero])
      refine wpAnyH_take (i := 18) (v := ?v18) rfl (by kernel_rfl) (by kernel_rfl) (by kernel_rfl) (fun _ _ _ h => h) (Or.inl ⟨by rfl, ?y18⟩) (by assumption) ?r18
      case y18 => (intro w hSw; (try dsimp only at hSw); go_simp; try (with_reducible rfl))
      (try simp only [Act.put]); (try simp only [List.setIfInBounds_toArray]); (try simp only [List.set_cons_succ]); (try simp only [List.set_cons_zero])
      refine wpAnyH_take (i := 19) (v := ?v19) rfl (by kernel_rfl) (by kernel_rfl) (by kernel_rfl) (fun _ _ _ h => h) (Or.inl ⟨by rfl, ?y19⟩) (by assumption) ?r19
      case y19 => (intro w hSw; (try dsimp only at hSw); go_simp; try (with_reducible rfl))
      (try simp only [Act.put]); (try simp only [List.setIfInBounds_toArray]); (try simp only [List.set_cons_succ]); (try simp only [List.set_cons_zero])
      refine wpAnyH_take (i := 20) (v := ?v20) rfl (by kernel_rfl) (by kernel_rfl) (by kernel_rfl) (fun _ _ _ h => h) (Or.inl ⟨by rfl, ?y20⟩) (by assumption) ?r20
      case y20 => (intro w hSw; (try dsimp only at hSw); go_simp; try (with_reducible rfl))
      (try simp only [Act.put]); (try simp only [List.setIfInBounds_toArray]); (try simp only [List.set_cons_succ]); (try simp only [List.set_cons_zero])
      refine wpAnyH_take (i := 21) (v := ?v21) rfl (by kernel_rfl) (by kernel_rfl) (by kernel_rfl) (fun _ _ _ h => h) (Or.inl ⟨by rfl, ?y21⟩) (by assumption) ?r21
      case y21 => (intro w hSw; (try dsimp only at hSw); go_simp; try (with_reducible rfl))
      (try simp only [Act.put]); (try simp only [List.setIfInBounds_toArray]); (try simp only [List.set_cons_succ]); (try simp only [List.set_cons_zero])
      refine wpAnyH_take (i := 22) (v := ?v22) rfl (by kernel_rfl) (by kernel_rfl) (by kernel_rfl) (fun _ _ _ h => h) (Or.inl ⟨by rfl, ?y22⟩) (by assumption) ?r22
      case y22 => (intro w hSw; (try dsimp only at hSw); go_simp; try (with_reducible rfl))
      (try simp only [Act.put]); (try simp only [List.setIfInBounds_toArray]); (try simp only [List.set_cons_succ]); (try simp only [List.set_cons_zero])
      refine wpAnyH_take (i := 23) (v := ?v23) rfl (by kernel_rfl) (by kernel_rfl) (by kernel_rfl) (fun _ _ _ h => h) (Or.inl ⟨by rfl, ?y23⟩) (by assumption) ?r23
      case y23 => (intro w hSw; (try dsimp only at hSw); go_simp; try (with_reducible rfl))
      (try simp only [Act.put]); (try simp only [List.setIfInBounds_toArray]); (try simp only [List.set_cons_succ]); (try simp only [List.set_cons_zero])
      refine wpAnyH_ready (rs := [1, 24]) (by kernel_rfl) (by simp) ?_
      refine AllReadyH.cons rfl (fun K hK => ?_) (AllReadyH.cons rfl (fun K hK => ?_) AllReadyH.nil)
      · go_simp
        refine hK.out _ _ ?_ (fun hHeld => ?_)
        · exact ⟨q0, q2, hsrc⟩
        clear hK K
        (try simp only [Act.put]); (try simp only [List.setIfInBounds_toArray]); (try simp only [List.set_cons_succ]); (try simp only [List.set_cons_zero])
        refine wpAnyH_ready (rs := [24]) (by kernel_rfl) (by simp) ?_
        refine AllReadyH.cons rfl (fun K hK => ?_) AllReadyH.nil
        go_simp
        refine hK.out _ _ ?_ (fun hHeld => ?_)
        · exact HSA.out _
        clear hK K
        (try simp only [Act.put]); (try simp only [List.setIfInBounds_toArray]); (try simp only [List.set_cons_succ]); (try simp only [List.set_cons_zero])
        refine wpAnyH_ready (rs := [25]) (by kernel_rfl) (by simp) ?_
        refine AllReadyH.cons rfl (fun K hK => ?_) AllReadyH.nil
        refine step_append_lies _ rfl _ _ 22 rfl (w.heap.size + 1) 23 i0 (.float .f32 0) 1 4 Try.underlying22 hi hz0 hz1 hz2 rfl (by decide) _ k _ rfl (HGQ.out.2.2.2.2.2.2.1.alloc _) ⟨wr.heap.size, 0, none⟩ 1 1 [.float .f32 u] rfl rfl (one_newG _ _ _) (one_cellG _) (by decide) (by unfold maxLen; omega) (by omega) (by simp; have := HGQ.out.2.2.2.2.2.2.2.2.1; omega) _ rfl ?_
        intro g4 cap4 w4 hown hgrow0 hat hlt4
        have hgrow : (wr.alloc (.cells #[.float .f32 u] 23)).grownBy w4 v.ownBlock := ⟨hgrow0.os, hgrow0.tape, hgrow0.output, hgrow0.size, hgrow0.block⟩
        clear hgrow0
        have hb4 : Below W0.heap.size W0 w4 := (HGQ.out.2.2.2.2.2.2.2.1.alloc (Nat.le_trans (Nat.le_of_eq HZ.out) HGQ.out.2.2.2.2.2.2.2.2.1) _).grown hgrow (by simp; have := HGQ.out.2.2.2.2.2.2.2.2.1; have := HZ.out; omega) (fun j hj => Nat.le_trans (Nat.le_of_eq HZ.out) (HGQ.out.2.2.2.2.2.2.1.lt j hj).1)
        obtain ⟨hG4, hc4, hf4⟩ := HGQ.out.push hown hgrow hat
        have HG4 := Lib.hid hG4
        have HS4 := Lib.hid (HSW.out w4 hb4)
        clear hown hgrow hat hG4 hb4
        refine hK.out _ _ ?_ (fun hHeld => ?_)
        · exact HS4.out
        clear hK K
        (try simp only [Act.put]); (try simp only [List.setIfInBounds_toArray]); (try simp only [List.set_cons_succ]); (try simp only [List.set_cons_zero])
        refine wpAnyH_take (i := 26) (v := ?v24) rfl (by kernel_rfl) (by kernel_rfl) (by kernel_rfl) (fun _ _ _ h => h) (Or.inl ⟨by rfl, ?y24⟩) (by assumption) ?r24
        case y24 => (intro w hSw; (try dsimp only at hSw); go_simp; try (with_reducible rfl))
        (try simp only [Act.put]); (try simp only [List.setIfInBounds_toArray]); (try simp only [List.set_cons_succ]); (try simp only [List.set_cons_zero])
        refine wpAnyH_ready (rs := [27]) (by kernel_rfl) (by simp) ?_
        refine AllReadyH.cons rfl (fun K hK => ?_) AllReadyH.nil
        go_simp
        refine hK.out _ _ ?_ (fun hHeld => ?_)
        · exact HSW.out _ HG4.out.2.2.2.2.2.2.2.1
        clear hK K
        (try simp only [Act.put]); (try simp only [List.setIfInBounds_toArray]); (try simp only [List.set_cons_succ]); (try simp only [List.set_cons_zero])
        refine wpAnyH_done (by kernel_rfl) ?_ _
        go_wp2_with fail
        go_roundw
        case rel => exact ⟨k + 1, _, by omega, by go_num, by rw [← range_push, ← HU.out]; exact HG4.out⟩
        case measure => simp [intOf]; omega
      · go_simp
        refine hK.out _ _ ?_ (fun hHeld => ?_)
        · exact HSA.out _
        clear hK K
        (try simp only [Act.put]); (try simp only [List.setIfInBounds_toArray]); (try simp only [List.set_cons_succ]); (try simp only [List.set_cons_zero])
        refine wpAnyH_ready (rs := [1]) (by kernel_rfl) (by simp) ?_
        refine AllReadyH.cons rfl (fun K hK => ?_) AllReadyH.nil
        go_simp
        refine hK.out _ _ ?_ (fun hHeld => ?_)
        · exact HSA.out _
        clear hK K
        (try simp only [Act.put]); (try simp only [List.setIfInBounds_toArray]); (try simp only [List.set_cons_succ]); (try simp only [List.set_cons_zero])
        refine wpAnyH_ready (rs := [25]) (by kernel_rfl) (by simp) ?_
        refine AllReadyH.cons rfl (fun K hK => ?_) AllReadyH.nil
        refine step_append_lies _ rfl _ _ 22 rfl (w.heap.size + 1) 23 i0 (.float .f32 0) 1 4 Try.underlying22 hi hz0 hz1 hz2 rfl (by decide) _ k _ rfl (HGQ.out.2.2.2.2.2.2.1.alloc _) ⟨wr.heap.size, 0, none⟩ 1 1 [.float .f32 u] rfl rfl (one_newG _ _ _) (one_cellG _) (by decide) (by unfold maxLen; omega) (by omega) (by simp; have := HGQ.out.2.2.2.2.2.2.2.2.1; omega) _ rfl ?_
        intro g4 cap4 w4 hown hgrow0 hat hlt4
        have hgrow : (wr.alloc (.cells #[.float .f32 u] 23)).grownBy w4 v.ownBlock := ⟨hgrow0.os, hgrow0.tape, hgrow0.output, hgrow0.size, hgrow0.block⟩
        clear hgrow0
        have hb4 : Below W0.heap.size W0 w4 := (HGQ.out.2.2.2.2.2.2.2.1.alloc (Nat.le_trans (Nat.le_of_eq HZ.out) HGQ.out.2.2.2.2.2.2.2.2.1) _).grown hgrow (by simp; have := HGQ.out.2.2.2.2.2.2.2.2.1; have := HZ.out; omega) (fun j hj => Nat.le_trans (Nat.le_of_eq HZ.out) (HGQ.out.2.2.2.2.2.2.1.lt j hj).1)
        obtain ⟨hG4, hc4, hf4⟩ := HGQ.out.push hown hgrow hat
        have HG4 := Lib.hid hG4
        have HS4 := Lib.hid (HSW.out w4 hb4)
        clear hown hgrow hat hG4 hb4
        refine hK.out _ _ ?_ (fun hHeld => ?_)
        · exact HS4.out
        clear hK K
        (try simp only [Act.put]); (try simp only [List.setIfInBounds_toArray]); (try simp only [List.set_cons_succ]); (try simp only [List.set_cons_zero])
        refine wpAnyH_take (i := 26) (v := ?v25) rfl (by kernel_rfl) (by kernel_rfl) (by kernel_rfl) (fun _ _ _ h => h) (Or.inl ⟨by rfl, ?y25⟩) (by assumption) ?r25
        case y25 => (intro w hSw; (try dsimp only at hSw); go_simp; try (with_reducible rfl))
        (try simp only [Act.put]); (try simp only [List.setIfInBounds_toArray]); (try simp only [List.set_cons_succ]); (try simp only [List.set_cons_zero])
        refine wpAnyH_ready (rs := [27]) (by kernel_rfl) (by simp) ?_
        refine AllReadyH.cons rfl (fun K hK => ?_) AllReadyH.nil
        go_simp
        refine hK.out _ _ ?_ (fun hHeld => ?_)
        · exact HSW.out _ HG4.out.2.2.2.2.2.2.2.1
        clear hK K
        (try simp only [Act.put]); (try simp only [List.setIfInBounds_toArray]); (try simp only [List.set_cons_succ]); (try simp only [List.set_cons_zero])
        refine wpAnyH_done (by kernel_rfl) ?_ _
        go_wp2_with fail
        go_roundw
        case rel => exact ⟨k + 1, _, by omega, by go_num, by rw [← range_push, ← HU.out]; exact HG4.out⟩
        case measure => simp [intOf]; omega
    · obtain rfl : k = n := by omega
      obtain ⟨-, -, -, -, -, -, hrow, hbr, -⟩ := HG.out
      have d0 := (hbr.cell (p := ⟨w.heap.size, 0, none⟩) hlt2).trans r0
      have d1 := (hbr.cell (p := ⟨w.heap.size, 1, none⟩) hlt2).trans r1
      have d2 := (hbr.cell (p := ⟨w.heap.size, 2, none⟩) hlt2).trans r2
      have z0 := (hbr.frozen (p := ⟨w.heap.size, 0, none⟩) hlt2).trans e0
      have z1 := (hbr.frozen (p := ⟨w.heap.size, 1, none⟩) hlt2).trans e1
      have z2 := (hbr.frozen (p := ⟨w.heap.size, 2, none⟩) hlt2).trans e2
      have hb0 : Below w.heap.size w wr := HB0.out.trans (hbr.mono HB0.out.size)
      have hown := Lib.hid ((((row_own hrow).setLess (a := ⟨w.heap.size, 0, none⟩) (Nat.lt_succ_self _) (.int .i64 (W : Int))).setLess (a := ⟨w.heap.size, 1, none⟩) (Nat.lt_succ_self _) (.int .i64 (H : Int))).setLess (a := ⟨w.heap.size, 2, none⟩) (Nat.lt_succ_self _) v |>.less (lo' := w.heap.size) (Nat.le_succ _))
      have HB := Lib.hid (((hb0.setCell (p := ⟨w.heap.size, 0, none⟩) (Nat.le_refl _) (.int .i64 (W : Int))).setCell (p := ⟨w.heap.size, 1, none⟩) (Nat.le_refl _) (.int .i64 (H : Int))).setCell (p := ⟨w.heap.size, 2, none⟩) (Nat.le_refl _) v)
      rcases hrow.2 with ⟨rfl, -⟩ | ⟨gg, cap, cur, rfl, -⟩ <;> clear hrow hb0 hbr
      · go_wp2_with fail
        exact bodyPost_ret (v := .agg #[.int .i64 (W : Int), .int .i64 (H : Int), .slice none 0 0]) (by simp [results, Try.results132, go_sem, d0, d1, d2]) rfl ⟨_, rfl, by rw [HSL.out]; exact hown.out, HB.out⟩
      · go_wp2_with fail
        exact bodyPost_ret (v := .agg #[.int .i64 (W : Int), .int .i64 (H : Int), .slice (some ⟨gg, 0, none⟩) k cap]) (by simp [results, Try.results132, go_sem, d0, d1, d2]) rfl ⟨_, rfl, by rw [HSL.out]; exact hown.out, HB.out⟩
theorem cpS_any (g0 : Nat) (p q x y W H : Int) (b off c n : Nat) (xs : List Nat) (w : World) (hp : 1 ≤ p ∧ p ≤ 16) (hq : 1 ≤ q ∧ q ≤ 16) (hl : (xs.length : Int) = p * q) (hn : n = xs.length) (hx : 0 ≤ x ∧ x + W ≤ p) (hy : 0 ≤ y ∧ y + H ≤ q) (hW : 1 ≤ W) (hH : 1 ≤ H) (hg0 : g0 < w.heap.size) (hb : b < w.heap.size)
    (k0 : w.cell? ⟨g0, 0, none⟩ = some (.int .i64 p)) (k2 : w.cell? ⟨g0, 2, none⟩ = some (.slice (some ⟨b, off, none⟩) n c))
    (hcell : ∀ (i : Nat) (h : i < xs.length), w.cell? ⟨b, off + i, none⟩ = some (.float .f32 (xs.getD i 0))) :
    Calls Try.prog 132 #[.pointer (some ⟨g0, 0, none⟩), .int .i64 x, .int .i64 y, .int .i64 W, .int .i64 H] w (RetAg W H (crL p.toNat xs x.toNat y.toNat W.toNat H.toNat) w) := by
  subst hn
  obtain ⟨P, rfl⟩ : ∃ P : Nat, p = (P : Int) := ⟨p.toNat, by omega⟩
  obtain ⟨Q, rfl⟩ : ∃ P : Nat, q = (P : Int) := ⟨q.toNat, by omega⟩
  obtain ⟨X, rfl⟩ : ∃ P : Nat, x = (P : Int) := ⟨x.toNat, by omega⟩
  obtain ⟨Y, rfl⟩ : ∃ P : Nat, y = (P : Int) := ⟨y.toNat, by omega⟩
  obtain ⟨W, rfl⟩ : ∃ P : Nat, W = (P : Int) := ⟨W.toNat, by omega⟩
  obtain ⟨H, rfl⟩ : ∃ P : Nat, H = (P : Int) := ⟨H.toNat, by omega⟩
  simp only [Int.toNat_natCast]
  have hlN : xs.length = P * Q := by
    have : (xs.length : Int) = ((P * Q : Nat) : Int) := by rw [hl]; simp
    omega
  exact cpN_any g0 P Q X Y W H 0 b off c xs.length xs w (by omega) (by omega) hlN (by omega) (by omega) (by omega) (by omega) hg0 hb k0 k2 hcell
end Go.Proofs.Ytfbdmhkmkmbipaa
