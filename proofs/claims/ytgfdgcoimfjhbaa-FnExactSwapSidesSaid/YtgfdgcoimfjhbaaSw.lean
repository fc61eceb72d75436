/-
  Contracts: exchanged sides, by the model.
-/
import Derived.Test.YtgfdgcoimfjhbaaStK
import Derived.Deep.QuietTactic
import Derived.BigQuiet
import Derived.Deep.RegionHeld3
namespace Go.Proofs.Ytgfdgcoimfjhbaa
open Go.RowKit Fl
set_option linter.unusedVariables false

theorem row_low' {w : World} {lo n : Nat} {e : TypeId} {v : Value} {xs : List Value} (h : w.ownsRow lo e 1 v n xs) (lo' : Nat) (hl : lo' ≤ lo) : w.ownsRow lo' e 1 v n xs := by
  refine ⟨h.1, ?_⟩
  rcases h.2 with h2 | ⟨g, cap, cur, hv, hb, r⟩
  · exact .inl h2
  · exact .inr ⟨g, cap, cur, hv, by omega, r⟩
def SwRel (w0 : World) (lo g : Nat) (W H : Int) (n : Nat) (f : Nat → Nat) (i : Value) (wr : World) : Prop :=
  ∃ (k : Nat) (v : Value), k ≤ n ∧ i = .int .i64 k ∧ Gro w0 lo g W H k ((List.range k).map f) v wr
theorem gro_startA (p q : Int) (W : World) : Gro W W.heap.size (W.heap.size + 1) p q 0 [] (.slice (some ⟨W.heap.size, 0, none⟩) 0 0) ((W.alloc (.cells #[] 32)).alloc (.cells #[.int .i64 p, .int .i64 q, .slice (some ⟨W.heap.size, 0, none⟩) 0 0] 27)).drew := by
  refine ⟨by simp [go_sem], by simp [go_sem], by simp [go_sem], by simp [go_sem], by simp, by simp [Value.ownBlock], ?_, below_drawn (((Below.refl _ _).alloc (Nat.le_refl _) _).alloc (by simp) _) 1, by simp; try omega, by omega, Nat.le_refl _⟩
  have h := ((row_nil W).alloc (.cells #[.int .i64 p, .int .i64 q, .slice (some ⟨W.heap.size, 0, none⟩) 0 0] 27)).drew
  simpa using h
theorem gro_startB (p q : Int) (W : World) : Gro W W.heap.size W.heap.size p q 0 [] (.slice (some ⟨W.heap.size + 1, 0, none⟩) 0 0) ((W.alloc (.cells #[.int .i64 p, .int .i64 q, .slice (some ⟨W.heap.size + 1, 0, none⟩) 0 0] 27)).alloc (.cells #[] 32)).drew := by
  refine ⟨by simp [go_sem], by simp [go_sem], by simp [go_sem], by simp [go_sem], by simp; try omega, by simp [Value.ownBlock], ?_, below_drawn (((Below.refl _ _).alloc (Nat.le_refl _) _).alloc (by simp) _) 1, by simp; try omega, Nat.le_refl _, Nat.le_refl _⟩
  have h := (row_low' (row_nil (W.alloc (.cells #[.int .i64 p, .int .i64 q, .slice (some ⟨W.heap.size + 1, 0, none⟩) 0 0] 27))) W.heap.size (by simp)).drew
  simpa using h
/-- The light of the pixel x, y of a picture with exchanged sides. -/
def swF (P : Nat) (xs : List Nat) (x y : Nat) : Nat := xs.getD (x * P + y) 0
def swL (P Q : Nat) (xs : List Nat) : List Nat := (List.range (P * Q)).map fun i => swF P xs (i % Q) (i / Q)
set_option maxRecDepth 100000 in
set_option maxHeartbeats 8000000 in
theorem swL_any (g0 : Nat) (p q : Int) (xs : List Nat) (b off c : Nat) (w : World) (hp : 1 ≤ p ∧ p ≤ 16) (hq : 1 ≤ q ∧ q ≤ 16) (hl : (xs.length : Int) = p * q) (hg0 : g0 < w.heap.size) (hb : b < w.heap.size)
    (k0 : w.cell? ⟨g0, 0, none⟩ = some (.int .i64 p)) (k1 : w.cell? ⟨g0, 1, none⟩ = some (.int .i64 q)) (k2 : w.cell? ⟨g0, 2, none⟩ = some (.slice (some ⟨b, off, none⟩) xs.length c))
    (hx : ∀ (i : Nat) (h : i < xs.length), w.cell? ⟨b, off + i, none⟩ = some (.float .f32 xs[i])) :
    Calls Try.prog 74 #[.pointer (some ⟨g0, 0, none⟩)] w (RetAg q p (swL p.toNat q.toNat xs) w) := by
  obtain ⟨i0, hi, hz0, hz1, hz2⟩ := info_parts infoF
  have hbd := mul_bd hp hq
  have HX := Lib.hid hx
  clear hx
  obtain ⟨n, hne⟩ : ∃ n, n = xs.length := ⟨_, rfl⟩
  rw [← hne] at hl k2
  have hmul : p * q = (n : Int) := hl.symm
  obtain ⟨P, hP⟩ : ∃ P : Nat, p = (P : Int) := ⟨p.toNat, by omega⟩
  obtain ⟨Q, hQ⟩ : ∃ Q : Nat, q = (Q : Int) := ⟨q.toNat, by omega⟩
  have hnn : n = P * Q := by
    have : (n : Int) = ((P * Q : Nat) : Int) := by rw [← hmul, hP, hQ]; simp
    omega
  have hQp : 0 < Q := by omega
  have HIX := Lib.hid (fun (k : Nat) (hk : k < n) => (show ∃ m : Nat, ((k % q.toNat : Nat) : Int) * p = (m : Int) ∧ m + k / q.toNat < n from by
    refine ⟨k % Q * P, by rw [hQ, hP]; simp, ?_⟩
    rw [hQ, Int.toNat_natCast]
    have h1 : k % Q < Q := Nat.mod_lt _ hQp
    have h2 : k / Q < P := (Nat.div_lt_iff_lt_mul hQp).2 (by omega)
    have h3 : (k % Q + 1) * P ≤ Q * P := Nat.mul_le_mul_right _ h1
    rw [Nat.succ_mul] at h3
    rw [hnn, Nat.mul_comm P Q]; omega))
  have HXX := Lib.hid (fun (k m : Nat) (hm : ((k % q.toNat : Nat) : Int) * p = (m : Int)) (hmn : m + k / q.toNat < n) => (show w.cell? ⟨b, off + (m + k / q.toNat), none⟩ = some (.float .f32 (swF p.toNat xs (k % q.toNat) (k / q.toNat))) from by
    have e : m = k % q.toNat * p.toNat := by
      rw [hP] at hm ⊢
      rw [Int.toNat_natCast]
      have : ((k % q.toNat * P : Nat) : Int) = (m : Int) := by rw [← hm]; simp
      omega
    rw [HX.out (m + k / q.toNat) (by omega)]
    unfold swF
    rw [← e]
    simp [List.getD, show m + k / q.toNat < xs.length by omega]))
  have HRM := Lib.hid (fun k : Nat => (show (k : Int) % q = ((k % q.toNat : Nat) : Int) by rw [Int.natCast_emod, Int.toNat_of_nonneg (by omega)]))
  have HQU := Lib.hid (fun k : Nat => (show (k : Int) / q = ((k / q.toNat : Nat) : Int) by rw [Int.natCast_ediv, Int.toNat_of_nonneg (by omega)]))
  have HRB := Lib.hid (fun k : Nat => (show ((k % q.toNat : Nat) : Int) < q by rw [hQ, Int.toNat_natCast]; have := Nat.mod_lt k hQp; omega))
  have HN := Lib.hid hne
  have HSL := Lib.hid (show swL p.toNat q.toNat xs = (List.range n).map (fun i => swF p.toNat xs (i % q.toNat) (i / q.toNat)) by unfold swL; rw [hnn, hP, hQ]; rfl)
  clear hP hQ hnn hQp HX hne hl
  obtain ⟨W, hW⟩ : ∃ W, W = w.alloc (.cells #[.int .i64 0, .int .i64 0, .slice none 0 0] 27) := ⟨_, rfl⟩
  have hb0 : Below w.heap.size w W := by rw [hW]; exact (Below.refl _ _).alloc (Nat.le_refl _) _
  have hz : W.heap.size = w.heap.size + 1 := by rw [hW]; simp
  have r0 : W.cell? ⟨w.heap.size, 0, none⟩ = some (.int .i64 0) := by rw [hW]; simp [go_sem]
  have r1 : W.cell? ⟨w.heap.size, 1, none⟩ = some (.int .i64 0) := by rw [hW]; simp [go_sem]
  have r2 : W.cell? ⟨w.heap.size, 2, none⟩ = some (.slice none 0 0) := by rw [hW]; simp [go_sem]
  have e0 : W.frozen? ⟨w.heap.size, 0, none⟩ = false := by rw [hW]; simp [go_sem]
  have e1 : W.frozen? ⟨w.heap.size, 1, none⟩ = false := by rw [hW]; simp [go_sem]
  have e2 : W.frozen? ⟨w.heap.size, 2, none⟩ = false := by rw [hW]; simp [go_sem]
  have hgA : g0 < W.heap.size := by omega
  replace k0 := (hb0.cell (p := ⟨g0, 0, none⟩) hg0).trans k0
  replace k1 := (hb0.cell (p := ⟨g0, 1, none⟩) hg0).trans k1
  replace k2 := (hb0.cell (p := ⟨g0, 2, none⟩) hg0).trans k2
  have kA0 : ∀ o, (W.alloc o).cell? ⟨g0, 0, none⟩ = some (.int .i64 p) := fun o => (((Below.refl _ _).alloc (Nat.le_refl _) o).cell (p := ⟨g0, 0, none⟩) hgA).trans k0
  have kA1 : ∀ o, (W.alloc o).cell? ⟨g0, 1, none⟩ = some (.int .i64 q) := fun o => (((Below.refl _ _).alloc (Nat.le_refl _) o).cell (p := ⟨g0, 1, none⟩) hgA).trans k1
  have kB0 : ∀ o o', ((W.alloc o).alloc o').cell? ⟨g0, 0, none⟩ = some (.int .i64 p) := fun o o' => ((((Below.refl _ _).alloc (Nat.le_refl _) o).alloc (by simp) o').cell (p := ⟨g0, 0, none⟩) hgA).trans k0
  have kB1 : ∀ o o', ((W.alloc o).alloc o').cell? ⟨g0, 1, none⟩ = some (.int .i64 q) := fun o o' => ((((Below.refl _ _).alloc (Nat.le_refl _) o).alloc (by simp) o').cell (p := ⟨g0, 1, none⟩) hgA).trans k1
  replace HXX := Lib.hid (fun k m hm hmn => (hb0.cell (p := ⟨b, off + (m + k / q.toNat), none⟩) hb).trans (HXX.out k m hm hmn))
  have hbW : b < W.heap.size := by omega
  have hlt2 : w.heap.size < W.heap.size := by omega
  have HZ := Lib.hid hz
  have HB0 := Lib.hid hb0
  clear hb0 hz
  go_enter Try.func74, Try.ntmps74
  go_wp2_with fail
  rw [← hW]
  clear hW
  go_region
  · have hG0 := gro_startA q p W
    generalize ((W.alloc (.cells #[] 32)).alloc (.cells #[.int .i64 q, .int .i64 p, .slice (some ⟨W.heap.size, 0, none⟩) 0 0] 27)).drew = w2 at *
    go_wp2_with fail
    go_loopw [4] (SwRel W W.heap.size (W.heap.size + 1) q p n (fun i => swF p.toNat xs (i % q.toNat) (i / q.toNat))) (fun i _ => n - (intOf i).toNat)
    case atStart => exact ⟨0, _, Nat.zero_le _, rfl, hG0⟩
    case round =>
      clear hG0 kA0 kA1 kB0 kB1
      obtain ⟨k, v, hk, rfl, hG⟩ := hrel
      obtain ⟨g0_, g1_, g2_, gf_, gz_, gn_, gr_, gb_, _⟩ := id hG
      have HG := Lib.hid hG
      have HGB := Lib.hid gb_
      have q0 := (gb_.cell (p := ⟨g0, 0, none⟩) hgA).trans k0
      have q1 := (gb_.cell (p := ⟨g0, 1, none⟩) hgA).trans k1
      have q2 := (gb_.cell (p := ⟨g0, 2, none⟩) hgA).trans k2
      clear hG gr_ gb_ gn_
      by_cases hlt : k < n
      · obtain ⟨m, hm, hmn⟩ := HIX.out k hlt
        have hsrc0 := HXX.out k m hm hmn
        have hr0 := HRM.out k
        have hq0' := HQU.out k
        obtain ⟨u, hu⟩ : ∃ u, u = swF p.toNat xs (k % q.toNat) (k / q.toNat) := ⟨_, rfl⟩
        rw [← hu] at hsrc0
        have HU := Lib.hid (show u = (fun i => swF p.toNat xs (i % q.toNat) (i / q.toNat)) k from hu)
        clear hu
        generalize k % q.toNat = x at *
        generalize k / q.toNat = y at *
        obtain ⟨z, hz⟩ : ∃ z, z = m + y := ⟨_, rfl⟩
        have hsrcW : W.cell? ⟨b, off + z, none⟩ = some (.float .f32 u) := by rw [hz]; exact hsrc0
        have hsrc : wr.cell? ⟨b, off + z, none⟩ = some (.float .f32 u) := (HGB.out.cell (p := ⟨b, off + z, none⟩) hbW).trans hsrcW
        have HSW := Lib.hid (fun (w' : World) (hbw : Below W.heap.size W w') => (show w'.cell? ⟨g0, 0, none⟩ = some (.int .i64 p) ∧ w'.cell? ⟨g0, 1, none⟩ = some (.int .i64 q) ∧ w'.cell? ⟨g0, 2, none⟩ = some (.slice (some ⟨b, off, none⟩) n c) ∧ w'.cell? ⟨b, off + z, none⟩ = some (.float .f32 u) from ⟨(hbw.cell (p := ⟨g0, 0, none⟩) hgA).trans k0, (hbw.cell (p := ⟨g0, 1, none⟩) hgA).trans k1, (hbw.cell (p := ⟨g0, 2, none⟩) hgA).trans k2, (hbw.cell (p := ⟨b, off + z, none⟩) hbW).trans hsrcW⟩))
        have hqz : ¬ q = 0 := by omega
        have hrem : (k : Int).tmod q = (x : Int) := by rw [Int.tmod_eq_emod_of_nonneg (by omega)]; exact hr0
        have hquo : (k : Int).tdiv q = (y : Int) := by rw [Int.tdiv_eq_ediv_of_nonneg (by omega)]; exact hq0'
        have hmw : IntKind.i64.wrap ((x : Int) * p) = (m : Int) := by rw [hm]; exact IntWalk.i64_in _ (by omega)
        have hyw : IntKind.i64.wrap (y : Int) = (y : Int) := IntWalk.i64_in _ (by omega)
        have hsw : IntKind.i64.wrap ((m : Int) + (y : Int)) = (z : Int) := by rw [show (m : Int) + (y : Int) = (z : Int) by omega]; exact IntWalk.i64_in _ (by omega)
        have hzn : (z : Int) < (n : Int) := by omega
        have hzz : (0 : Int) ≤ (z : Int) := by omega
        clear hsrc0 hr0 hq0' hm hmn hz
        have hkn : (k : Int) < p * q := by rw [hmul]; omega
        have HGQ := Lib.hid (fun nq => HG.out.step (below_drawn (Below.refl wr.heap.size wr) nq))
        have hquo := HQU.out k
        have hrb := HRB.out k
        go_wp2_with fail
        go_quiet (fail)
        replace HGQ := Lib.hid (HGQ.out nq)
        replace hsrc : (wr.drewN nq).cell? _ = _ := hsrc
        replace q0 : (wr.drewN nq).cell? _ = _ := q0
        replace q1 : (wr.drewN nq).cell? _ = _ := q1
        replace q2 : (wr.drewN nq).cell? _ = _ := q2
        replace g2_ : (wr.drewN nq).cell? _ = _ := g2_
        generalize wr.drewN nq = wq at *
        go_wp2_with fail
        have HSA := Lib.hid (fun o => HSW.out (wq.alloc o) (HGQ.out.2.2.2.2.2.2.2.1.alloc HGQ.out.2.2.2.2.2.2.2.2.1 o))
        have hcA : ∀ o, (wq.alloc o).cell? ⟨W.heap.size + 1, 2, none⟩ = some v := fun o => (((Below.refl wq.heap.size wq).alloc (Nat.le_refl _) o).cell (p := ⟨W.heap.size + 1, 2, none⟩) HGQ.out.2.2.2.2.1).trans g2_
        refine wp_region_held_drew (S := (fun w' => w'.cell? ⟨g0, 0, none⟩ = some (.int .i64 p) ∧ w'.cell? ⟨g0, 1, none⟩ = some (.int .i64 q) ∧ w'.cell? ⟨g0, 2, none⟩ = some (.slice (some ⟨b, off, none⟩) n c) ∧ w'.cell? ⟨b, off + z, none⟩ = some (.float .f32 u))) (by kernel_rfl) ?_ (fun hHeld => ?_)
        · exact ⟨q0, q1, q2, hsrc⟩
        refine wpAnyH_take (i := 0) (v := ?v1) rfl (by kernel_rfl) (by kernel_rfl) (by kernel_rfl) (fun _ _ _ h => h) (Or.inl ⟨by rfl, ?y1⟩) (by assumption) ?r1
        case y1 => (intro w hSw; (try dsimp only at hSw); go_simp; try (with_reducible rfl))
        (try simp only [Act.put]); (try simp only [List.setIfInBounds_toArray]); (try simp only [List.set_cons_succ]); (try simp only [List.set_cons_zero])
        refine wpAnyH_take (i := 2) (v := ?v2) rfl (by kernel_rfl) (by kernel_rfl) (by kernel_rfl) (fun _ _ _ h => h) (Or.inl ⟨by rfl, ?y2⟩) (by assumption) ?r2
        case y2 => (intro w hSw; (try dsimp only at hSw); go_simp; try (with_reducible rfl))
        (try simp only [Act.put]); (try simp only [List.setIfInBounds_toArray]); (try simp only [List.set_cons_succ]); (try simp only [List.set_cons_zero])
        refine wpAnyH_take (i := 3) (v := ?v3) rfl (by kernel_rfl) (by kernel_rfl) (by kernel_rfl) (fun _ _ _ h => h) (Or.inl ⟨by rfl, ?y3⟩) (by assumption) ?r3
        case y3 => (intro w hSw; (try dsimp only at hSw); go_simp; try (with_reducible rfl))
        (try simp only [Act.put]); (try simp only [List.setIfInBounds_toArray]); (try simp only [List.set_cons_succ]); (try simp only [List.set_cons_zero])
        refine wpAnyH_take (i := 4) (v := ?v4) rfl (by kernel_rfl) (by kernel_rfl) (by kernel_rfl) (fun _ _ _ h => h) (Or.inl ⟨by rfl, ?y4⟩) (by assumption) ?r4
        case y4 => (intro w hSw; (try dsimp only at hSw); go_simp; try (with_reducible rfl))
        (try simp only [Act.put]); (try simp only [List.setIfInBounds_toArray]); (try simp only [List.set_cons_succ]); (try simp only [List.set_cons_zero])
        refine wpAnyH_take (i := 5) (v := ?v5) rfl (by kernel_rfl) (by kernel_rfl) (by kernel_rfl) (fun _ _ _ h => h) (Or.inl ⟨by rfl, ?y5⟩) (by assumption) ?r5
        case y5 => (intro w hSw; (try dsimp only at hSw); go_simp; try (with_reducible rfl))
        (try simp only [Act.put]); (try simp only [List.setIfInBounds_toArray]); (try simp only [List.set_cons_succ]); (try simp only [List.set_cons_zero])
        refine wpAnyH_take (i := 6) (v := ?v6) rfl (by kernel_rfl) (by kernel_rfl) (by kernel_rfl) (fun _ _ _ h => h) (Or.inl ⟨by rfl, ?y6⟩) (by assumption) ?r6
        case y6 => (intro w hSw; (try dsimp only at hSw); go_simp; try (with_reducible rfl))
        (try simp only [Act.put]); (try simp only [List.setIfInBounds_toArray]); (try simp only [List.set_cons_succ]); (try simp only [List.set_cons_zero])
        refine wpAnyH_take (i := 7) (v := ?v7) rfl (by kernel_rfl) (by kernel_rfl) (by kernel_rfl) (fun _ _ _ h => h) (Or.inl ⟨by rfl, ?y7⟩) (by assumption) ?r7
        case y7 => (intro w hSw; (try dsimp only at hSw); go_simp; try (with_reducible rfl))
        (try simp only [Act.put]); (try simp only [List.setIfInBounds_toArray]); (try simp only [List.set_cons_succ]); (try simp only [List.set_cons_zero])
        refine wpAnyH_take (i := 8) (v := ?v8) rfl (by kernel_rfl) (by kernel_rfl) (by kernel_rfl) (fun _ _ _ h => h) (Or.inl ⟨by rfl, ?y8⟩) (by assumption) ?r8
        case y8 => (intro w hSw; (try dsimp only at hSw); go_simp; try (with_reducible rfl))
        (try simp only [Act.put]); (try simp only [List.setIfInBounds_toArray]); (try simp only [List.set_cons_succ]); (try simp only [List.set_cons_zero])
        refine wpAnyH_take (i := 9) (v := ?v9) rfl (by kernel_rfl) (by kernel_rfl) (by kernel_rfl) (fun _ _ _ h => h) (Or.inl ⟨by rfl, ?y9⟩) (by assumption) ?r9
        case y9 => (intro w hSw; (try dsimp only at hSw); go_simp; try (with_reducible rfl))
        (try simp only [Act.put]); (try simp only [List.setIfInBounds_toArray]); (try simp only [List.set_cons_succ]); (try simp only [List.set_cons_zero])
        refine wpAnyH_take (i := 10) (v := ?v10) rfl (by kernel_rfl) (by kernel_rfl) (by kernel_rfl) (fun _ _ _ h => h) (Or.inl ⟨by rfl, ?y10⟩) (by assumption) ?r10
        case y10 => (intro w hSw; (try dsimp only at hSw); go_simp; try (with_reducible rfl))
        (try simp only [Act.put]); (try simp only [List.setIfInBounds_toArray]); (try simp only [List.set_cons_succ]); (try simp only [List.set_cons_zero])
        refine wpAnyH_take (i := 11) (v := ?v11) rfl (by kernel_rfl) (by kernel_rfl) (by kernel_rfl) (fun _ _ _ h => h) (Or.inl ⟨by rfl, ?y11⟩) (by assumption) ?r11
        case y11 => (intro w hSw; (try dsimp only at hSw); go_simp; try (with_reducible rfl))
        (try simp only [Act.put]); (try simp only [List.setIfInBounds_toArray]); (try simp only [List.set_cons_succ]); (try simp only [List.set_cons_zero])
        refine wpAnyH_take (i := 12) (v := ?v12) rfl (by kernel_rfl) (by kernel_rfl) (by kernel_rfl) (fun _ _ _ h => h) (Or.inl ⟨by rfl, ?y12⟩) (by assumption) ?r12
        case y12 => (intro w hSw; (try dsimp only at hSw); go_simp; try (with_reducible rfl))
        (try simp only [Act.put]); (try simp only [List.setIfInBounds_toArray]); (try simp only [List.set_cons_succ]); (try simp only [List.set_cons_zero])
        refine wpAnyH_take (i := 13) (v := ?v13) rfl (by kernel_rfl) (by kernel_rfl) (by kernel_rfl) (fun _ _ _ h => h) (Or.inl ⟨by rfl, ?y13⟩) (by assumption) ?r13
        case y13 => (intro w hSw; (try dsimp only at hSw); go_simp; try (with_reducible rfl))
        (try simp only [Act.put]); (try simp only [List.setIfInBounds_toArray]); (try simp only [List.set_cons_succ]); (try simp only [List.set_cons_zero])
        refine wpAnyH_take (i := 14) (v := ?v14) rfl (by kernel_rfl) (by kernel_rfl) (by kernel_rfl) (fun _ _ _ h => h) (Or.inl ⟨by rfl, ?y14⟩) (by assumption) ?r14
        case y14 => (intro w hSw; (try dsimp only at hSw); go_simp; try (with_reducible rfl))
        (try simp only [Act.put]); (try simp only [List.setIfInBounds_toArray]); (try simp only [List.set_cons_succ]); (try simp only [List.set_cons_zero])
        refine wpAnyH_take (i := 15) (v := ?v15) rfl (by kernel_rfl) (by kernel_rfl) (by kernel_rfl) (fun _ _ _ h => h) (Or.inl ⟨by rfl, ?y15⟩) (by assumption) ?r15
        case y15 => (intro w hSw; (try dsimp only at hSw); go_simp; try (with_reducible rfl))
        (try simp only [Act.put]); (try simp only [List.setIfInBounds_toArray]); (try simp only [List.set_cons_succ]); (try simp only [List.set_cons_zero])
        refine wpAnyH_take (i := 16) (v := ?v16) rfl (by kernel_rfl) (by kernel_rfl) (by kernel_rfl) (fun _ _ _ h => h) (Or.inl ⟨by rfl, ?y16⟩) (by assumption) ?r16
        case y16 => (intro w hSw; (try dsimp only at hSw); go_simp; try (with_reducible rfl))
        (try simp only [Act.put]); (try simp only [List.setIfInBounds_toArray]); (try simp only [List.set_cons_succ]); (try simp only [List.set_cons_zero])
        refine wpAnyH_take (i := 17) (v := ?v17) rfl (by kernel_rfl) (by kernel_rfl) (by kernel_rfl) (fun _ _ _ h => h) (Or.inl ⟨by rfl, ?y17⟩) (by assumption) ?r17
        case y17 => (intro w hSw; (try dsimp only at hSw); go_simp; try (with_reducible rfl))
        (try simp only [Act.put]); (try simp only [List.setIfInBounds_toArray]); (try simp only [List.set_cons_succ]); (try simp only [List.set_cons_zero])
        refine wpAnyH_take (i := 18) (v := ?v18) rfl (by kernel_rfl) (by kernel_rfl) (by kernel_rfl) (fun _ _ _ h => h) (Or.inl ⟨by rfl, ?y18⟩) (by assumption) ?r18
        case y18 => (intro w hSw; (try dsimp only at hSw); go_simp; try (with_reducible rfl))
        (try simp only [Act.put]); (try simp only [List.setIfInBounds_toArray]); (try simp only [List.set_cons_succ]); (try simp only [List.set_cons_zero])
        refine wpAnyH_take (i := 19) (v := ?v19) rfl (by kernel_rfl) (by kernel_rfl) (by kernel_rfl) (fun _ _ _ h => h) (Or.inl ⟨by rfl, ?y19⟩) (by assumption) ?r19
        case y19 => (intro w hSw; (try dsimp only at hSw); go_simp; try (with_reducible rfl))
        (try simp only [Act.put]); (try simp only [List.setIfInBounds_toArray]); (try simp only [List.set_cons_succ]); (try simp only [List.set_cons_zero])
        refine wpAnyH_take (i := 20) (v := ?v20) rfl (by kernel_rfl) (by kernel_rfl) (by kernel_rfl) (fun _ _ _ h => h) (Or.inl ⟨by rfl, ?y20⟩) (by assumption) ?r20
        case y20 => (intro w hSw; (try dsimp only at hSw); go_simp; try (with_reducible rfl))
        (try simp only [Act.put]); (try simp only [List.setIfInBounds_toArray]); (try simp only [List.set_cons_succ]); (try simp only [List.set_cons_zero])
        refine wpAnyH_take (i := 21) (v := ?v21) rfl (by kernel_rfl) (by kernel_rfl) (by kernel_rfl) (fun _ _ _ h => h) (Or.inl ⟨by rfl, ?y21⟩) (by assumption) ?r21
        case y21 => (intro w hSw; (try dsimp only at hSw); go_simp; try (with_reducible rfl))
        (try simp only [Act.put]); (try simp only [List.setIfInBounds_toArray]); (try simp only [List.set_cons_succ]); (try simp only [List.set_cons_zero])
        refine wpAnyH_take (i := 22) (v := ?v22) rfl (by kernel_rfl) (by kernel_rfl) (by kernel_rfl) (fun _ _ _ h => h) (Or.inl ⟨by rfl, ?y22⟩) (by assumption) ?r22
        case y22 => (intro w hSw; (try dsimp only at hSw); go_simp; try (with_reducible rfl))
        (try simp only [Act.put]); (try simp only [List.setIfInBounds_toArray]); (try simp only [List.set_cons_succ]); (try simp only [List.set_cons_zero])
        refine wpAnyH_take (i := 23) (v := ?v23) rfl (by kernel_rfl) (by kernel_rfl) (by kernel_rfl) (fun _ _ _ h => h) (Or.inl ⟨by rfl, ?y23⟩) (by assumption) ?r23
        case y23 => (intro w hSw; (try dsimp only at hSw); go_simp; try (with_reducible rfl))
        (try simp only [Act.put]); (try simp only [List.setIfInBounds_toArray]); (try simp only [List.set_cons_succ]); (try simp only [List.set_cons_zero])
        refine wpAnyH_take (i := 24) (v := ?v24) rfl (by kernel_rfl) (by kernel_rfl) (by kernel_rfl) (fun _ _ _ h => h) (Or.inl ⟨by rfl, ?y24⟩) (by assumption) ?r24
        case y24 => (intro w hSw; (try dsimp only at hSw); go_simp; try (with_reducible rfl))
        (try simp only [Act.put]); (try simp only [List.setIfInBounds_toArray]); (try simp only [List.set_cons_succ]); (try simp only [List.set_cons_zero])
        refine wpAnyH_take (i := 25) (v := ?v25) rfl (by kernel_rfl) (by kernel_rfl) (by kernel_rfl) (fun _ _ _ h => h) (Or.inl ⟨by rfl, ?y25⟩) (by assumption) ?r25
        case y25 => (intro w hSw; (try dsimp only at hSw); go_simp; try (with_reducible rfl))
        (try simp only [Act.put]); (try simp only [List.setIfInBounds_toArray]); (try simp only [List.set_cons_succ]); (try simp only [List.set_cons_zero])
        refine wpAnyH_ready (rs := [1, 26]) (by kernel_rfl) (by simp) ?_
        refine AllReadyH.cons rfl (fun K hK => ?_) (AllReadyH.cons rfl (fun K hK => ?_) AllReadyH.nil)
        · go_simp
          refine hK.out _ _ ?_ (fun hHeld => ?_)
          · exact ⟨q0, q1, q2, hsrc⟩
          clear hK K
          (try simp only [Act.put]); (try simp only [List.setIfInBounds_toArray]); (try simp only [List.set_cons_succ]); (try simp only [List.set_cons_zero])
          refine wpAnyH_ready (rs := [26]) (by kernel_rfl) (by simp) ?_
          refine AllReadyH.cons rfl (fun K hK => ?_) AllReadyH.nil
          go_simp
          refine hK.out _ _ ?_ (fun hHeld => ?_)
          · exact HSA.out _
          clear hK K
          (try simp only [Act.put]); (try simp only [List.setIfInBounds_toArray]); (try simp only [List.set_cons_succ]); (try simp only [List.set_cons_zero])
          refine wpAnyH_ready (rs := [27]) (by kernel_rfl) (by simp) ?_
          refine AllReadyH.cons rfl (fun K hK => ?_) AllReadyH.nil
          refine step_append_lies _ rfl _ _ 22 rfl W.heap.size 32 i0 (.float .f32 0) 1 4 Try.underlying22 hi hz0 hz1 hz2 rfl (by decide) _ k _ rfl (HGQ.out.2.2.2.2.2.2.1.alloc _) ⟨wq.heap.size, 0, none⟩ 1 1 [.float .f32 u] rfl rfl (one_newG _ _ _) (one_cellG _) (by decide) (by unfold maxLen; omega) (by omega) (by simp; have := HGQ.out.2.2.2.2.2.2.2.2.1; omega) _ rfl ?_
          intro g4 cap4 w4 hown hgrow0 hat hlt4
          have hgrow : (wq.alloc (.cells #[.float .f32 u] 32)).grownBy w4 v.ownBlock := ⟨hgrow0.os, hgrow0.tape, hgrow0.output, hgrow0.size, hgrow0.block⟩
          clear hgrow0
          have hb4 : Below W.heap.size W w4 := (HGQ.out.2.2.2.2.2.2.2.1.alloc HGQ.out.2.2.2.2.2.2.2.2.1 _).grown hgrow (by simp; have := HGQ.out.2.2.2.2.2.2.2.2.1; omega) (fun j hj => (HGQ.out.2.2.2.2.2.2.1.lt j hj).1)
          obtain ⟨hG4, hc4, hf4⟩ := HGQ.out.push hown hgrow hat
          have HG4 := Lib.hid hG4
          have HS4 := Lib.hid (HSW.out w4 hb4)
          clear hown hgrow hat hG4 hb4
          refine hK.out _ _ ?_ (fun hHeld => ?_)
          · exact HS4.out
          clear hK K
          (try simp only [Act.put]); (try simp only [List.setIfInBounds_toArray]); (try simp only [List.set_cons_succ]); (try simp only [List.set_cons_zero])
          refine wpAnyH_take (i := 28) (v := ?v26) rfl (by kernel_rfl) (by kernel_rfl) (by kernel_rfl) (fun _ _ _ h => h) (Or.inl ⟨by rfl, ?y26⟩) (by assumption) ?r26
          case y26 => (intro w hSw; (try dsimp only at hSw); go_simp; try (with_reducible rfl))
          (try simp only [Act.put]); (try simp only [List.setIfInBounds_toArray]); (try simp only [List.set_cons_succ]); (try simp only [List.set_cons_zero])
          refine wpAnyH_ready (rs := [29]) (by kernel_rfl) (by simp) ?_
          refine AllReadyH.cons rfl (fun K hK => ?_) AllReadyH.nil
          go_simp
          refine hK.out _ _ ?_ (fun hHeld => ?_)
          · exact HSW.out _ HG4.out.2.2.2.2.2.2.2.1
          clear hK K
          (try simp only [Act.put]); (try simp only [List.setIfInBounds_toArray]); (try simp only [List.set_cons_succ]); (try simp only [List.set_cons_zero])
          refine wpAnyH_done (by kernel_rfl) ?_ _
          go_wp2_with fail
          go_roundw
          case rel => exact ⟨k + 1, _, by omega, by go_num, by rw [← range_push, ← HU.out]; exact HG4.out⟩
          case measure => simp [intOf]; omega
        · go_simp
          refine hK.out _ _ ?_ (fun hHeld => ?_)
          · exact HSA.out _
          clear hK K
          (try simp only [Act.put]); (try simp only [List.setIfInBounds_toArray]); (try simp only [List.set_cons_succ]); (try simp only [List.set_cons_zero])
          refine wpAnyH_ready (rs := [1]) (by kernel_rfl) (by simp) ?_
          refine AllReadyH.cons rfl (fun K hK => ?_) AllReadyH.nil
          go_simp
          refine hK.out _ _ ?_ (fun hHeld => ?_)
          · exact HSA.out _
          clear hK K
          (try simp only [Act.put]); (try simp only [List.setIfInBounds_toArray]); (try simp only [List.set_cons_succ]); (try simp only [List.set_cons_zero])
          refine wpAnyH_ready (rs := [27]) (by kernel_rfl) (by simp) ?_
          refine AllReadyH.cons rfl (fun K hK => ?_) AllReadyH.nil
          refine step_append_lies _ rfl _ _ 22 rfl W.heap.size 32 i0 (.float .f32 0) 1 4 Try.underlying22 hi hz0 hz1 hz2 rfl (by decide) _ k _ rfl (HGQ.out.2.2.2.2.2.2.1.alloc _) ⟨wq.heap.size, 0, none⟩ 1 1 [.float .f32 u] rfl rfl (one_newG _ _ _) (one_cellG _) (by decide) (by unfold maxLen; omega) (by omega) (by simp; have := HGQ.out.2.2.2.2.2.2.2.2.1; omega) _ rfl ?_
          intro g4 cap4 w4 hown hgrow0 hat hlt4
          have hgrow : (wq.alloc (.cells #[.float .f32 u] 32)).grownBy w4 v.ownBlock := ⟨hgrow0.os, hgrow0.tape, hgrow0.output, hgrow0.size, hgrow0.block⟩
          clear hgrow0
          have hb4 : Below W.heap.size W w4 := (HGQ.out.2.2.2.2.2.2.2.1.alloc HGQ.out.2.2.2.2.2.2.2.2.1 _).grown hgrow (by simp; have := HGQ.out.2.2.2.2.2.2.2.2.1; omega) (fun j hj => (HGQ.out.2.2.2.2.2.2.1.lt j hj).1)
          obtain ⟨hG4, hc4, hf4⟩ := HGQ.out.push hown hgrow hat
          have HG4 := Lib.hid hG4
          have HS4 := Lib.hid (HSW.out w4 hb4)
          clear hown hgrow hat hG4 hb4
          refine hK.out _ _ ?_ (fun hHeld => ?_)
          · exact HS4.out
          clear hK K
          (try simp only [Act.put]); (try simp only [List.setIfInBounds_toArray]); (try simp only [List.set_cons_succ]); (try simp only [List.set_cons_zero])
          refine wpAnyH_take (i := 28) (v := ?v27) rfl (by kernel_rfl) (by kernel_rfl) (by kernel_rfl) (fun _ _ _ h => h) (Or.inl ⟨by rfl, ?y27⟩) (by assumption) ?r27
          case y27 => (intro w hSw; (try dsimp only at hSw); go_simp; try (with_reducible rfl))
          (try simp only [Act.put]); (try simp only [List.setIfInBounds_toArray]); (try simp only [List.set_cons_succ]); (try simp only [List.set_cons_zero])
          refine wpAnyH_ready (rs := [29]) (by kernel_rfl) (by simp) ?_
          refine AllReadyH.cons rfl (fun K hK => ?_) AllReadyH.nil
          go_simp
          refine hK.out _ _ ?_ (fun hHeld => ?_)
          · exact HSW.out _ HG4.out.2.2.2.2.2.2.2.1
          clear hK K
          (try simp only [Act.put]); (try simp only [List.setIfInBounds_toArray]); (try simp only [List.set_cons_succ]); (try simp only [List.set_cons_zero])
          refine wpAnyH_done (by kernel_rfl) ?_ _
          go_wp2_with fail
          go_roundw
          case rel => exact ⟨k + 1, _, by omega, by go_num, by rw [← range_push, ← HU.out]; exact HG4.out⟩
          case measure => simp [intOf]; omega
      · obtain rfl : k = n := by omega
        have hkn : p * q ≤ (k : Int) := by rw [hmul]; omega
        obtain ⟨-, -, -, -, -, -, hrow, hbr, -⟩ := HG.out
        have d0 := (hbr.cell (p := ⟨w.heap.size, 0, none⟩) hlt2).trans r0
        have d1 := (hbr.cell (p := ⟨w.heap.size, 1, none⟩) hlt2).trans r1
        have d2 := (hbr.cell (p := ⟨w.heap.size, 2, none⟩) hlt2).trans r2
        have z0 := (hbr.frozen (p := ⟨w.heap.size, 0, none⟩) hlt2).trans e0
        have z1 := (hbr.frozen (p := ⟨w.heap.size, 1, none⟩) hlt2).trans e1
        have z2 := (hbr.frozen (p := ⟨w.heap.size, 2, none⟩) hlt2).trans e2
        have HBR := Lib.hid (show Below w.heap.size w wr from HB0.out.trans (hbr.mono HB0.out.size))
        have HROW := Lib.hid hrow
        clear hbr
        go_wp2_with fail
        go_quiet (fail)
        have hown0 := (((row_own (w := wr.drewN nq) HROW.out).setLess (a := ⟨w.heap.size, 0, none⟩) hlt2 (.int .i64 q)).setLess (a := ⟨w.heap.size, 1, none⟩) hlt2 (.int .i64 p)).setLess (a := ⟨w.heap.size, 2, none⟩) hlt2 v |>.less (lo' := w.heap.size) HB0.out.size
        have hb0 : Below w.heap.size w (wr.drewN nq) := below_drawn HBR.out nq
        replace d0 : (wr.drewN nq).cell? _ = _ := d0
        replace d1 : (wr.drewN nq).cell? _ = _ := d1
        replace d2 : (wr.drewN nq).cell? _ = _ := d2
        replace z0 : (wr.drewN nq).frozen? _ = _ := z0
        replace z1 : (wr.drewN nq).frozen? _ = _ := z1
        replace z2 : (wr.drewN nq).frozen? _ = _ := z2
        replace g0_ : (wr.drewN nq).cell? _ = _ := g0_
        replace g1_ : (wr.drewN nq).cell? _ = _ := g1_
        replace g2_ : (wr.drewN nq).cell? _ = _ := g2_
        generalize wr.drewN nq = wq at *
        have hown := Lib.hid hown0
        have HB := Lib.hid (((hb0.setCell (p := ⟨w.heap.size, 0, none⟩) (Nat.le_refl _) (.int .i64 q)).setCell (p := ⟨w.heap.size, 1, none⟩) (Nat.le_refl _) (.int .i64 p)).setCell (p := ⟨w.heap.size, 2, none⟩) (Nat.le_refl _) v)
        clear hown0
        rcases hrow.2 with ⟨rfl, -⟩ | ⟨gg, cap, cur, rfl, -⟩ <;> clear hrow hb0
        · go_wp2_with fail
          exact bodyPost_ret (v := .agg #[.int .i64 q, .int .i64 p, .slice none 0 0]) (by simp [results, Try.results74, go_sem, d0, d1, d2]) rfl ⟨_, rfl, by rw [HSL.out]; exact hown.out, HB.out⟩
        · go_wp2_with fail
          exact bodyPost_ret (v := .agg #[.int .i64 q, .int .i64 p, .slice (some ⟨gg, 0, none⟩) k cap]) (by simp [results, Try.results74, go_sem, d0, d1, d2]) rfl ⟨_, rfl, by rw [HSL.out]; exact hown.out, HB.out⟩
  · have hG0 := gro_startB q p W
    generalize ((W.alloc (.cells #[.int .i64 q, .int .i64 p, .slice (some ⟨W.heap.size + 1, 0, none⟩) 0 0] 27)).alloc (.cells #[] 32)).drew = w2 at *
    go_wp2_with fail
    go_loopw [4] (SwRel W W.heap.size W.heap.size q p n (fun i => swF p.toNat xs (i % q.toNat) (i / q.toNat))) (fun i _ => n - (intOf i).toNat)
    case atStart => exact ⟨0, _, Nat.zero_le _, rfl, hG0⟩
    case round =>
      clear hG0 kA0 kA1 kB0 kB1
      obtain ⟨k, v, hk, rfl, hG⟩ := hrel
      obtain ⟨g0_, g1_, g2_, gf_, gz_, gn_, gr_, gb_, _⟩ := id hG
      have HG := Lib.hid hG
      have HGB := Lib.hid gb_
      have q0 := (gb_.cell (p := ⟨g0, 0, none⟩) hgA).trans k0
      have q1 := (gb_.cell (p := ⟨g0, 1, none⟩) hgA).trans k1
      have q2 := (gb_.cell (p := ⟨g0, 2, none⟩) hgA).trans k2
      clear hG gr_ gb_ gn_
      by_cases hlt : k < n
      · obtain ⟨m, hm, hmn⟩ := HIX.out k hlt
        have hsrc0 := HXX.out k m hm hmn
        have hr0 := HRM.out k
        have hq0' := HQU.out k
        obtain ⟨u, hu⟩ : ∃ u, u = swF p.toNat xs (k % q.toNat) (k / q.toNat) := ⟨_, rfl⟩
        rw [← hu] at hsrc0
        have HU := Lib.hid (show u = (fun i => swF p.toNat xs (i % q.toNat) (i / q.toNat)) k from hu)
        clear hu
        generalize k % q.toNat = x at *
        generalize k / q.toNat = y at *
        obtain ⟨z, hz⟩ : ∃ z, z = m + y := ⟨_, rfl⟩
        have hsrcW : W.cell? ⟨b, off + z, none⟩ = some (.float .f32 u) := by rw [hz]; exact hsrc0
        have hsrc : wr.cell? ⟨b, off + z, none⟩ = some (.float .f32 u) := (HGB.out.cell (p := ⟨b, off + z, none⟩) hbW).trans hsrcW
        have HSW := Lib.hid (fun (w' : World) (hbw : Below W.heap.size W w') => (show w'.cell? ⟨g0, 0, none⟩ = some (.int .i64 p) ∧ w'.cell? ⟨g0, 1, none⟩ = some (.int .i64 q) ∧ w'.cell? ⟨g0, 2, none⟩ = some (.slice (some ⟨b, off, none⟩) n c) ∧ w'.cell? ⟨b, off + z, none⟩ = some (.float .f32 u) from ⟨(hbw.cell (p := ⟨g0, 0, none⟩) hgA).trans k0, (hbw.cell (p := ⟨g0, 1, none⟩) hgA).trans k1, (hbw.cell (p := ⟨g0, 2, none⟩) hgA).trans k2, (hbw.cell (p := ⟨b, off + z, none⟩) hbW).trans hsrcW⟩))
        have hqz : ¬ q = 0 := by omega
        have hrem : (k : Int).tmod q = (x : Int) := by rw [Int.tmod_eq_emod_of_nonneg (by omega)]; exact hr0
        have hquo : (k : Int).tdiv q = (y : Int) := by rw [Int.tdiv_eq_ediv_of_nonneg (by omega)]; exact hq0'
        have hmw : IntKind.i64.wrap ((x : Int) * p) = (m : Int) := by rw [hm]; exact IntWalk.i64_in _ (by omega)
        have hyw : IntKind.i64.wrap (y : Int) = (y : Int) := IntWalk.i64_in _ (by omega)
        have hsw : IntKind.i64.wrap ((m : Int) + (y : Int)) = (z : Int) := by rw [show (m : Int) + (y : Int) = (z : Int) by omega]; exact IntWalk.i64_in _ (by omega)
        have hzn : (z : Int) < (n : Int) := by omega
        have hzz : (0 : Int) ≤ (z : Int) := by omega
        clear hsrc0 hr0 hq0' hm hmn hz
        have hkn : (k : Int) < p * q := by rw [hmul]; omega
        have HGQ := Lib.hid (fun nq => HG.out.step (below_drawn (Below.refl wr.heap.size wr) nq))
        have hquo := HQU.out k
        have hrb := HRB.out k
        go_wp2_with fail
        go_quiet (fail)
        replace HGQ := Lib.hid (HGQ.out nq)
        replace hsrc : (wr.drewN nq).cell? _ = _ := hsrc
        replace q0 : (wr.drewN nq).cell? _ = _ := q0
        replace q1 : (wr.drewN nq).cell? _ = _ := q1
        replace q2 : (wr.drewN nq).cell? _ = _ := q2
        replace g2_ : (wr.drewN nq).cell? _ = _ := g2_
        generalize wr.drewN nq = wq at *
        go_wp2_with fail
        have HSA := Lib.hid (fun o => HSW.out (wq.alloc o) (HGQ.out.2.2.2.2.2.2.2.1.alloc HGQ.out.2.2.2.2.2.2.2.2.1 o))
        have hcA : ∀ o, (wq.alloc o).cell? ⟨W.heap.size, 2, none⟩ = some v := fun o => (((Below.refl wq.heap.size wq).alloc (Nat.le_refl _) o).cell (p := ⟨W.heap.size, 2, none⟩) HGQ.out.2.2.2.2.1).trans g2_
        refine wp_region_held_drew (S := (fun w' => w'.cell? ⟨g0, 0, none⟩ = some (.int .i64 p) ∧ w'.cell? ⟨g0, 1, none⟩ = some (.int .i64 q) ∧ w'.cell? ⟨g0, 2, none⟩ = some (.slice (some ⟨b, off, none⟩) n c) ∧ w'.cell? ⟨b, off + z, none⟩ = some (.float .f32 u))) (by kernel_rfl) ?_ (fun hHeld => ?_)
        · exact ⟨q0, q1, q2, hsrc⟩
        refine wpAnyH_take (i := 0) (v := ?v28) rfl (by kernel_rfl) (by kernel_rfl) (by kernel_rfl) (fun _ _ _ h => h) (Or.inl ⟨by rfl, ?y28⟩) (by assumption) ?r28
        case y28 => (intro w hSw; (try dsimp only at hSw); go_simp; try (with_reducible rfl))
        (try simp only [Act.put]); (try simp only [List.setIfInBounds_toArray]); (try simp only [List.set_cons_succ]); (try simp only [List.set_cons_zero])
        refine wpAnyH_take (i := 2) (v := ?v29) rfl (by kernel_rfl) (by kernel_rfl) (by kernel_rfl) (fun _ _ _ h => h) (Or.inl ⟨by rfl, ?y29⟩) (by assumption) ?r29
        case y29 => (intro w hSw; (try dsimp only at hSw); go_simp; try (with_reducible rfl))
        (try simp only [Act.put]); (try simp only [List.setIfInBounds_toArray]); (try simp only [List.set_cons_succ]); (try simp only [List.set_cons_zero])
        refine wpAnyH_take (i := 3) (v := ?v30) rfl (by kernel_rfl) (by kernel_rfl) (by kernel_rfl) (fun _ _ _ h => h) (Or.inl ⟨by rfl, ?y30⟩) (by assumption) ?r30
        case y30 => (intro w hSw; (try dsimp only at hSw); go_simp; try (with_reducible rfl))
        (try simp only [Act.put]); (try simp only [List.setIfInBounds_toArray]); (try simp only [List.set_cons_succ]); (try simp only [List.set_cons_zero])
        refine wpAnyH_take (i := 4) (v := ?v31) rfl (by kernel_rfl) (by kernel_rfl) (by kernel_rfl) (fun _ _ _ h => h) (Or.inl ⟨by rfl, ?y31⟩) (by assumption) ?r31
        case y31 => (intro w hSw; (try dsimp only at hSw); go_simp; try (with_reducible rfl))
        (try simp only [Act.put]); (try simp only [List.setIfInBounds_toArray]); (try simp only [List.set_cons_succ]); (try simp only [List.set_cons_zero])
        refine wpAnyH_take (i := 5) (v := ?v32) rfl (by kernel_rfl) (by kernel_rfl) (by kernel_rfl) (fun _ _ _ h => h) (Or.inl ⟨by rfl, ?y32⟩) (by assumption) ?r32
        case y32 => (intro w hSw; (try dsimp only at hSw); go_simp; try (with_reducible rfl))
        (try simp only [Act.put]); (try simp only [List.setIfInBounds_toArray]); (try simp only [List.set_cons_succ]); (try simp only [List.set_cons_zero])
        refine wpAnyH_take (i := 6) (v := ?v33) rfl (by kernel_rfl) (by kernel_rfl) (by kernel_rfl) (fun _ _ _ h => h) (Or.inl ⟨by rfl, ?y33⟩) (by assumption) ?r33
        case y33 => (intro w hSw; (try dsimp only at hSw); go_simp; try (with_reducible rfl))
        (try simp only [Act.put]); (try simp only [List.setIfInBounds_toArray]); (try simp only [List.set_cons_succ]); (try simp only [List.set_cons_zero])
        refine wpAnyH_take (i := 7) (v := ?v34) rfl (by kernel_rfl) (by kernel_rfl) (by kernel_rfl) (fun _ _ _ h => h) (Or.inl ⟨by rfl, ?y34⟩) (by assumption) ?r34
        case y34 => (intro w hSw; (try dsimp only at hSw); go_simp; try (with_reducible rfl))
        (try simp only [Act.put]); (try simp only [List.setIfInBounds_toArray]); (try simp only [List.set_cons_succ]); (try simp only [List.set_cons_zero])
        refine wpAnyH_take (i := 8) (v := ?v35) rfl (by kernel_rfl) (by kernel_rfl) (by kernel_rfl) (fun _ _ _ h => h) (Or.inl ⟨by rfl, ?y35⟩) (by assumption) ?r35
        case y35 => (intro w hSw; (try dsimp only at hSw); go_simp; try (with_reducible rfl))
        (try simp only [Act.put]); (try simp only [List.setIfInBounds_toArray]); (try simp only [List.set_cons_succ]); (try simp only [List.set_cons_zero])
        refine wpAnyH_take (i := 9) (v := ?v36) rfl (by kernel_rfl) (by kernel_rfl) (by kernel_rfl) (fun _ _ _ h => h) (Or.inl ⟨by rfl, ?y36⟩) (by assumption) ?r36
        case y36 => (intro w hSw; (try dsimp only at hSw); go_simp; try (with_reducible rfl))
        (try simp only [Act.put]); (try simp only [List.setIfInBounds_toArray]); (try simp only [List.set_cons_succ]); (try simp only [List.set_cons_zero])
        refine wpAnyH_take (i := 10) (v := ?v37) rfl (by kernel_rfl) (by kernel_rfl) (by kernel_rfl) (fun _ _ _ h => h) (Or.inl ⟨by rfl, ?y37⟩) (by assumption) ?r37
        case y37 => (intro w hSw; (try dsimp only at hSw); go_simp; try (with_reducible rfl))
        (try simp only [Act.put]); (try simp only [List.setIfInBounds_toArray]); (try simp only [List.set_cons_succ]); (try simp only [List.set_cons_zero])
        refine wpAnyH_take (i := 11) (v := ?v38) rfl (by kernel_rfl) (by kernel_rfl) (by kernel_rfl) (fun _ _ _ h => h) (Or.inl ⟨by rfl, ?y38⟩) (by assumption) ?r38
        case y38 => (intro w hSw; (try dsimp only at hSw); go_simp; try (with_reducible rfl))
        (try simp only [Act.put]); (try simp only [List.setIfInBounds_toArray]); (try simp only [List.set_cons_succ]); (try simp only [List.set_cons_zero])
        refine wpAnyH_take (i := 12) (v := ?v39) rfl (by kernel_rfl) (by kernel_rfl) (by kernel_rfl) (fun _ _ _ h => h) (Or.inl ⟨by rfl, ?y39⟩) (by assumption) ?r39
        case y39 => (intro w hSw; (try dsimp only at hSw); go_simp; try (with_reducible rfl))
        (try simp only [Act.put]); (try simp only [List.setIfInBounds_toArray]); (try simp only [List.set_cons_succ]); (try simp only [List.set_cons_zero])
        refine wpAnyH_take (i := 13) (v := ?v40) rfl (by kernel_rfl) (by kernel_rfl) (by kernel_rfl) (fun _ _ _ h => h) (Or.inl ⟨by rfl, ?y40⟩) (by assumption) ?r40
        case y40 => (intro w hSw; (try dsimp only at hSw); go_simp; try (with_reducible rfl))
        (try simp only [Act.put]); (try simp only [List.setIfInBounds_toArray]); (try simp only [List.set_cons_succ]); (try simp only [List.set_cons_zero])
        refine wpAnyH_take (i := 14) (v := ?v41) rfl (by kernel_rfl) (by kernel_rfl) (by kernel_rfl) (fun _ _ _ h => h) (Or.inl ⟨by rfl, ?y41⟩) (by assumption) ?r41
        case y41 => (intro w hSw; (try dsimp only at hSw); go_simp; try (with_reducible rfl))
        (try simp only [Act.put]); (try simp only [List.setIfInBounds_toArray]); (try simp only [List.set_cons_succ]); (try simp only [List.set_cons_zero])
        refine wpAnyH_take (i := 15) (v := ?v42) rfl (by kernel_rfl) (by kernel_rfl) (by kernel_rfl) (fun _ _ _ h => h) (Or.inl ⟨by rfl, ?y42⟩) (by assumption) ?r42
        case y42 => (intro w hSw; (try dsimp only at hSw); go_simp; try (with_reducible rfl))
        (try simp only [Act.put]); (try simp only [List.setIfInBounds_toArray]); (try simp only [List.set_cons_succ]); (try simp only [List.set_cons_zero])
        refine wpAnyH_take (i := 16) (v := ?v43) rfl (by kernel_rfl) (by kernel_rfl) (by kernel_rfl) (fun _ _ _ h => h) (Or.inl ⟨by rfl, ?y43⟩) (by assumption) ?r43
        case y43 => (intro w hSw; (try dsimp only at hSw); go_simp; try (with_reducible rfl))
        (try simp only [Act.put]); (try simp only [List.setIfInBounds_toArray]); (try simp only [List.set_cons_succ]); (try simp only [List.set_cons_zero])
        refine wpAnyH_take (i := 17) (v := ?v44) rfl (by kernel_rfl) (by kernel_rfl) (by kernel_rfl) (fun _ _ _ h => h) (Or.inl ⟨by rfl, ?y44⟩) (by assumption) ?r44
        case y44 => (intro w hSw; (try dsimp only at hSw); go_simp; try (with_reducible rfl))
        (try simp only [Act.put]); (try simp only [List.setIfInBounds_toArray]); (try simp only [List.set_cons_succ]); (try simp only [List.set_cons_zero])
        refine wpAnyH_take (i := 18) (v := ?v45) rfl (by kernel_rfl) (by kernel_rfl) (by kernel_rfl) (fun _ _ _ h => h) (Or.inl ⟨by rfl, ?y45⟩) (by assumption) ?r45
        case y45 => (intro w hSw; (try dsimp only at hSw); go_simp; try (with_reducible rfl))
        (try simp only [Act.put]); (try simp only [List.setIfInBounds_toArray]); (try simp only [List.set_cons_succ]); (try simp only [List.set_cons_zero])
        refine wpAnyH_take (i := 19) (v := ?v46) rfl (by kernel_rfl) (by kernel_rfl) (by kernel_rfl) (fun _ _ _ h => h) (Or.inl ⟨by rfl, ?y46⟩) (by assumption) ?r46
        case y46 => (intro w hSw; (try dsimp only at hSw); go_simp; try (with_reducible rfl))
        (try simp only [Act.put]); (try simp only [List.setIfInBounds_toArray]); (try simp only [List.set_cons_succ]); (try simp only [List.set_cons_zero])
        refine wpAnyH_take (i := 20) (v := ?v47) rfl (by kernel_rfl) (by kernel_rfl) (by kernel_rfl) (fun _ _ _ h => h) (Or.inl ⟨by rfl, ?y47⟩) (by assumption) ?r47
        case y47 => (intro w hSw; (try dsimp only at hSw); go_simp; try (with_reducible rfl))
        (try simp only [Act.put]); (try simp only [List.setIfInBounds_toArray]); (try simp only [List.set_cons_succ]); (try simp only [List.set_cons_zero])
        refine wpAnyH_take (i := 21) (v := ?v48) rfl (by kernel_rfl) (by kernel_rfl) (by kernel_rfl) (fun _ _ _ h => h) (Or.inl ⟨by rfl, ?y48⟩) (by assumption) ?r48
        case y48 => (intro w hSw; (try dsimp only at hSw); go_simp; try (with_reducible rfl))
        (try simp only [Act.put]); (try simp only [List.setIfInBounds_toArray]); (try simp only [List.set_cons_succ]); (try simp only [List.set_cons_zero])
        refine wpAnyH_take (i := 22) (v := ?v49) rfl (by kernel_rfl) (by kernel_rfl) (by kernel_rfl) (fun _ _ _ h => h) (Or.inl ⟨by rfl, ?y49⟩) (by assumption) ?r49
        case y49 => (intro w hSw; (try dsimp only at hSw); go_simp; try (with_reducible rfl))
        (try simp only [Act.put]); (try simp only [List.setIfInBounds_toArray]); (try simp only [List.set_cons_succ]); (try simp only [List.set_cons_zero])
        refine wpAnyH_take (i := 23) (v := ?v50) rfl (by kernel_rfl) (by kernel_rfl) (by kernel_rfl) (fun _ _ _ h => h) (Or.inl ⟨by rfl, ?y50⟩) (by assumption) ?r50
        case y50 => (intro w hSw; (try dsimp only at hSw); go_simp; try (with_reducible rfl))
        (try simp only [Act.put]); (try simp only [List.setIfInBounds_toArray]); (try simp only [List.set_cons_succ]); (try simp only [List.set_cons_zero])
        refine wpAnyH_take (i := 24) (v := ?v51) rfl (by kernel_rfl) (by kernel_rfl) (by kernel_rfl) (fun _ _ _ h => h) (Or.inl ⟨by rfl, ?y51⟩) (by assumption) ?r51
        case y51 => (intro w hSw; (try dsimp only at hSw); go_simp; try (with_reducible rfl))
        (try simp only [Act.put]); (try simp only [List.setIfInBounds_toArray]); (try simp only [List.set_cons_succ]); (try simp only [List.set_cons_zero])
        refine wpAnyH_take (i := 25) (v := ?v52) rfl (by kernel_rfl) (by kernel_rfl) (by kernel_rfl) (fun _ _ _ h => h) (Or.inl ⟨by rfl, ?y52⟩) (by assumption) ?r52
        case y52 => (intro w hSw; (try dsimp only at hSw); go_simp; try (with_reducible rfl))
        (try simp only [Act.put]); (try simp only [List.setIfInBounds_toArray]); (try simp only [List.set_cons_succ]); (try simp only [List.set_cons_zero])
        refine wpAnyH_ready (rs := [1, 26]) (by kernel_rfl) (by simp) ?_
        refine AllReadyH.cons rfl (fun K hK => ?_) (AllReadyH.cons rfl (fun K hK => ?_) AllReadyH.nil)
        · go_simp
          refine hK.out _ _ ?_ (fun hHeld => ?_)
          · exact ⟨q0, q1, q2, hsrc⟩
          clear hK K
          (try simp only [Act.put]); (try simp only [List.setIfInBounds_toArray]); (try simp only [List.set_cons_succ]); (try simp only [List.set_cons_zero])
          refine wpAnyH_ready (rs := [26]) (by kernel_rfl) (by simp) ?_
          refine AllReadyH.cons rfl (fun K hK => ?_) AllReadyH.nil
          go_simp
          refine hK.out _ _ ?_ (fun hHeld => ?_)
          · exact HSA.out _
          clear hK K
          (try simp only [Act.put]); (try simp only [List.setIfInBounds_toArray]); (try simp only [List.set_cons_succ]); (try simp only [List.set_cons_zero])
          refine wpAnyH_ready (rs := [27]) (by kernel_rfl) (by simp) ?_
          refine AllReadyH.cons rfl (fun K hK => ?_) AllReadyH.nil
          refine step_append_lies _ rfl _ _ 22 rfl W.heap.size 32 i0 (.float .f32 0) 1 4 Try.underlying22 hi hz0 hz1 hz2 rfl (by decide) _ k _ rfl (HGQ.out.2.2.2.2.2.2.1.alloc _) ⟨wq.heap.size, 0, none⟩ 1 1 [.float .f32 u] rfl rfl (one_newG _ _ _) (one_cellG _) (by decide) (by unfold maxLen; omega) (by omega) (by simp; have := HGQ.out.2.2.2.2.2.2.2.2.1; omega) _ rfl ?_
          intro g4 cap4 w4 hown hgrow0 hat hlt4
          have hgrow : (wq.alloc (.cells #[.float .f32 u] 32)).grownBy w4 v.ownBlock := ⟨hgrow0.os, hgrow0.tape, hgrow0.output, hgrow0.size, hgrow0.block⟩
          clear hgrow0
          have hb4 : Below W.heap.size W w4 := (HGQ.out.2.2.2.2.2.2.2.1.alloc HGQ.out.2.2.2.2.2.2.2.2.1 _).grown hgrow (by simp; have := HGQ.out.2.2.2.2.2.2.2.2.1; omega) (fun j hj => (HGQ.out.2.2.2.2.2.2.1.lt j hj).1)
          obtain ⟨hG4, hc4, hf4⟩ := HGQ.out.push hown hgrow hat
          have HG4 := Lib.hid hG4
          have HS4 := Lib.hid (HSW.out w4 hb4)
          clear hown hgrow hat hG4 hb4
          refine hK.out _ _ ?_ (fun hHeld => ?_)
          · exact HS4.out
          clear hK K
          (try simp only [Act.put]); (try simp only [List.setIfInBounds_toArray]); (try simp only [List.set_cons_succ]); (try simp only [List.set_cons_zero])
          refine wpAnyH_take (i := 28) (v := ?v53) rfl (by kernel_rfl) (by kernel_rfl) (by kernel_rfl) (fun _ _ _ h => h) (Or.inl ⟨by rfl, ?y53⟩) (by assumption) ?r53
          case y53 => (intro w hSw; (try dsimp only at hSw); go_simp; try (with_reducible rfl))
          (try simp only [Act.put]); (try simp only [List.setIfInBounds_toArray]); (try simp only [List.set_cons_succ]); (try simp only [List.set_cons_zero])
          refine wpAnyH_ready (rs := [29]) (by kernel_rfl) (by simp) ?_
          refine AllReadyH.cons rfl (fun K hK => ?_) AllReadyH.nil
          go_simp
          refine hK.out _ _ ?_ (fun hHeld => ?_)
          · exact HSW.out _ HG4.out.2.2.2.2.2.2.2.1
          clear hK K
          (try simp only [Act.put]); (try simp only [List.setIfInBounds_toArray]); (try simp only [List.set_cons_succ]); (try simp only [List.set_cons_zero])
          refine wpAnyH_done (by kernel_rfl) ?_ _
          go_wp2_with fail
          go_roundw
          case rel => exact ⟨k + 1, _, by omega, by go_num, by rw [← range_push, ← HU.out]; exact HG4.out⟩
          case measure => simp [intOf]; omega
        · go_simp
          refine hK.out _ _ ?_ (fun hHeld => ?_)
          · exact HSA.out _
          clear hK K
          (try simp only [Act.put]); (try simp only [List.setIfInBounds_toArray]); (try simp only [List.set_cons_succ]); (try simp only [List.set_cons_zero])
          refine wpAnyH_ready (rs := [1]) (by kernel_rfl) (by simp) ?_
          refine AllReadyH.cons rfl (fun K hK => ?_) AllReadyH.nil
          go_simp
          refine hK.out _ _ ?_ (fun hHeld => ?_)
          · exact HSA.out _
          clear hK K
          (try simp only [Act.put]); (try simp only [List.setIfInBounds_toArray]); (try simp only [List.set_cons_succ]); (try simp only [List.set_cons_zero])
          refine wpAnyH_ready (rs := [27]) (by kernel_rfl) (by simp) ?_
          refine AllReadyH.cons rfl (fun K hK => ?_) AllReadyH.nil
          refine step_append_lies _ rfl _ _ 22 rfl W.heap.size 32 i0 (.float .f32 0) 1 4 Try.underlying22 hi hz0 hz1 hz2 rfl (by decide) _ k _ rfl (HGQ.out.2.2.2.2.2.2.1.alloc _) ⟨wq.heap.size, 0, none⟩ 1 1 [.float .f32 u] rfl rfl (one_newG _ _ _) (one_cellG _) (by decide) (by unfold maxLen; omega) (by omega) (by simp; have := HGQ.out.2.2.2.2.2.2.2.2.1; omega) _ rfl ?_
          intro g4 cap4 w4 hown hgrow0 hat hlt4
          have hgrow : (wq.alloc (.cells #[.float .f32 u] 32)).grownBy w4 v.ownBlock := ⟨hgrow0.os, hgrow0.tape, hgrow0.output, hgrow0.size, hgrow0.block⟩
          clear hgrow0
          have hb4 : Below W.heap.size W w4 := (HGQ.out.2.2.2.2.2.2.2.1.alloc HGQ.out.2.2.2.2.2.2.2.2.1 _).grown hgrow (by simp; have := HGQ.out.2.2.2.2.2.2.2.2.1; omega) (fun j hj => (HGQ.out.2.2.2.2.2.2.1.lt j hj).1)
          obtain ⟨hG4, hc4, hf4⟩ := HGQ.out.push hown hgrow hat
          have HG4 := Lib.hid hG4
          have HS4 := Lib.hid (HSW.out w4 hb4)
          clear hown hgrow hat hG4 hb4
          refine hK.out _ _ ?_ (fun hHeld => ?_)
          · exact HS4.out
          clear hK K
          (try simp only [Act.put]); (try simp only [List.setIfInBounds_toArray]); (try simp only [List.set_cons_succ]); (try simp only [List.set_cons_zero])
          refine wpAnyH_take (i := 28) (v := ?v54) rfl (by kernel_rfl) (by kernel_rfl) (by kernel_rfl) (fun _ _ _ h => h) (Or.inl ⟨by rfl, ?y54⟩) (by assumption) ?r54
          case y54 => (intro w hSw; (try dsimp only at hSw); go_simp; try (with_reducible rfl))
          (try simp only [Act.put]); (try simp only [List.setIfInBounds_toArray]); (try simp only [List.set_cons_succ]); (try simp only [List.set_cons_zero])
          refine wpAnyH_ready (rs := [29]) (by kernel_rfl) (by simp) ?_
          refine AllReadyH.cons rfl (fun K hK => ?_) AllReadyH.nil
          go_simp
          refine hK.out _ _ ?_ (fun hHeld => ?_)
          · exact HSW.out _ HG4.out.2.2.2.2.2.2.2.1
          clear hK K
          (try simp only [Act.put]); (try simp only [List.setIfInBounds_toArray]); (try simp only [List.set_cons_succ]); (try simp only [List.set_cons_zero])
          refine wpAnyH_done (by kernel_rfl) ?_ _
          go_wp2_with fail
          go_roundw
          case rel => exact ⟨k + 1, _, by omega, by go_num, by rw [← range_push, ← HU.out]; exact HG4.out⟩
          case measure => simp [intOf]; omega
      · obtain rfl : k = n := by omega
        have hkn : p * q ≤ (k : Int) := by rw [hmul]; omega
        obtain ⟨-, -, -, -, -, -, hrow, hbr, -⟩ := HG.out
        have d0 := (hbr.cell (p := ⟨w.heap.size, 0, none⟩) hlt2).trans r0
        have d1 := (hbr.cell (p := ⟨w.heap.size, 1, none⟩) hlt2).trans r1
        have d2 := (hbr.cell (p := ⟨w.heap.size, 2, none⟩) hlt2).trans r2
        have z0 := (hbr.frozen (p := ⟨w.heap.size, 0, none⟩) hlt2).trans e0
        have z1 := (hbr.frozen (p := ⟨w.heap.size, 1, none⟩) hlt2).trans e1
        have z2 := (hbr.frozen (p := ⟨w.heap.size, 2, none⟩) hlt2).trans e2
        have HBR := Lib.hid (show Below w.heap.size w wr from HB0.out.trans (hbr.mono HB0.out.size))
        have HROW := Lib.hid hrow
        clear hbr
        go_wp2_with fail
        go_quiet (fail)
        have hown0 := (((row_own (w := wr.drewN nq) HROW.out).setLess (a := ⟨w.heap.size, 0, none⟩) hlt2 (.int .i64 q)).setLess (a := ⟨w.heap.size, 1, none⟩) hlt2 (.int .i64 p)).setLess (a := ⟨w.heap.size, 2, none⟩) hlt2 v |>.less (lo' := w.heap.size) HB0.out.size
        have hb0 : Below w.heap.size w (wr.drewN nq) := below_drawn HBR.out nq
        replace d0 : (wr.drewN nq).cell? _ = _ := d0
        replace d1 : (wr.drewN nq).cell? _ = _ := d1
        replace d2 : (wr.drewN nq).cell? _ = _ := d2
        replace z0 : (wr.drewN nq).frozen? _ = _ := z0
        replace z1 : (wr.drewN nq).frozen? _ = _ := z1
        replace z2 : (wr.drewN nq).frozen? _ = _ := z2
        replace g0_ : (wr.drewN nq).cell? _ = _ := g0_
        replace g1_ : (wr.drewN nq).cell? _ = _ := g1_
        replace g2_ : (wr.drewN nq).cell? _ = _ := g2_
        generalize wr.drewN nq = wq at *
        have hown := Lib.hid hown0
        have HB := Lib.hid (((hb0.setCell (p := ⟨w.heap.size, 0, none⟩) (Nat.le_refl _) (.int .i64 q)).setCell (p := ⟨w.heap.size, 1, none⟩) (Nat.le_refl _) (.int .i64 p)).setCell (p := ⟨w.heap.size, 2, none⟩) (Nat.le_refl _) v)
        clear hown0
        rcases hrow.2 with ⟨rfl, -⟩ | ⟨gg, cap, cur, rfl, -⟩ <;> clear hrow hb0
        · go_wp2_with fail
          exact bodyPost_ret (v := .agg #[.int .i64 q, .int .i64 p, .slice none 0 0]) (by simp [results, Try.results74, go_sem, d0, d1, d2]) rfl ⟨_, rfl, by rw [HSL.out]; exact hown.out, HB.out⟩
        · go_wp2_with fail
          exact bodyPost_ret (v := .agg #[.int .i64 q, .int .i64 p, .slice (some ⟨gg, 0, none⟩) k cap]) (by simp [results, Try.results74, go_sem, d0, d1, d2]) rfl ⟨_, rfl, by rw [HSL.out]; exact hown.out, HB.out⟩
end Go.Proofs.Ytgfdgcoimfjhbaa
