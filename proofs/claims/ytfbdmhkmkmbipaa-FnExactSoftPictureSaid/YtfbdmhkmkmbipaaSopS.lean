/-
  Contract: SoftPicture of the model.
-/
import Derived.Test.YtfbdmhkmkmbipaaSfK
import Derived.Test.YtfbdmhkmkmbipaaOwn4
import Derived.Test.YtfbdmhkmkmbipaaCoS
namespace Go.Proofs.Ytfbdmhkmkmbipaa
open Go.RowKit Fl
set_option linter.unusedVariables false
set_option maxRecDepth 100000
theorem below_drawnS {w1 w5 : World} {n : Nat} (h : Below (w1.drewN n).heap.size (w1.drewN n) w5) : Below w1.heap.size w1 w5 := (below_drawn (Below.refl _ _) n).trans h
def SoR (w5 : World) (lo b2 o2 c3 b : Nat) (xs : List Nat) (cc : Nat → Bool) (i : Value) (wr : World) : Prop := ∃ k : Nat, k ≤ xs.length ∧ i = .int .i64 k ∧ Tx [b2] w5 wr ∧ Own wr lo (.slice (some ⟨b2, o2, none⟩) xs.length c3) (fl (chK (sofF b) xs (fiN cc k)))
set_option maxHeartbeats 8000000 in
theorem softS_any (v : Value) (p q : Int) (xs : List Nat) (l : Int) (b : Nat) (w : World) (h : Rd w w.heap.size v (fl xs)) (hm : xs.length ≤ 1048576) (hx : ∀ x ∈ xs, x < 2 ^ 32) (hb2 : b < 2 ^ 32) :
    Calls Try.prog 51 #[.agg #[.int .i64 p, .int .i64 q, v], .int .i64 l, .float .f32 b] w (RetSf p q xs l b w) := by
  obtain ⟨A, c, hv, hnc, hcm, hcell⟩ := id h
  rw [fl_len] at hv hnc hcell
  subst hv
  obtain ⟨w0, hw0⟩ : ∃ w0, ((w.alloc (.cells #[.int .i64 p, .int .i64 q, .slice A xs.length c] 50)).alloc (.cells #[.int .i64 0, .int .i64 0, .slice none 0 0] 50)) = w0 := ⟨_, rfl⟩
  have hb0 : Below w.heap.size w w0 := by rw [← hw0]; exact (((Below.refl _ _).alloc (Nat.le_refl _) _).alloc (by simp; try omega) _)
  have hz : w0.heap.size = w.heap.size + 2 := by rw [← hw0]; simp
  have hlt : w.heap.size < w0.heap.size := by omega
  have hltr : w.heap.size + 1 < w0.heap.size := by omega
  clear hz
  have x0 : w0.cell? ⟨w.heap.size, 0, none⟩ = some (.int .i64 p) := by rw [← hw0]; simp [go_sem]
  have x1 : w0.cell? ⟨w.heap.size, 1, none⟩ = some (.int .i64 q) := by rw [← hw0]; simp [go_sem]
  have x2 : w0.cell? ⟨w.heap.size, 2, none⟩ = some (.slice A xs.length c) := by rw [← hw0]; simp [go_sem]
  have r0 : w0.cell? ⟨w.heap.size + 1, 0, none⟩ = some (.int .i64 0) := by rw [← hw0]; simp [go_sem]
  have r1 : w0.cell? ⟨w.heap.size + 1, 1, none⟩ = some (.int .i64 0) := by rw [← hw0]; simp [go_sem]
  have r2 : w0.cell? ⟨w.heap.size + 1, 2, none⟩ = some (.slice none 0 0) := by rw [← hw0]; simp [go_sem]
  have e0 : w0.frozen? ⟨w.heap.size + 1, 0, none⟩ = false := by rw [← hw0]; simp [go_sem]
  have e1 : w0.frozen? ⟨w.heap.size + 1, 1, none⟩ = false := by rw [← hw0]; simp [go_sem]
  have e2 : w0.frozen? ⟨w.heap.size + 1, 2, none⟩ = false := by rw [← hw0]; simp [go_sem]
  have HV := Lib.hid (vpP_any w.heap.size (.slice A xs.length c) p q xs w0 w.heap.size (h.below hb0) x0 x1 x2 hm hx)
  have HL := Lib.hid (fun W => (show Calls Try.prog 95 #[.int .i64 l] W fun e w' => e = .returned (.bool (lvB l)) ∧ W = w' from lvS_any l W))
  have HP := Lib.hid (fun W => lsS_any b W hb2)
  have HB0 := Lib.hid hb0
  have HC := Lib.hid hcell
  have HXX := Lib.hid hx
  have HH := Lib.hid h
  clear hb0 h hx hcell
  cases hs : vpcB p q xs with
  | false =>
    rw [retSf_no (by unfold sfB; rw [hs]; rfl)]
    rw [hs] at HV
    clear hs
    go_enter Try.func51, Try.ntmps51
    go_wp2_with fail
    with_reducible refine HV.out.mono ?_
    rintro e w1 ⟨rfl, n1, hw1⟩
    have hb1 : Below w0.heap.size w0 w1 := by rw [hw1]; exact below_drawn (Below.refl _ _) _
    have HB1 := Lib.hid (HB0.out.trans (hb1.mono HB0.out.size))
    replace x0 := (hb1.cell (p := ⟨w.heap.size, 0, none⟩) hlt).trans x0
    replace x1 := (hb1.cell (p := ⟨w.heap.size, 1, none⟩) hlt).trans x1
    replace x2 := (hb1.cell (p := ⟨w.heap.size, 2, none⟩) hlt).trans x2
    replace r0 := (hb1.cell (p := ⟨w.heap.size + 1, 0, none⟩) hltr).trans r0
    replace r1 := (hb1.cell (p := ⟨w.heap.size + 1, 1, none⟩) hltr).trans r1
    replace r2 := (hb1.cell (p := ⟨w.heap.size + 1, 2, none⟩) hltr).trans r2
    replace e0 := (hb1.frozen (p := ⟨w.heap.size + 1, 0, none⟩) hltr).trans e0
    replace e1 := (hb1.frozen (p := ⟨w.heap.size + 1, 1, none⟩) hltr).trans e1
    replace e2 := (hb1.frozen (p := ⟨w.heap.size + 1, 2, none⟩) hltr).trans e2
    replace hlt := Nat.lt_of_lt_of_le hlt hb1.size
    replace hltr := Nat.lt_of_lt_of_le hltr hb1.size
    clear hb1 hw0 hw1
    have HB := Lib.hid (((HB1.out.setCell (p := ⟨w.heap.size + 1, 0, none⟩) (by show w.heap.size ≤ w.heap.size + 1; omega) (.int .i64 0)).setCell (p := ⟨w.heap.size + 1, 1, none⟩) (by show w.heap.size ≤ w.heap.size + 1; omega) (.int .i64 0)).setCell (p := ⟨w.heap.size + 1, 2, none⟩) (by show w.heap.size ≤ w.heap.size + 1; omega) (.slice none 0 0))
    go_wp2_with fail
    exact bodyPost_ret (v := .tuple #[.agg #[.int .i64 0, .int .i64 0, .slice none 0 0], .bool false]) (by simp [results, Try.results51, go_sem, r0, r1, r2]) rfl (retPc_no _ _ HB.out)
  | true =>
    rw [hs] at HV
    cases hll : lvB l with
    | false =>
      rw [retSf_no (by unfold sfB; rw [hll]; simp)]
      rw [hll] at HL
      clear hs hll
      go_enter Try.func51, Try.ntmps51
      go_wp2_with fail
      with_reducible refine HV.out.mono ?_
      rintro e w1 ⟨rfl, n1, hw1⟩
      have hb1 : Below w0.heap.size w0 w1 := by rw [hw1]; exact below_drawn (Below.refl _ _) _
      have HB1 := Lib.hid (HB0.out.trans (hb1.mono HB0.out.size))
      replace x0 := (hb1.cell (p := ⟨w.heap.size, 0, none⟩) hlt).trans x0
      replace x1 := (hb1.cell (p := ⟨w.heap.size, 1, none⟩) hlt).trans x1
      replace x2 := (hb1.cell (p := ⟨w.heap.size, 2, none⟩) hlt).trans x2
      replace r0 := (hb1.cell (p := ⟨w.heap.size + 1, 0, none⟩) hltr).trans r0
      replace r1 := (hb1.cell (p := ⟨w.heap.size + 1, 1, none⟩) hltr).trans r1
      replace r2 := (hb1.cell (p := ⟨w.heap.size + 1, 2, none⟩) hltr).trans r2
      replace e0 := (hb1.frozen (p := ⟨w.heap.size + 1, 0, none⟩) hltr).trans e0
      replace e1 := (hb1.frozen (p := ⟨w.heap.size + 1, 1, none⟩) hltr).trans e1
      replace e2 := (hb1.frozen (p := ⟨w.heap.size + 1, 2, none⟩) hltr).trans e2
      replace hlt := Nat.lt_of_lt_of_le hlt hb1.size
      replace hltr := Nat.lt_of_lt_of_le hltr hb1.size
      clear hb1 hw0 hw1
      go_wp2_with fail
      with_reducible refine (HL.out _).mono ?_
      rintro e w2 ⟨rfl, hw2⟩
      subst hw2
      have HB := Lib.hid (((HB1.out.setCell (p := ⟨w.heap.size + 1, 0, none⟩) (by show w.heap.size ≤ w.heap.size + 1; omega) (.int .i64 0)).setCell (p := ⟨w.heap.size + 1, 1, none⟩) (by show w.heap.size ≤ w.heap.size + 1; omega) (.int .i64 0)).setCell (p := ⟨w.heap.size + 1, 2, none⟩) (by show w.heap.size ≤ w.heap.size + 1; omega) (.slice none 0 0))
      go_wp2_with fail
      exact bodyPost_ret (v := .tuple #[.agg #[.int .i64 0, .int .i64 0, .slice none 0 0], .bool false]) (by simp [results, Try.results51, go_sem, r0, r1, r2]) rfl (retPc_no _ _ HB.out)
    | true =>
      rw [hll] at HL
      cases hls : lsB b with
      | false =>
        rw [retSf_no (by unfold sfB; rw [hls]; simp)]
        rw [hls] at HP
        clear hs hll hls
        go_enter Try.func51, Try.ntmps51
        go_wp2_with fail
        with_reducible refine HV.out.mono ?_
        rintro e w1 ⟨rfl, n1, hw1⟩
        have hb1 : Below w0.heap.size w0 w1 := by rw [hw1]; exact below_drawn (Below.refl _ _) _
        have HB1 := Lib.hid (HB0.out.trans (hb1.mono HB0.out.size))
        replace x0 := (hb1.cell (p := ⟨w.heap.size, 0, none⟩) hlt).trans x0
        replace x1 := (hb1.cell (p := ⟨w.heap.size, 1, none⟩) hlt).trans x1
        replace x2 := (hb1.cell (p := ⟨w.heap.size, 2, none⟩) hlt).trans x2
        replace r0 := (hb1.cell (p := ⟨w.heap.size + 1, 0, none⟩) hltr).trans r0
        replace r1 := (hb1.cell (p := ⟨w.heap.size + 1, 1, none⟩) hltr).trans r1
        replace r2 := (hb1.cell (p := ⟨w.heap.size + 1, 2, none⟩) hltr).trans r2
        replace e0 := (hb1.frozen (p := ⟨w.heap.size + 1, 0, none⟩) hltr).trans e0
        replace e1 := (hb1.frozen (p := ⟨w.heap.size + 1, 1, none⟩) hltr).trans e1
        replace e2 := (hb1.frozen (p := ⟨w.heap.size + 1, 2, none⟩) hltr).trans e2
        replace hlt := Nat.lt_of_lt_of_le hlt hb1.size
        replace hltr := Nat.lt_of_lt_of_le hltr hb1.size
        clear hb1 hw0 hw1
        go_wp2_with fail
        with_reducible refine (HL.out _).mono ?_
        rintro e w2 ⟨rfl, hw2⟩
        subst hw2
        go_wp2_with fail
        with_reducible refine (HP.out _).mono ?_
        rintro e w3 ⟨rfl, n3, rfl⟩
        have HB3 := Lib.hid (below_drawn HB1.out n3)
        have HB := Lib.hid (((HB3.out.setCell (p := ⟨w.heap.size + 1, 0, none⟩) (by show w.heap.size ≤ w.heap.size + 1; omega) (.int .i64 0)).setCell (p := ⟨w.heap.size + 1, 1, none⟩) (by show w.heap.size ≤ w.heap.size + 1; omega) (.int .i64 0)).setCell (p := ⟨w.heap.size + 1, 2, none⟩) (by show w.heap.size ≤ w.heap.size + 1; omega) (.slice none 0 0))
        go_wp2_with fail
        exact bodyPost_ret (v := .tuple #[.agg #[.int .i64 0, .int .i64 0, .slice none 0 0], .bool false]) (by simp [results, Try.results51, go_sem, r0, r1, r2]) rfl (retPc_no _ _ HB.out)
      | true =>
        rw [hls] at HP
        obtain ⟨b1, b2, hl, hfin⟩ := vpcB_out hs
        have hbd := mul_bd b1 b2
        have hl4 := of_decide_eq_true hll
        obtain ⟨L, rfl⟩ : ∃ L : Nat, l = (L : Int) := ⟨l.toNat, by omega⟩
        have hbf := lsB_fin hls
        rw [retSf_yes (by unfold sfB; rw [hs, hll, hls]; rfl)]
        have hrp : rpL p q (L : Int) = fiN (csB p q L) xs.length := by unfold rpL; rw [show (p * q).toNat = xs.length by omega]; rfl
        rw [hrp]
        have hx256 : xs.length ≤ 256 := by omega
        have hx1 : 1 ≤ xs.length := by omega
        obtain ⟨bk, off, rfl, hbw, hcells⟩ := HC.out (by omega)
        have HSRC := Lib.hid (show ∀ (i : Nat) (h : i < xs.length), w.cell? ⟨bk, off + i, none⟩ = some (.float .f32 (xs.getD i 0)) from fun i hi => by have := hcells i _ (fl_get xs i hi); simpa [List.getD, hi] using this)
        clear hcells HC
        have HCS := Lib.hid (fun (W : World) (k : Nat) (hk : k < xs.length) (h0 : W.cell? ⟨w.heap.size, 0, none⟩ = some (.int .i64 p)) (h1 : W.cell? ⟨w.heap.size, 1, none⟩ = some (.int .i64 q)) => csS_any w.heap.size p q L k W b1 b2 (by omega) (by omega) h0 h1)
        have HFX := Lib.hid (fun i => getD_finR hfin i)
        have HGX := Lib.hid (fun i => getD_ltR HXX.out i)
        have hpq : p * q = (xs.length : Int) := hl.symm
        have hpqw : IntKind.i64.wrap (p * q) = (xs.length : Int) := by rw [hpq, IntKind.wrap_i64]; omega
        have HLS := Lib.hid hls
        generalize hcc : csB p q L = cc at *
        clear hcc hl hbd hs hll hls hrp hfin hpq
        have hsf : ∀ (a : Addr) (x : Nat) (w : World), (store a (.float .f32 x)).run Try.prog w = stored Try.prog w a (.float .f32 x) .plain := fun a x w => run_store _ w a _ _ rfl
        go_enter Try.func51, Try.ntmps51
        go_wp2_with fail
        with_reducible refine HV.out.mono ?_
        rintro e w1 ⟨rfl, n1, hw1⟩
        have hb1 : Below w0.heap.size w0 w1 := by rw [hw1]; exact below_drawn (Below.refl _ _) _
        have HB1 := Lib.hid (HB0.out.trans (hb1.mono HB0.out.size))
        replace x0 := (hb1.cell (p := ⟨w.heap.size, 0, none⟩) hlt).trans x0
        replace x1 := (hb1.cell (p := ⟨w.heap.size, 1, none⟩) hlt).trans x1
        replace x2 := (hb1.cell (p := ⟨w.heap.size, 2, none⟩) hlt).trans x2
        replace r0 := (hb1.cell (p := ⟨w.heap.size + 1, 0, none⟩) hltr).trans r0
        replace r1 := (hb1.cell (p := ⟨w.heap.size + 1, 1, none⟩) hltr).trans r1
        replace r2 := (hb1.cell (p := ⟨w.heap.size + 1, 2, none⟩) hltr).trans r2
        replace e0 := (hb1.frozen (p := ⟨w.heap.size + 1, 0, none⟩) hltr).trans e0
        replace e1 := (hb1.frozen (p := ⟨w.heap.size + 1, 1, none⟩) hltr).trans e1
        replace e2 := (hb1.frozen (p := ⟨w.heap.size + 1, 2, none⟩) hltr).trans e2
        replace hlt := Nat.lt_of_lt_of_le hlt hb1.size
        replace hltr := Nat.lt_of_lt_of_le hltr hb1.size
        clear hb1 hw0 hw1
        go_wp2_with fail
        with_reducible refine (HL.out _).mono ?_
        rintro e w2 ⟨rfl, hw2⟩
        subst hw2
        go_wp2_with fail
        with_reducible refine (HP.out _).mono ?_
        rintro e w3 ⟨rfl, n3, rfl⟩
        have HB3 := Lib.hid (below_drawn HB1.out n3)
        have HLT1 := Lib.hid hltr
        have HOWN := Lib.hid (own4_any w.heap.size p q bk off c xs.length xs (w1.drewN n3) rfl ⟨hx1, hx256⟩ hlt (Nat.lt_of_lt_of_le hbw HB1.out.size) x0 x1 x2 (fun i hi => (HB1.out.cell (p := ⟨bk, off + i, none⟩) hbw).trans (HSRC.out i hi)))
        go_wp2_with fail
        with_reducible refine HOWN.out.mono ?_
        rintro e w4 ⟨v, rfl, ho4, hb4⟩
        obtain ⟨A4, c3, hv4, _, _, hc4⟩ := id ho4
        rw [fl_len] at hv4 hc4
        obtain ⟨b2, o2, rfl, _⟩ := hc4 (by omega)
        subst hv4
        clear hc4
        replace hb4 : Below w1.heap.size w1 w4 := below_drawnS hb4
        have HCW := Lib.hid (chb_two (w0 := w1) (p := p) (q := q) (L := xs) (show Own w4 w1.heap.size _ _ from ho4) (by omega) hb4)
        clear ho4
        replace x0 := (hb4.cell (p := ⟨w.heap.size, 0, none⟩) hlt).trans x0
        replace x1 := (hb4.cell (p := ⟨w.heap.size, 1, none⟩) hlt).trans x1
        replace x2 := (hb4.cell (p := ⟨w.heap.size, 2, none⟩) hlt).trans x2
        replace r0 := (hb4.cell (p := ⟨w.heap.size + 1, 0, none⟩) hltr).trans r0
        replace r1 := (hb4.cell (p := ⟨w.heap.size + 1, 1, none⟩) hltr).trans r1
        replace r2 := (hb4.cell (p := ⟨w.heap.size + 1, 2, none⟩) hltr).trans r2
        replace e0 := (hb4.frozen (p := ⟨w.heap.size + 1, 0, none⟩) hltr).trans e0
        replace e1 := (hb4.frozen (p := ⟨w.heap.size + 1, 1, none⟩) hltr).trans e1
        replace e2 := (hb4.frozen (p := ⟨w.heap.size + 1, 2, none⟩) hltr).trans e2
        replace hlt := Nat.lt_of_lt_of_le hlt hb4.size
        replace hltr := Nat.lt_of_lt_of_le hltr hb4.size
        have HB4 := Lib.hid (HB1.out.trans (hb4.mono HB1.out.size))
        have hz4 := hb4.size
        clear hb4
        obtain ⟨W, hW⟩ : ∃ W, w4.alloc (.cells #[.int .i64 p, .int .i64 q, .slice (some ⟨b2, o2, none⟩) xs.length c3] 50) = W := ⟨_, rfl⟩
        have hbW : Below w4.heap.size w4 W := by rw [← hW]; exact (Below.refl _ _).alloc (Nat.le_refl _) _
        rw [hW] at HCW
        replace x0 := (hbW.cell (p := ⟨w.heap.size, 0, none⟩) hlt).trans x0
        replace x1 := (hbW.cell (p := ⟨w.heap.size, 1, none⟩) hlt).trans x1
        replace x2 := (hbW.cell (p := ⟨w.heap.size, 2, none⟩) hlt).trans x2
        replace r0 := (hbW.cell (p := ⟨w.heap.size + 1, 0, none⟩) hltr).trans r0
        replace r1 := (hbW.cell (p := ⟨w.heap.size + 1, 1, none⟩) hltr).trans r1
        replace r2 := (hbW.cell (p := ⟨w.heap.size + 1, 2, none⟩) hltr).trans r2
        replace e0 := (hbW.frozen (p := ⟨w.heap.size + 1, 0, none⟩) hltr).trans e0
        replace e1 := (hbW.frozen (p := ⟨w.heap.size + 1, 1, none⟩) hltr).trans e1
        replace e2 := (hbW.frozen (p := ⟨w.heap.size + 1, 2, none⟩) hltr).trans e2
        replace hlt := Nat.lt_of_lt_of_le hlt hbW.size
        replace hltr := Nat.lt_of_lt_of_le hltr hbW.size
        have HBW := Lib.hid (HB4.out.trans (hbW.mono HB4.out.size))
        clear hbW
        obtain ⟨hBXg, hOW, hg0, hb20, hne, hb2W, -⟩ := id HCW.out
        have HBG := Lib.hid hBXg
        have HOW := Lib.hid hOW
        have hgW := hBXg.1
        clear hBXg hOW
        generalize hgd : w4.heap.size = g at *
        have HGD := Lib.hid hgd
        clear hgd
        have hbkW : bk < W.heap.size := Nat.lt_of_lt_of_le hbw HBW.out.size
        have hgb : ¬ g = b2 := fun e => hne e.symm
        have hbb : ¬ bk = b2 := by have := HB1.out.size; omega
        have hwb : ¬ w.heap.size = b2 := by have := HLT1.out; omega
        have hrb : ¬ w.heap.size + 1 = b2 := by have := HLT1.out; omega
        have X0 := Lib.hid x0
        have X1 := Lib.hid x1
        have X2 := Lib.hid x2
        have R0 := Lib.hid r0
        have R1 := Lib.hid r1
        have R2 := Lib.hid r2
        have E0 := Lib.hid e0
        have E1 := Lib.hid e1
        have E2 := Lib.hid e2
        clear r0 r1 r2 e0 e1 e2
        go_wp2_with fail
        rw [HGD.out]
        clear x0 x1 x2
        go_loopw [9] (SoR W w1.heap.size b2 o2 c3 b xs cc) (fun i _ => xs.length - (intOf i).toNat)
        case atStart => exact ⟨0, Nat.zero_le _, rfl, Tx.refl _ _, HOW.out⟩
        case round =>
          obtain ⟨k, hk, rfl, htx, ho⟩ := hrel
          have x0 := (htx.cell hlt (by simp; exact hwb)).trans X0.out
          have x1 := (htx.cell hlt (by simp; exact hwb)).trans X1.out
          have x2 := (htx.cell hlt (by simp; exact hwb)).trans X2.out
          have g2 : wr.cell? ⟨g, 2, none⟩ = some (.slice (some ⟨b2, o2, none⟩) xs.length c3) := (htx.cell hgW (by simp; exact hgb)).trans (HBG.out.2 2 _ rfl).1
          by_cases hkn : k < xs.length
          · have HQ := Lib.hid (HCS.out wr k hkn x0 x1)
            have hkni : (k : Int) < (xs.length : Int) := by omega
            have hk0 : (0 : Int) ≤ (k : Int) := by omega
            have HO := Lib.hid ho
            have HTX := Lib.hid htx
            cases hck : cc k with
            | true =>
              have HCK := Lib.hid hck
              have HF := Lib.hid (fiN_yes hck)
              clear hck ho htx
              go_wp2_with fail
              with_reducible refine HQ.out.mono ?_
              rintro e w6 ⟨rfl, N, rfl⟩
              rw [HCK.out]
              go_wp2_with fail
              go_roundw
              case rel => exact ⟨k + 1, by omega, by go_num, HTX.out.drewN _, by rw [HF.out]; exact HO.out⟩
              case measure => simp [intOf]; omega
            | false =>
              have HCK := Lib.hid hck
              have HF := Lib.hid (fiN_no hck)
              clear hck
              have hs : wr.cell? ⟨bk, off + k, none⟩ = some (.float .f32 (xs.getD k 0)) := (htx.cell hbkW (by simp; exact hbb)).trans ((HBW.out.cell (p := ⟨bk, off + k, none⟩) hbw).trans (HSRC.out _ hkn))
              obtain ⟨hlo, hbw2, hcc2, hff⟩ := ho.cells' (by omega)
              have hcl : (chK (sofF b) xs (fiN cc k)).length = xs.length := chK_len _ _ _
              have hdst : wr.cell? ⟨b2, o2 + k, none⟩ = some (.float .f32 ((chK (sofF b) xs (fiN cc k)).getD k 0)) := by rw [hcc2 k _ (fl_get _ k (by omega))]; simp [List.getD, show k < (chK (sofF b) xs (fiN cc k)).length by omega]
              have hfz := hff k hkn
              have HT := Lib.hid (chK_app (sofF b) xs (fiN cc k) k)
              have HFu := Lib.hid (HFX.out k)
              have HGu := Lib.hid (HGX.out k)
              generalize chK (sofF b) xs (fiN cc k) = cur at *
              generalize cur.getD k 0 = old at *
              generalize xs.getD k 0 = u at *
              clear hcc2 hff htx ho hcl
              have HW6 := Lib.hid (fun N => (show ((wr.drewN N).setCell ⟨b2, o2 + k, none⟩ (.float .f32 0)).cell? ⟨g, 2, none⟩ = some (.slice (some ⟨b2, o2, none⟩) xs.length c3) ∧ ((wr.drewN N).setCell ⟨b2, o2 + k, none⟩ (.float .f32 0)).cell? ⟨b2, o2 + k, none⟩ = some (.float .f32 0) ∧ ((wr.drewN N).setCell ⟨b2, o2 + k, none⟩ (.float .f32 0)).frozen? ⟨b2, o2 + k, none⟩ = false from ⟨ei_farO hgb g2, World.cell?_setCell_same _ _ _ hdst, by rw [World.frozen?_setCell]; exact hfz⟩))
              have HO1 := Lib.hid (fun x => Own.putT (w := wr) HO.out k hkn (.float .f32 x))
              have HT1 := Lib.hid (fun x => HTX.out.set (g := b2) (o := o2 + k) (by simp) (.float .f32 x))
              have HO2 := Lib.hid (fun x y => by have h := Own.putT (w := _) (Own.putT (w := wr) HO.out k hkn (.float .f32 x)) k hkn (.float .f32 y); rw [List.set_set] at h; exact h)
              have HT2 := Lib.hid (fun x y => (HTX.out.set (g := b2) (o := o2 + k) (by simp) (.float .f32 x)).set (g := b2) (o := o2 + k) (by simp) (.float .f32 y))
              have HD := Lib.hid (dif_nums HFu.out hbf)
              have HS := Lib.hid (sum_nums HFu.out hbf)
              have hng : Op.unary .neg (.float .f32 b) = pure (.float .f32 (Op.negFloat .f32 b)) := rfl
              cases hg : gt32 u b with
              | true =>
                have hlt2 := sof_one HGu.out hb2 HFu.out HLS.out hg
                have HV2 := Lib.hid (sofF_gt hg)
                have hg' : (FloatKind.f32.format.order u b == some .gt) = true := hg
                have hl' : (FloatKind.f32.format.order u (Op.negFloat .f32 b) == some .lt) = false := hlt2
                clear hg hlt2
                generalize Op.negFloat .f32 b = nb at *
                go_wp2_with fail
                with_reducible refine HQ.out.mono ?_
                rintro e w6 ⟨rfl, N, rfl⟩
                rw [HCK.out]
                obtain ⟨w7, hw7⟩ : ∃ w7, (wr.drewN N).setCell ⟨b2, o2 + k, none⟩ (.float .f32 0) = w7 := ⟨_, rfl⟩
                have H7 := HW6.out N
                rw [hw7] at H7
                obtain ⟨p2, pd, pf⟩ := H7
                go_wp2_with (refine up_ar (op := .sub) rfl ?_; intro r n hr; obtain rfl := is_eq hr HD.out)
                subst hw7
                go_roundw
                case rel => exact ⟨k + 1, by omega, by go_num, ⟨(HT2.out 0 (ar .sub .f32 u b)).os, (HT2.out 0 (ar .sub .f32 u b)).tape, (HT2.out 0 (ar .sub .f32 u b)).output, (HT2.out 0 (ar .sub .f32 u b)).size, (HT2.out 0 (ar .sub .f32 u b)).block⟩, by rw [HF.out, HT.out, HV2.out, ← fl_set]; exact HO2.out 0 (ar .sub .f32 u b)⟩
                case measure => simp [intOf]; omega
              | false =>
                cases hl2 : lt32 u (Op.negFloat .f32 b) with
                | true =>
                  have HV2 := Lib.hid (sofF_lt hg hl2)
                  have hg' : (FloatKind.f32.format.order u b == some .gt) = false := hg
                  have hl' : (FloatKind.f32.format.order u (Op.negFloat .f32 b) == some .lt) = true := hl2
                  clear hg hl2
                  generalize Op.negFloat .f32 b = nb at *
                  go_wp2_with fail
                  with_reducible refine HQ.out.mono ?_
                  rintro e w6 ⟨rfl, N, rfl⟩
                  rw [HCK.out]
                  obtain ⟨w7, hw7⟩ : ∃ w7, (wr.drewN N).setCell ⟨b2, o2 + k, none⟩ (.float .f32 0) = w7 := ⟨_, rfl⟩
                  have H7 := HW6.out N
                  rw [hw7] at H7
                  obtain ⟨p2, pd, pf⟩ := H7
                  go_wp2_with (refine up_ar (op := .add) rfl ?_; intro r n hr; obtain rfl := is_eq hr HS.out)
                  subst hw7
                  go_roundw
                  case rel => exact ⟨k + 1, by omega, by go_num, ⟨(HT2.out 0 (ar .add .f32 u b)).os, (HT2.out 0 (ar .add .f32 u b)).tape, (HT2.out 0 (ar .add .f32 u b)).output, (HT2.out 0 (ar .add .f32 u b)).size, (HT2.out 0 (ar .add .f32 u b)).block⟩, by rw [HF.out, HT.out, HV2.out, ← fl_set]; exact HO2.out 0 (ar .add .f32 u b)⟩
                  case measure => simp [intOf]; omega
                | false =>
                  have HV2 := Lib.hid (sofF_no hg hl2)
                  have hg' : (FloatKind.f32.format.order u b == some .gt) = false := hg
                  have hl' : (FloatKind.f32.format.order u (Op.negFloat .f32 b) == some .lt) = false := hl2
                  clear hg hl2
                  generalize Op.negFloat .f32 b = nb at *
                  go_wp2_with fail
                  with_reducible refine HQ.out.mono ?_
                  rintro e w6 ⟨rfl, N, rfl⟩
                  rw [HCK.out]
                  obtain ⟨w7, hw7⟩ : ∃ w7, (wr.drewN N).setCell ⟨b2, o2 + k, none⟩ (.float .f32 0) = w7 := ⟨_, rfl⟩
                  have H7 := HW6.out N
                  rw [hw7] at H7
                  obtain ⟨p2, pd, pf⟩ := H7
                  go_wp2_with fail
                  subst hw7
                  go_roundw
                  case rel => exact ⟨k + 1, by omega, by go_num, ⟨(HT1.out 0).os, (HT1.out 0).tape, (HT1.out 0).output, (HT1.out 0).size, (HT1.out 0).block⟩, by rw [HF.out, HT.out, HV2.out, ← fl_set]; exact HO1.out 0⟩
                  case measure => simp [intOf]; omega
          · obtain rfl : k = xs.length := by omega
            have r0 := (htx.cell hltr (by simp; exact hrb)).trans R0.out
            have r1 := (htx.cell hltr (by simp; exact hrb)).trans R1.out
            have r2 := (htx.cell hltr (by simp; exact hrb)).trans R2.out
            have e0 := (htx.frozen hltr (by simp; exact hrb)).trans E0.out
            have e1 := (htx.frozen hltr (by simp; exact hrb)).trans E1.out
            have e2 := (htx.frozen hltr (by simp; exact hrb)).trans E2.out
            have g0' : wr.cell? ⟨g, 0, none⟩ = some (.int .i64 p) := (htx.cell hgW (by simp; exact hgb)).trans (HBG.out.2 0 _ rfl).1
            have g1' : wr.cell? ⟨g, 1, none⟩ = some (.int .i64 q) := (htx.cell hgW (by simp; exact hgb)).trans (HBG.out.2 1 _ rfl).1
            have HOF := Lib.hid ((((ho.setLess (a := ⟨w.heap.size + 1, 0, none⟩) HLT1.out (.int .i64 p)).setLess (a := ⟨w.heap.size + 1, 1, none⟩) HLT1.out (.int .i64 q)).setLess (a := ⟨w.heap.size + 1, 2, none⟩) HLT1.out (.slice (some ⟨b2, o2, none⟩) xs.length c3)).less (lo' := w.heap.size) HB1.out.size)
            have HBE := Lib.hid (HBW.out.trans (htx.below HBW.out.size (fun k hk => by simp at hk; subst hk; exact Nat.le_trans HB1.out.size hb20)))
            have HB := Lib.hid (((HBE.out.setCell (p := ⟨w.heap.size + 1, 0, none⟩) (by show w.heap.size ≤ w.heap.size + 1; omega) (.int .i64 p)).setCell (p := ⟨w.heap.size + 1, 1, none⟩) (by show w.heap.size ≤ w.heap.size + 1; omega) (.int .i64 q)).setCell (p := ⟨w.heap.size + 1, 2, none⟩) (by show w.heap.size ≤ w.heap.size + 1; omega) (.slice (some ⟨b2, o2, none⟩) xs.length c3))
            have HCL := Lib.hid (show xs.length = (chK (sofF b) xs (fiN cc xs.length)).length from (chK_len _ _ _).symm)
            clear ho htx
            go_wp2_with fail
            exact bodyPost_ret (v := .tuple #[.agg #[.int .i64 p, .int .i64 q, .slice (some ⟨b2, o2, none⟩) xs.length c3], .bool true]) (by simp [results, Try.results51, go_sem, r0, r1, r2]) rfl ⟨_, rfl, HOF.out, HB.out⟩
end Go.Proofs.Ytfbdmhkmkmbipaa
