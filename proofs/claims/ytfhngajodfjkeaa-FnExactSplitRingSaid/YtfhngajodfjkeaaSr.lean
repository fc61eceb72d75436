/-
  Contract: SplitRing of the program's side.
-/
import Derived.Test.YtfhngajodfjkeaaRp
namespace Go.Proofs.Ytfhngajodfjkeaa
open Go.RowKit Fl
set_option linter.unusedVariables false

def srB (list taps : List Nat) : Bool := vpB taps && isL list && decide (list.length % 2 = 0) && finA (tpK list taps (list.length / 2)) && finA (tpK list (hiK taps taps.length) (list.length / 2))
def srL (list taps : List Nat) : List Nat := if srB list taps then tpK list taps (list.length / 2) else []
def srH (list taps : List Nat) : List Nat := if srB list taps then tpK list (hiK taps taps.length) (list.length / 2) else []
/-- Returns two lists, in blocks that lie apart, and whether there are such. -/
def RetTwo (L1 L2 : List Nat) (b : Bool) (w : World) (e : Ending) (w' : World) : Prop :=
  ∃ v1 v2 l1 k1 l2 k2, e = .returned (.tuple #[v1, v2, .bool b]) ∧ In w' l1 k1 v1 (fl L1) ∧ In w' l2 k2 v2 (fl L2) ∧ w.heap.size ≤ l1 ∧ w.heap.size ≤ l2 ∧ k1 ≤ w'.heap.size ∧ k2 ≤ w'.heap.size ∧ (k1 ≤ l2 ∨ k2 ≤ l1) ∧ Below w.heap.size w w'
theorem in_nilF (w : World) (lo : Nat) : In w lo lo (.slice none 0 0) (fl []) := ⟨own_nilF _ _, fun a n c e _ => by cases e⟩
theorem retTwo_nil {w w' : World} (h : Below w.heap.size w w') : RetTwo [] [] false w (.returned (.tuple #[.slice none 0 0, .slice none 0 0, .bool false])) w' :=
  ⟨_, _, w.heap.size, w.heap.size, w.heap.size, w.heap.size, rfl, in_nilF _ _, in_nilF _ _, Nat.le_refl _, Nat.le_refl _, h.size, h.size, .inl (Nat.le_refl _), h⟩
def pad (Ls : List Nat) (n : Nat) : List Nat := Ls ++ List.replicate (n - Ls.length) 0
theorem pad_len {Ls : List Nat} {n : Nat} (h : Ls.length ≤ n) : (pad Ls n).length = n := by simp [pad]; omega
theorem pad_all {Ls : List Nat} {n : Nat} (h : Ls.length = n) : pad Ls n = Ls := by simp [pad, h]
theorem pad_set {Ls : List Nat} {n j : Nat} (hj : Ls.length = j) (h : j < n) (r : Nat) : (fl (pad Ls n)).set j (.float .f32 r) = fl (pad (Ls ++ [r]) n) := by
  subst hj
  obtain ⟨d, rfl⟩ : ∃ d, n = Ls.length + (d + 1) := ⟨n - Ls.length - 1, by omega⟩
  rw [fl_set]
  congr 1
  unfold pad
  rw [show Ls.length + (d + 1) - Ls.length = d + 1 by omega, show Ls.length + (d + 1) - (Ls ++ [r]).length = d by simp only [List.length_append, List.length_singleton]; omega, List.set_append_right _ _ (Nat.le_refl _)]
  simp [List.replicate_succ]
theorem In.put {w : World} {lo hi b off n c : Nat} {xs : List Value} (h : In w lo hi (.slice (some ⟨b, off, none⟩) n c) xs) (k : Nat) (hk : k < n) (x : Value) :
    In (w.setCell ⟨b, off + k, none⟩ x) lo hi (.slice (some ⟨b, off, none⟩) n c) (xs.set k x) := ⟨h.1.put k hk x, h.2⟩
theorem tw_set (w : World) (b o : Nat) (x : Value) : Tw b (b + 1) w (w.setCell ⟨b, o, none⟩ x) :=
  ⟨rfl, rfl, rfl, by simp [World.setCell], fun k hk hh => Below.heap_setCell _ _ _ _ (by simp only []; omega)⟩
theorem In.drewN {w : World} {lo hi : Nat} {v : Value} {xs : List Value} (h : In w lo hi v xs) (n : Nat) : In (w.drewN n) lo hi v xs := h
def SrRel (w0 : World) (gl gh hf : Nat) (list t1 t2 : List Nat) (i : Value) (wr : World) : Prop :=
  ∃ (j : Nat) (L1 L2 : List Nat), j ≤ hf ∧ i = .int .i64 j ∧ IsLs L1 (tpK list t1 j) ∧ IsLs L2 (tpK list t2 j) ∧
    In wr gl (gl + 1) (.slice (some ⟨gl, 0, none⟩) hf hf) (fl (pad L1 hf)) ∧ In wr gh (gh + 1) (.slice (some ⟨gh, 0, none⟩) hf hf) (fl (pad L2 hf)) ∧ Below w0.heap.size w0 wr
theorem sr_made (w : World) (n hf : Nat) (h : hf ≤ 64) :
    In (((w.drewN n).alloc (.cells (madeCells #[Value.float .f32 0] hf) 62)).alloc (.cells (madeCells #[Value.float .f32 0] hf) 62)) w.heap.size (w.heap.size + 1) (.slice (some ⟨w.heap.size, 0, none⟩) hf hf) (fl (pad [] hf)) ∧
    In (((w.drewN n).alloc (.cells (madeCells #[Value.float .f32 0] hf) 62)).alloc (.cells (madeCells #[Value.float .f32 0] hf) 62)) (w.heap.size + 1) (w.heap.size + 1 + 1) (.slice (some ⟨w.heap.size + 1, 0, none⟩) hf hf) (fl (pad [] hf)) ∧
    Below w.heap.size w (((w.drewN n).alloc (.cells (madeCells #[Value.float .f32 0] hf) 62)).alloc (.cells (madeCells #[Value.float .f32 0] hf) 62)) := by
  have e : (madeCells #[Value.float .f32 0] hf).toList = fl (pad [] hf) := by rw [toList_madeCells_one]; simp [fl, pad]
  have es : (madeCells #[Value.float .f32 0] hf).size = hf * 1 := by rw [← Array.length_toList, e, fl_len, pad_len (Nat.zero_le _), Nat.mul_one]
  have r1 := World.ownsRow_lit (base := w.heap.size) (e := 62) (size := 1) (w.drewN n) (madeCells #[Value.float .f32 0] hf) hf (Nat.le_refl _) (by unfold maxLen; omega) es
  have r2 := World.ownsRow_lit (base := w.heap.size + 1) (e := 62) (size := 1) ((w.drewN n).alloc (.cells (madeCells #[Value.float .f32 0] hf) 62)) (madeCells #[Value.float .f32 0] hf) hf (by simp) (by unfold maxLen; omega) es
  rw [e] at r1 r2
  refine ⟨⟨Own.row (r1.alloc _), fun a m c ea _ => ?_⟩, ⟨?_, fun a m c ea _ => ?_⟩, ?_⟩
  · cases ea; simp
  · have := Own.row r2
    simpa using this
  · cases ea; simp
  · exact ((below_drawn (Below.refl w.heap.size w) n).alloc (Nat.le_refl _) _).alloc (by simp) _
set_option maxRecDepth 100000 in
set_option maxHeartbeats 4000000 in
theorem srI_any (v u : Value) (list taps : List Nat) (w : World) (h : Rd w w.heap.size v (fl list)) (k : Rd w w.heap.size u (fl taps)) (hm : list.length ≤ 1048576) (hm2 : taps.length ≤ 1048576) (hx : ∀ x ∈ list, x < 2 ^ 32) (hy : ∀ x ∈ taps, x < 2 ^ 32) :
    Calls Try.prog 35 #[v, .agg #[u]] w (RetTwo (srL list taps) (srH list taps) (srB list taps) w) := by
  obtain ⟨i0, hi, hz0, hz1, hz2⟩ := info_parts infoF
  have hb2 : Below w.heap.size w (w.alloc (.cells #[u] 24)) := (Below.refl _ _).alloc (Nat.le_refl _) _
  have hcell : (w.alloc (.cells #[u] 24)).cell? ⟨w.heap.size, 0, none⟩ = some u := (cell_of_row _ _ _ _ _ _ (heap_alloc_new w _)).trans rfl
  have hz : w.heap.size < (w.alloc (.cells #[u] 24)).heap.size := by simp
  have HH := Lib.hid (hioI_any u taps _ (k.step hb2) hm2 hy)
  have HRL := Lib.hid (h.step hb2)
  have HRT := Lib.hid (k.step hb2)
  have HX := Lib.hid hx
  obtain ⟨A, c, hv, q1, q2, q3⟩ := id h
  obtain ⟨A', c', hu, q4, q5, q6⟩ := id k
  rw [fl_len] at hv hu
  subst hv hu
  clear hx hy h k q1 q2 q3 q4 q5 q6
  cases hvp : vpB taps with
  | false =>
    have HVP := Lib.hid (show srB list taps = false by unfold srB; rw [hvp]; simp)
    have HHR := Lib.hid (show hiR taps = [] by unfold hiR; rw [hvp]; rfl)
    rw [hvp] at HH
    clear hvp
    go_enter Try.func35, Try.ntmps35
    go_wp2_with fail
    refine HH.out.mono ?_
    rintro e w1 ⟨vh, rfl, oh, hbh⟩
    rw [HHR.out] at oh
    obtain ⟨Ah, ch, hvh, _, _, _⟩ := id oh
    subst hvh
    go_wp2_with fail
    go_ret3
    unfold srL srH
    rw [HVP.out]
    exact retTwo_nil (hb2.trans (hbh.mono hb2.size))
  | true =>
    obtain ⟨k1, k2, k3, k4⟩ := vpB_len hvp
    have HHR := Lib.hid (show hiR taps = hiK taps taps.length by unfold hiR; rw [hvp]; rfl)
    rw [hvp] at HH
    cases hil : isL list with
    | false =>
      have HSB := Lib.hid (show srB list taps = false by unfold srB; rw [hil]; simp)
      have HIL := Lib.hid hil
      clear hvp hil k1 k2 k3 k4
      go_enter Try.func35, Try.ntmps35
      go_wp2_with fail
      refine HH.out.mono ?_
      rintro e w1 ⟨vh, rfl, oh, hbh⟩
      rw [HHR.out] at oh
      obtain ⟨Ah, ch, hvh, _, _, _⟩ := id oh
      rw [fl_len, hiK_len] at hvh
      subst hvh
      have HLN := Lib.hid (lngI_any _ list w1 _ (HRL.out.step hbh) hm HX.out)
      rw [HIL.out] at HLN
      clear oh
      go_wp2_with fail
      refine HLN.out.mono ?_
      rintro e w2 ⟨rfl, n2, rfl⟩
      go_wp2_with fail
      go_ret3
      unfold srL srH
      rw [HSB.out]
      exact retTwo_nil (below_drawn (hb2.trans (hbh.mono hb2.size)) _)
    | true =>
      obtain ⟨m1, m2, m3⟩ := isL_len hil
      by_cases hev : list.length % 2 = 0
      · have hme : ((list.length : Int) % 2 != 0) = false := by rw [bne_eq_false_iff_eq]; omega
        obtain ⟨hf, hfd⟩ : ∃ n : Nat, n = list.length / 2 := ⟨_, rfl⟩
        have hhi : (list.length : Int) / 2 = (hf : Int) := by omega
        have hqt : Int.tdiv (list.length : Int) 2 = (hf : Int) := by rw [← hhi]; exact Int.tdiv_eq_ediv_of_nonneg (by omega)
        have hwq : IntKind.i64.wrap (hf : Int) = (hf : Int) := by rw [IntKind.wrap_i64]; omega
        have hf1 : 1 ≤ hf := by omega
        have hf2 : hf ≤ 64 := by omega
        have hmk := fun W => run_mkN (P := Try.prog) 22 62 i0 (.float .f32 0) Try.underlying22 hi hz0 hf (by rw [hz2]; omega) (by omega) W
        rw [hz1] at hmk
        have HEV := Lib.hid hev
        have HFD := Lib.hid hfd
        have HIL := Lib.hid hil
        have HVP := Lib.hid hvp
        clear hvp hil hev hfd hhi k3 k4 m3
        go_enter Try.func35, Try.ntmps35
        go_wp2_with fail
        refine HH.out.mono ?_
        rintro e w1 ⟨vh, rfl, oh, hbh⟩
        rw [HHR.out] at oh
        obtain ⟨Ah, ch, hvh, _, _, _⟩ := id oh
        rw [fl_len, hiK_len] at hvh
        subst hvh
        have hc1 := (hbh.cell (p := ⟨w.heap.size, 0, none⟩) hz).trans hcell
        have HLN := Lib.hid (lngI_any _ list w1 _ (HRL.out.step hbh) hm HX.out)
        rw [HIL.out] at HLN
        go_wp2_with fail
        refine HLN.out.mono ?_
        rintro e w2 ⟨rfl, n2, rfl⟩
        have hsf : ∀ (a : Addr) (x : Nat) (w : World), (store a (.float .f32 x)).run Try.prog w = stored Try.prog w a (.float .f32 x) .plain := fun a x w => run_store _ w a _ _ rfl
        have HMD := Lib.hid (fun n => sr_made w1 n hf hf2)
        have HH1 := Lib.hid oh.rd
        have HL1 := Lib.hid (HRL.out.step hbh)
        have HT1 := Lib.hid (HRT.out.step hbh)
        clear oh
        go_wp2_with fail
        go_region
        · obtain ⟨hm1, hm2, hm3⟩ := HMD.out (n2 + 1)
          go_wp2_with fail
          go_loopw [41] (SrRel w1 (w1.heap.size) ((w1.heap.size + 1)) hf list taps (hiK taps taps.length)) (fun i _ => hf - (intOf i).toNat)
          case atStart => exact ⟨0, [], [], Nat.zero_le _, rfl, isLs_nil, isLs_nil, hm1, hm2, hm3⟩
          case round =>
            clear hm1 hm2 hm3
            obtain ⟨j, L1, L2, hj, rfl, i1, i2, o1, o2, hb⟩ := hrel
            by_cases hlt : j < hf
            · have HLR := Lib.hid (HL1.out.step hb)
              have HB := Lib.hid hb
              have HO1 := Lib.hid o1
              have HO2 := Lib.hid o2
              have HI1 := Lib.hid i1
              have HI2 := Lib.hid i2
              have HRP := Lib.hid (rpI_any _ list j taps.length wr HLR.out m1 m2 (by omega) (by omega))
              have hjI : (j : Int) < (hf : Int) := by omega
              have hw1 : IntKind.i64.wrap (2 * (j : Int)) = 2 * (j : Int) := by rw [IntKind.wrap_i64]; omega
              have g1 := (o1.1.cells' (by omega)).2.1
              have g2 := (o2.1.cells' (by omega)).2.1
              have G1 := Lib.hid g1
              have G2 := Lib.hid g2
              have E1 := Lib.hid (tpK_succ list taps j)
              have E2 := Lib.hid (tpK_succ list (hiK taps taps.length) j)
              clear hb o1 o2 i1 i2 g1 g2
              go_wp2_with fail
              refine HRP.out.mono ?_
              rintro e w3 ⟨vp, rfl, hop, hb3⟩
              have hb4 : Below w1.heap.size w1 w3 := HB.out.trans (hb3.mono HB.out.size)
              have p1 := HO1.out.step hb3
              have p2 := HO2.out.step hb3
              have hcb : w3.cell? ⟨w.heap.size, 0, none⟩ = some (.slice A' taps.length c') := (hb4.cell (p := ⟨w.heap.size, 0, none⟩) (Nat.lt_of_lt_of_le hz hbh.size)).trans hc1
              have HD1 := Lib.hid (dotN_any _ vp taps (rpL list j taps.length) w3 _ (HT1.out.step hb4) hop.rd (rpL_len _ _ _) (by omega))
              have hlA : j < (fl (pad L1 hf)).length := by rw [fl_len, pad_len (by have := HI1.out.1; rw [tpK_len] at this; omega)]; exact hlt
              have hlB : j < (fl (pad L2 hf)).length := by rw [fl_len, pad_len (by have := HI2.out.1; rw [tpK_len] at this; omega)]; exact hlt
              obtain ⟨_, _, q1, f1⟩ := p1.1.cells' (by omega)
              have hd1 := q1 j _ (List.getElem?_eq_getElem hlA)
              have hf1' := f1 j hlt
              generalize (fl (pad L1 hf))[j] = x1 at hd1
              have P1 := Lib.hid p1
              have P2 := Lib.hid p2
              have HB4 := Lib.hid hb4
              have HOP := Lib.hid hop
              have HLA := Lib.hid hlA
              have HLB := Lib.hid hlB
              simp only [Nat.zero_add] at hd1 hf1'
              clear q1 f1 p1 p2 hb3 hb4 hop hlA hlB
              go_wp2_with fail
              refine HD1.out.mono ?_
              rintro e w4 ⟨r1, n3, rfl, hr1, rfl⟩
              go_wp2_with fail
              have t1 := tw_set (w3.drewN n3) w1.heap.size j (.float .f32 r1)
              have o5 : In ((w3.drewN n3).setCell ⟨w1.heap.size, j, none⟩ (.float .f32 r1)) w1.heap.size (w1.heap.size + 1) (.slice (some ⟨w1.heap.size, 0, none⟩) hf hf) (fl (pad (L1 ++ [r1]) hf)) := by
                have h := (P1.out.drewN n3).put j hlt (.float .f32 r1)
                rw [pad_set (by have := HI1.out.1; rw [tpK_len] at this; exact this) hlt, Nat.zero_add] at h
                exact h
              have o6 : In ((w3.drewN n3).setCell ⟨w1.heap.size, j, none⟩ (.float .f32 r1)) (w1.heap.size + 1) ((w1.heap.size + 1) + 1) (.slice (some ⟨(w1.heap.size + 1), 0, none⟩) hf hf) (fl (pad L2 hf)) := (P2.out.drewN n3).tw t1 (by omega)
              have hb6 : Below w1.heap.size w1 ((w3.drewN n3).setCell ⟨w1.heap.size, j, none⟩ (.float .f32 r1)) := (below_drawn HB4.out n3).trans (t1.below (by omega) (by exact HB4.out.size))
              have hop6 : Own ((w3.drewN n3).setCell ⟨w1.heap.size, j, none⟩ (.float .f32 r1)) wr.heap.size vp (fl (rpL list j taps.length)) := (show Own (w3.drewN n3) wr.heap.size vp (fl (rpL list j taps.length)) from HOP.out).tw HOP.out.blw t1 (.inr (by have := G1.out; omega))
              have HD2 := Lib.hid (dotN_any _ vp (hiK taps taps.length) (rpL list j taps.length) _ _ (HH1.out.step hb6) hop6.rd (by rw [rpL_len, hiK_len]) (by rw [hiK_len]; omega))
              obtain ⟨_, _, q2, f2⟩ := o6.1.cells' (by omega)
              have hd2 := q2 j _ (List.getElem?_eq_getElem HLB.out)
              have hf2' := f2 j hlt
              generalize (fl (pad L2 hf))[j] = x2 at hd2
              simp only [Nat.zero_add] at hd2 hf2'
              have O5 := Lib.hid o5
              have O6 := Lib.hid o6
              have HB6 := Lib.hid hb6
              have R1 := Lib.hid hr1
              clear q2 f2 o5 o6 hb6 hop6 t1 hd1 hf1' hcb hr1
              generalize (w3.drewN n3).setCell ⟨w1.heap.size, j, none⟩ (.float .f32 r1) = w5 at *
              refine HD2.out.mono ?_
              rintro e w6 ⟨r2, n4, rfl, hr2, rfl⟩
              have t2 := tw_set (w5.drewN n4) (w1.heap.size + 1) j (.float .f32 r2)
              have o7 : In ((w5.drewN n4).setCell ⟨(w1.heap.size + 1), j, none⟩ (.float .f32 r2)) (w1.heap.size + 1) ((w1.heap.size + 1) + 1) (.slice (some ⟨(w1.heap.size + 1), 0, none⟩) hf hf) (fl (pad (L2 ++ [r2]) hf)) := by
                have h := (O6.out.drewN n4).put j hlt (.float .f32 r2)
                rw [pad_set (by have := HI2.out.1; rw [tpK_len] at this; exact this) hlt, Nat.zero_add] at h
                exact h
              have o8 : In ((w5.drewN n4).setCell ⟨(w1.heap.size + 1), j, none⟩ (.float .f32 r2)) w1.heap.size (w1.heap.size + 1) (.slice (some ⟨w1.heap.size, 0, none⟩) hf hf) (fl (pad (L1 ++ [r1]) hf)) := (O5.out.drewN n4).tw t2 (by omega)
              have hb8 : Below w1.heap.size w1 ((w5.drewN n4).setCell ⟨(w1.heap.size + 1), j, none⟩ (.float .f32 r2)) := (below_drawn HB6.out n4).trans (t2.below (by omega) (by exact HB6.out.size))
              have O7 := Lib.hid o7
              have O8 := Lib.hid o8
              have HB8 := Lib.hid hb8
              have I1 := Lib.hid (isLs_app HI1.out (show Is .f32 r1 (tpA list taps j) from R1.out))
              have I2 := Lib.hid (isLs_app HI2.out (show Is .f32 r2 (tpA list (hiK taps taps.length) j) by unfold tpA; rw [hiK_len]; rw [hiK_len] at hr2; exact hr2))
              clear o7 o8 hb8 t2 hr2
              go_wp2_with fail
              go_roundw
              case rel => exact ⟨j + 1, _, _, by omega, by go_num, by rw [E1.out]; exact I1.out, by rw [E2.out]; exact I2.out, O8.out, O7.out, HB8.out⟩
              case measure => simp [intOf]; omega
            · have hje : hf = j := by omega
              subst hje
              have hL1 : L1.length = hf := by have := i1.1; rw [tpK_len] at this; exact this
              have hL2 : L2.length = hf := by have := i2.1; rw [tpK_len] at this; exact this
              rw [pad_all hL1] at o1
              rw [pad_all hL2] at o2
              have HF1 := Lib.hid (finI_any _ L1 wr _ o1.rd (by omega) (isLs_lt i1))
              have HF2 := Lib.hid (fun n => finI_any _ L2 (wr.drewN n) _ (o2.drewN n).rd (by omega) (isLs_lt i2))
              rw [isLs_fin i1] at HF1
              rw [isLs_fin i2] at HF2
              have O1 := Lib.hid o1
              have O2 := Lib.hid o2
              have I1 := Lib.hid i1
              have I2 := Lib.hid i2
              have g1 := (o1.1.cells' (by omega)).2.1
              have g2 := (o2.1.cells' (by omega)).2.1
              have G1 := Lib.hid g1
              have G2 := Lib.hid g2
              have HB := Lib.hid (show Below w.heap.size w wr from hb2.trans ((hbh.trans (hb.mono hbh.size)).mono hb2.size))
              have HZ := Lib.hid (show w.heap.size ≤ w1.heap.size by have := hb2.size; have := hbh.size; omega)
              clear hL1 hL2 o1 o2 i1 i2 hb g1 g2
              cases ha : finA (tpK list taps hf) with
              | false =>
                rw [ha] at HF1
                have HSB := Lib.hid (show srB list taps = false by unfold srB; rw [← HFD.out, ha]; simp)
                clear ha
                go_wp2_with fail
                refine HF1.out.mono ?_
                rintro e w5 ⟨rfl, n5, rfl⟩
                go_wp2_with fail
                go_ret3
                unfold srL srH
                rw [HSB.out]
                exact retTwo_nil (below_drawn HB.out _)
              | true =>
                rw [ha] at HF1
                have HA := Lib.hid ha
                cases hc : finA (tpK list (hiK taps taps.length) hf) with
                | false =>
                  rw [hc] at HF2
                  have HSB := Lib.hid (show srB list taps = false by unfold srB; rw [← HFD.out, hc]; simp)
                  clear ha hc
                  go_wp2_with fail
                  refine HF1.out.mono ?_
                  rintro e w5 ⟨rfl, n5, rfl⟩
                  go_wp2_with fail
                  refine (HF2.out _).mono ?_
                  rintro e w6 ⟨rfl, n6, rfl⟩
                  go_wp2_with fail
                  go_ret3
                  unfold srL srH
                  rw [HSB.out]
                  exact retTwo_nil (below_drawn HB.out _)
                | true =>
                  rw [hc] at HF2
                  have HC := Lib.hid hc
                  have HSB := Lib.hid (show srB list taps = true by unfold srB; rw [← HFD.out, hc, ha, HVP.out, HIL.out]; simp [HEV.out])
                  clear ha hc
                  go_wp2_with fail
                  refine HF1.out.mono ?_
                  rintro e w5 ⟨rfl, n5, rfl⟩
                  go_wp2_with fail
                  refine (HF2.out _).mono ?_
                  rintro e w6 ⟨rfl, n6, rfl⟩
                  go_wp2_with fail
                  go_ret3
                  unfold srL srH
                  rw [HSB.out, if_pos rfl, if_pos rfl, ← HFD.out, ← isLs_eq I1.out HA.out, ← isLs_eq I2.out HC.out]
                  exact ⟨_, _, w1.heap.size, w1.heap.size + 1, (w1.heap.size + 1), (w1.heap.size + 1) + 1, rfl, O1.out.drewN _, O2.out.drewN _, by have := HZ.out; omega, by have := HZ.out; omega, G1.out, G2.out, by omega, below_drawn HB.out _⟩
        · obtain ⟨hm1, hm2, hm3⟩ := HMD.out (n2 + 1)
          go_wp2_with fail
          go_loopw [41] (SrRel w1 ((w1.heap.size + 1)) (w1.heap.size) hf list taps (hiK taps taps.length)) (fun i _ => hf - (intOf i).toNat)
          case atStart => exact ⟨0, [], [], Nat.zero_le _, rfl, isLs_nil, isLs_nil, hm2, hm1, hm3⟩
          case round =>
            clear hm1 hm2 hm3
            obtain ⟨j, L1, L2, hj, rfl, i1, i2, o1, o2, hb⟩ := hrel
            by_cases hlt : j < hf
            · have HLR := Lib.hid (HL1.out.step hb)
              have HB := Lib.hid hb
              have HO1 := Lib.hid o1
              have HO2 := Lib.hid o2
              have HI1 := Lib.hid i1
              have HI2 := Lib.hid i2
              have HRP := Lib.hid (rpI_any _ list j taps.length wr HLR.out m1 m2 (by omega) (by omega))
              have hjI : (j : Int) < (hf : Int) := by omega
              have hw1 : IntKind.i64.wrap (2 * (j : Int)) = 2 * (j : Int) := by rw [IntKind.wrap_i64]; omega
              have g1 := (o1.1.cells' (by omega)).2.1
              have g2 := (o2.1.cells' (by omega)).2.1
              have G1 := Lib.hid g1
              have G2 := Lib.hid g2
              have E1 := Lib.hid (tpK_succ list taps j)
              have E2 := Lib.hid (tpK_succ list (hiK taps taps.length) j)
              clear hb o1 o2 i1 i2 g1 g2
              go_wp2_with fail
              refine HRP.out.mono ?_
              rintro e w3 ⟨vp, rfl, hop, hb3⟩
              have hb4 : Below w1.heap.size w1 w3 := HB.out.trans (hb3.mono HB.out.size)
              have p1 := HO1.out.step hb3
              have p2 := HO2.out.step hb3
              have hcb : w3.cell? ⟨w.heap.size, 0, none⟩ = some (.slice A' taps.length c') := (hb4.cell (p := ⟨w.heap.size, 0, none⟩) (Nat.lt_of_lt_of_le hz hbh.size)).trans hc1
              have HD1 := Lib.hid (dotN_any _ vp taps (rpL list j taps.length) w3 _ (HT1.out.step hb4) hop.rd (rpL_len _ _ _) (by omega))
              have hlA : j < (fl (pad L1 hf)).length := by rw [fl_len, pad_len (by have := HI1.out.1; rw [tpK_len] at this; omega)]; exact hlt
              have hlB : j < (fl (pad L2 hf)).length := by rw [fl_len, pad_len (by have := HI2.out.1; rw [tpK_len] at this; omega)]; exact hlt
              obtain ⟨_, _, q1, f1⟩ := p1.1.cells' (by omega)
              have hd1 := q1 j _ (List.getElem?_eq_getElem hlA)
              have hf1' := f1 j hlt
              generalize (fl (pad L1 hf))[j] = x1 at hd1
              have P1 := Lib.hid p1
              have P2 := Lib.hid p2
              have HB4 := Lib.hid hb4
              have HOP := Lib.hid hop
              have HLA := Lib.hid hlA
              have HLB := Lib.hid hlB
              simp only [Nat.zero_add] at hd1 hf1'
              clear q1 f1 p1 p2 hb3 hb4 hop hlA hlB
              go_wp2_with fail
              refine HD1.out.mono ?_
              rintro e w4 ⟨r1, n3, rfl, hr1, rfl⟩
              go_wp2_with fail
              have t1 := tw_set (w3.drewN n3) (w1.heap.size + 1) j (.float .f32 r1)
              have o5 : In ((w3.drewN n3).setCell ⟨(w1.heap.size + 1), j, none⟩ (.float .f32 r1)) (w1.heap.size + 1) ((w1.heap.size + 1) + 1) (.slice (some ⟨(w1.heap.size + 1), 0, none⟩) hf hf) (fl (pad (L1 ++ [r1]) hf)) := by
                have h := (P1.out.drewN n3).put j hlt (.float .f32 r1)
                rw [pad_set (by have := HI1.out.1; rw [tpK_len] at this; exact this) hlt, Nat.zero_add] at h
                exact h
              have o6 : In ((w3.drewN n3).setCell ⟨(w1.heap.size + 1), j, none⟩ (.float .f32 r1)) w1.heap.size (w1.heap.size + 1) (.slice (some ⟨w1.heap.size, 0, none⟩) hf hf) (fl (pad L2 hf)) := (P2.out.drewN n3).tw t1 (by omega)
              have hb6 : Below w1.heap.size w1 ((w3.drewN n3).setCell ⟨(w1.heap.size + 1), j, none⟩ (.float .f32 r1)) := (below_drawn HB4.out n3).trans (t1.below (by omega) (by exact HB4.out.size))
              have hop6 : Own ((w3.drewN n3).setCell ⟨(w1.heap.size + 1), j, none⟩ (.float .f32 r1)) wr.heap.size vp (fl (rpL list j taps.length)) := (show Own (w3.drewN n3) wr.heap.size vp (fl (rpL list j taps.length)) from HOP.out).tw HOP.out.blw t1 (.inr (by have := G1.out; omega))
              have HD2 := Lib.hid (dotN_any _ vp (hiK taps taps.length) (rpL list j taps.length) _ _ (HH1.out.step hb6) hop6.rd (by rw [rpL_len, hiK_len]) (by rw [hiK_len]; omega))
              obtain ⟨_, _, q2, f2⟩ := o6.1.cells' (by omega)
              have hd2 := q2 j _ (List.getElem?_eq_getElem HLB.out)
              have hf2' := f2 j hlt
              generalize (fl (pad L2 hf))[j] = x2 at hd2
              simp only [Nat.zero_add] at hd2 hf2'
              have O5 := Lib.hid o5
              have O6 := Lib.hid o6
              have HB6 := Lib.hid hb6
              have R1 := Lib.hid hr1
              clear q2 f2 o5 o6 hb6 hop6 t1 hd1 hf1' hcb hr1
              generalize (w3.drewN n3).setCell ⟨(w1.heap.size + 1), j, none⟩ (.float .f32 r1) = w5 at *
              refine HD2.out.mono ?_
              rintro e w6 ⟨r2, n4, rfl, hr2, rfl⟩
              have t2 := tw_set (w5.drewN n4) w1.heap.size j (.float .f32 r2)
              have o7 : In ((w5.drewN n4).setCell ⟨w1.heap.size, j, none⟩ (.float .f32 r2)) w1.heap.size (w1.heap.size + 1) (.slice (some ⟨w1.heap.size, 0, none⟩) hf hf) (fl (pad (L2 ++ [r2]) hf)) := by
                have h := (O6.out.drewN n4).put j hlt (.float .f32 r2)
                rw [pad_set (by have := HI2.out.1; rw [tpK_len] at this; exact this) hlt, Nat.zero_add] at h
                exact h
              have o8 : In ((w5.drewN n4).setCell ⟨w1.heap.size, j, none⟩ (.float .f32 r2)) (w1.heap.size + 1) ((w1.heap.size + 1) + 1) (.slice (some ⟨(w1.heap.size + 1), 0, none⟩) hf hf) (fl (pad (L1 ++ [r1]) hf)) := (O5.out.drewN n4).tw t2 (by omega)
              have hb8 : Below w1.heap.size w1 ((w5.drewN n4).setCell ⟨w1.heap.size, j, none⟩ (.float .f32 r2)) := (below_drawn HB6.out n4).trans (t2.below (by omega) (by exact HB6.out.size))
              have O7 := Lib.hid o7
              have O8 := Lib.hid o8
              have HB8 := Lib.hid hb8
              have I1 := Lib.hid (isLs_app HI1.out (show Is .f32 r1 (tpA list taps j) from R1.out))
              have I2 := Lib.hid (isLs_app HI2.out (show Is .f32 r2 (tpA list (hiK taps taps.length) j) by unfold tpA; rw [hiK_len]; rw [hiK_len] at hr2; exact hr2))
              clear o7 o8 hb8 t2 hr2
              go_wp2_with fail
              go_roundw
              case rel => exact ⟨j + 1, _, _, by omega, by go_num, by rw [E1.out]; exact I1.out, by rw [E2.out]; exact I2.out, O8.out, O7.out, HB8.out⟩
              case measure => simp [intOf]; omega
            · have hje : hf = j := by omega
              subst hje
              have hL1 : L1.length = hf := by have := i1.1; rw [tpK_len] at this; exact this
              have hL2 : L2.length = hf := by have := i2.1; rw [tpK_len] at this; exact this
              rw [pad_all hL1] at o1
              rw [pad_all hL2] at o2
              have HF1 := Lib.hid (finI_any _ L1 wr _ o1.rd (by omega) (isLs_lt i1))
              have HF2 := Lib.hid (fun n => finI_any _ L2 (wr.drewN n) _ (o2.drewN n).rd (by omega) (isLs_lt i2))
              rw [isLs_fin i1] at HF1
              rw [isLs_fin i2] at HF2
              have O1 := Lib.hid o1
              have O2 := Lib.hid o2
              have I1 := Lib.hid i1
              have I2 := Lib.hid i2
              have g1 := (o1.1.cells' (by omega)).2.1
              have g2 := (o2.1.cells' (by omega)).2.1
              have G1 := Lib.hid g1
              have G2 := Lib.hid g2
              have HB := Lib.hid (show Below w.heap.size w wr from hb2.trans ((hbh.trans (hb.mono hbh.size)).mono hb2.size))
              have HZ := Lib.hid (show w.heap.size ≤ w1.heap.size by have := hb2.size; have := hbh.size; omega)
              clear hL1 hL2 o1 o2 i1 i2 hb g1 g2
              cases ha : finA (tpK list taps hf) with
              | false =>
                rw [ha] at HF1
                have HSB := Lib.hid (show srB list taps = false by unfold srB; rw [← HFD.out, ha]; simp)
                clear ha
                go_wp2_with fail
                refine HF1.out.mono ?_
                rintro e w5 ⟨rfl, n5, rfl⟩
                go_wp2_with fail
                go_ret3
                unfold srL srH
                rw [HSB.out]
                exact retTwo_nil (below_drawn HB.out _)
              | true =>
                rw [ha] at HF1
                have HA := Lib.hid ha
                cases hc : finA (tpK list (hiK taps taps.length) hf) with
                | false =>
                  rw [hc] at HF2
                  have HSB := Lib.hid (show srB list taps = false by unfold srB; rw [← HFD.out, hc]; simp)
                  clear ha hc
                  go_wp2_with fail
                  refine HF1.out.mono ?_
                  rintro e w5 ⟨rfl, n5, rfl⟩
                  go_wp2_with fail
                  refine (HF2.out _).mono ?_
                  rintro e w6 ⟨rfl, n6, rfl⟩
                  go_wp2_with fail
                  go_ret3
                  unfold srL srH
                  rw [HSB.out]
                  exact retTwo_nil (below_drawn HB.out _)
                | true =>
                  rw [hc] at HF2
                  have HC := Lib.hid hc
                  have HSB := Lib.hid (show srB list taps = true by unfold srB; rw [← HFD.out, hc, ha, HVP.out, HIL.out]; simp [HEV.out])
                  clear ha hc
                  go_wp2_with fail
                  refine HF1.out.mono ?_
                  rintro e w5 ⟨rfl, n5, rfl⟩
                  go_wp2_with fail
                  refine (HF2.out _).mono ?_
                  rintro e w6 ⟨rfl, n6, rfl⟩
                  go_wp2_with fail
                  go_ret3
                  unfold srL srH
                  rw [HSB.out, if_pos rfl, if_pos rfl, ← HFD.out, ← isLs_eq I1.out HA.out, ← isLs_eq I2.out HC.out]
                  exact ⟨_, _, (w1.heap.size + 1), (w1.heap.size + 1) + 1, w1.heap.size, w1.heap.size + 1, rfl, O1.out.drewN _, O2.out.drewN _, by have := HZ.out; omega, by have := HZ.out; omega, G1.out, G2.out, by omega, below_drawn HB.out _⟩
      · have HSB := Lib.hid (show srB list taps = false by unfold srB; simp [hev])
        have hme : ((list.length : Int) % 2 != 0) = true := by simp; omega
        have HIL := Lib.hid hil
        clear hvp hil hev k1 k2 k3 k4 m1 m2 m3
        go_enter Try.func35, Try.ntmps35
        go_wp2_with fail
        refine HH.out.mono ?_
        rintro e w1 ⟨vh, rfl, oh, hbh⟩
        rw [HHR.out] at oh
        obtain ⟨Ah, ch, hvh, _, _, _⟩ := id oh
        rw [fl_len, hiK_len] at hvh
        subst hvh
        have HLN := Lib.hid (lngI_any _ list w1 _ (HRL.out.step hbh) hm HX.out)
        rw [HIL.out] at HLN
        clear oh
        go_wp2_with fail
        refine HLN.out.mono ?_
        rintro e w2 ⟨rfl, n2, rfl⟩
        go_wp2_with fail
        go_ret3
        unfold srL srH
        rw [HSB.out]
        exact retTwo_nil (below_drawn (hb2.trans (hbh.mono hb2.size)) _)
end Go.Proofs.Ytfhngajodfjkeaa
