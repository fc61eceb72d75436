/-
  Contract: the energies of all bands of a picture, by the program.
-/
import Derived.Test.YtfbdmhkmkmbipaaEiK
import Derived.Test.YtfbdmhkmkmbipaaPv
import Derived.Test.YtfbdmhkmkmbipaaRgi
namespace Go.Proofs.Ytfbdmhkmkmbipaa
open Go.RowKit Fl
set_option linter.unusedVariables false
set_option maxRecDepth 100000
set_option linter.unusedSimpArgs false
theorem infoRg : (Try.prog.info? 97).map (fun i => (i.zero, i.size, i.bytes)) = some (some (.agg #[.int .i64 0, .int .i64 0, .int .i64 0, .int .i64 0]), 4, 32) := by kernel_rfl
theorem cells_newE (w : World) (xs : List Value) (E : TypeId) : ∀ j u, xs[j]? = some u → (w.alloc (.cells xs.toArray E)).cell? ((⟨w.heap.size, 0, none⟩ : Addr).add j) = some u := by
  intro j u hu
  rw [Go.WideShapes.add_plain]
  refine (cell_of_row _ _ _ _ _ _ (heap_alloc_new w _)).trans ?_
  simpa using hu
theorem rg4_one (p q : Int) (a : Nat × Int) : ∀ u ∈ rg4 p q a, u.oneCell' = true := by
  intro u hu
  simp [rg4] at hu
  rcases hu with rfl | rfl | rfl | rfl <;> rfl
theorem rg4_three (p q : Int) (l : Nat) : ∀ u ∈ rg4 p q (l, 1) ++ rg4 p q (l, 2) ++ rg4 p q (l, 3), u.oneCell' = true := by
  intro u hu
  rcases List.mem_append.1 hu with h | h
  · rcases List.mem_append.1 h with h | h
    · exact rg4_one _ _ _ u h
    · exact rg4_one _ _ _ u h
  · exact rg4_one _ _ _ u h
def EnR (w9 : World) (p q : Int) (xs : List Nat) (L n : Nat) (v i : Value) (wr : World) : Prop :=
  ∃ (k : Nat) (cur : List Nat), k ≤ n ∧ i = .int .i64 k ∧ RowF w9 v cur wr ∧ IsLs cur (eiL p q xs L k) ∧ ∀ j, j < k → enO (eiE p q xs L j) = true
def PlR (wb : World) (p q : Int) (L : Nat) (v i : Value) (wr : World) : Prop :=
  ∃ l : Nat, l ≤ L ∧ i = .int .i64 ((l : Int) + 1) ∧ wr.ownsRow wb.heap.size 97 4 v (3 * l) (plc p q L (3 * l)) ∧ Below wb.heap.size wb wr
set_option maxHeartbeats 8000000 in
theorem eiI_any (v : Value) (p q lev : Int) (xs : List Nat) (w : World) (h : Rd w w.heap.size v (fl xs)) (hm : xs.length ≤ 1048576) (hx : ∀ x ∈ xs, x < 2 ^ 32) :
    Calls Try.prog 48 #[.agg #[.int .i64 p, .int .i64 q, v], .int .i64 lev] w (RetEi (eiR p q xs lev) (eiB p q xs lev) w) := by
  obtain ⟨Ax, cx, hvx, hnc, hcm, hcc⟩ := id h
  rw [fl_len] at hvx hnc hcc
  subst hvx
  obtain ⟨w1, hw1⟩ : ∃ w1, w1 = (w.alloc (Obj.cells #[.int .i64 p, .int .i64 q, (.slice Ax xs.length cx)] 50)) := ⟨_, rfl⟩
  have hb01 : Below w.heap.size w w1 := by rw [hw1]; exact (Below.refl _ _).alloc (Nat.le_refl _) _
  have HB01 := Lib.hid hb01
  have hg : w.heap.size < w1.heap.size := by rw [hw1]; simp
  have K0 := Lib.hid (show w1.cell? ⟨w.heap.size, 0, none⟩ = some (.int .i64 p) by rw [hw1]; exact (cell_of_row _ _ _ _ _ _ (heap_alloc_new w _)).trans rfl)
  have K1 := Lib.hid (show w1.cell? ⟨w.heap.size, 1, none⟩ = some (.int .i64 q) by rw [hw1]; exact (cell_of_row _ _ _ _ _ _ (heap_alloc_new w _)).trans rfl)
  have K2 := Lib.hid (show w1.cell? ⟨w.heap.size, 2, none⟩ = some ((.slice Ax xs.length cx)) by rw [hw1]; exact (cell_of_row _ _ _ _ _ _ (heap_alloc_new w _)).trans rfl)
  have HRX := Lib.hid ((h.below hb01).more (Nat.le_of_lt hg))
  have HW1 := Lib.hid hw1
  have HXX := Lib.hid hx
  clear hw1 hb01 h hx
  obtain h1 | h1 : vpcB p q xs = false ∨ vpcB p q xs = true := by cases vpcB p q xs <;> simp
  · have HVB := Lib.hid h1
    have HOK := Lib.hid (show eiB p q xs lev = false by unfold eiB; rw [h1]; rfl)
    clear h1
    go_enter Try.func48, Try.ntmps48
    go_wp2_with (go_at_call 80; rw [← HW1.out]; refine (vpI_any (.slice Ax xs.length cx) p q xs w1 HRX.out hm HXX.out).mono ?_; rintro e w2 ⟨rfl, hb2⟩; rw [HVB.out]; have k0 := (hb2.cell (p := ⟨w.heap.size, 0, none⟩) hg).trans K0.out; have k1 := (hb2.cell (p := ⟨w.heap.size, 1, none⟩) hg).trans K1.out; have k2 := (hb2.cell (p := ⟨w.heap.size, 2, none⟩) hg).trans K2.out; have HB2 := Lib.hid hb2; clear hb2)
    exact bodyPost_ret (v := .tuple #[.slice none 0 0, .bool false]) (by simp [results, Try.results48, go_sem]) rfl (retEi_no HOK.out (HB01.out.trans (HB2.out.mono (Nat.le_of_lt hg))))
  · obtain h2 | h2 : lvB lev = false ∨ lvB lev = true := by cases lvB lev <;> simp
    · have HVB := Lib.hid h1
      have HLB := Lib.hid (show decide (1 ≤ lev ∧ lev ≤ 4) = false from h2)
      have HOK := Lib.hid (show eiB p q xs lev = false by unfold eiB; rw [h1, h2]; rfl)
      clear h1 h2
      go_enter Try.func48, Try.ntmps48
      go_wp2_with (first | (go_at_call 80; rw [← HW1.out]; refine (vpI_any (.slice Ax xs.length cx) p q xs w1 HRX.out hm HXX.out).mono ?_; rintro e w2 ⟨rfl, hb2⟩; rw [HVB.out]; have k0 := (hb2.cell (p := ⟨w.heap.size, 0, none⟩) hg).trans K0.out; have k1 := (hb2.cell (p := ⟨w.heap.size, 1, none⟩) hg).trans K1.out; have k2 := (hb2.cell (p := ⟨w.heap.size, 2, none⟩) hg).trans K2.out; have HB2 := Lib.hid hb2; clear hb2) | (go_at_call 102; refine (lvI_any _ w2).mono ?_; rintro e w3 ⟨rfl, rfl⟩; rw [HLB.out]))
      exact bodyPost_ret (v := .tuple #[.slice none 0 0, .bool false]) (by simp [results, Try.results48, go_sem]) rfl (retEi_no HOK.out (HB01.out.trans (HB2.out.mono (Nat.le_of_lt hg))))
    · have HVB := Lib.hid h1
      obtain ⟨hp, hq, hpq, hfx⟩ := vpcB_out h1
      have hlv : 1 ≤ lev ∧ lev ≤ 4 := of_decide_eq_true h2
      obtain ⟨L, rfl⟩ : ∃ L : Nat, lev = (L : Int) := ⟨lev.toNat, by omega⟩
      have hL : 1 ≤ L ∧ L ≤ 4 := by omega
      have HLB := Lib.hid (show decide (1 ≤ (L : Int) ∧ (L : Int) ≤ 4) = true from h2)
      have HEB := Lib.hid (show eiB p q xs (L : Int) = finA (eiL p q xs L (3 * L + 1)) by unfold eiB; rw [h1, h2]; simp)
      clear h1 h2 hlv
      obtain ⟨i0, hi, hz0, hz1, hz2⟩ := info_parts infoRg
      obtain ⟨j0, hj, hy0, hy1, hy2⟩ := info_parts infoF
      have hxp : 0 < xs.length := by have := Int.mul_pos (show 0 < p by omega) (show 0 < q by omega); omega
      obtain ⟨bx, ofx, rfl, hbx, hcx⟩ := hcc hxp
      have HXC := Lib.hid (show ∀ (W : World), Below w.heap.size w W → ∀ (i : Nat), i < xs.length → W.cell? ⟨bx, ofx + i, none⟩ = some (.float .f32 (xs.getD i 0)) from fun W hB i hi => (hB.cell (p := ⟨bx, ofx + i, none⟩) hbx).trans ((hcx i _ (fl_get xs i hi)).trans (by simp [List.getD, hi])))
      clear hcx
      go_enter Try.func48, Try.ntmps48
      go_wp2_with (first | (go_at_call 80; rw [← HW1.out]; refine (vpI_any (.slice (some ⟨bx, ofx, none⟩) xs.length cx) p q xs w1 HRX.out hm HXX.out).mono ?_; rintro e w2 ⟨rfl, hb2⟩; rw [HVB.out]; have k0 := (hb2.cell (p := ⟨w.heap.size, 0, none⟩) hg).trans K0.out; have k1 := (hb2.cell (p := ⟨w.heap.size, 1, none⟩) hg).trans K1.out; have k2 := (hb2.cell (p := ⟨w.heap.size, 2, none⟩) hg).trans K2.out; have HB2 := Lib.hid hb2; clear hb2) | (go_at_call 102; refine (lvI_any _ w2).mono ?_; rintro e w3 ⟨rfl, rfl⟩; rw [HLB.out]) | (go_at_call 79; refine (sid_any p q _ xs.length cx w2).mono ?_; rintro e w4 ⟨rfl, hb4⟩; have HB4 := Lib.hid hb4; clear hb4))
      have HB14 := Lib.hid (HB2.out.trans (HB4.out.mono HB2.out.size))
      clear k0 k1 k2
      go_loopw [7, 8] (PlR w4 p q L) (fun _ i _ => (L + 1) - (intOf i).toNat)
      case atStart => exact ⟨0, Nat.zero_le _, by simp, by simpa [plc] using World.ownsRow_made (base := w4.heap.size) (e := 97) (size := 4) w4 #[] 0 (Nat.le_refl _) (Nat.zero_le _) rfl, (Below.refl _ _).alloc (Nat.le_refl _) _⟩
      case round =>
        obtain ⟨l, hl, rfl, ho, hb⟩ := hrel
        have HO := Lib.hid ho
        have HB7 := Lib.hid hb
        clear ho hb
        by_cases hlt : l < L
        · have hle : (l : Int) + 1 ≤ (L : Int) := by omega
          have HBD := Lib.hid (show ∀ (W : World) (b : Int), 0 ≤ b ∧ b ≤ 3 → Calls Try.prog 103 #[.agg #[.int .i64 p, .int .i64 q], .int .i64 ((l : Int) + 1), .int .i64 b] W (fun e w' => e = .returned (.agg #[.int .i64 (rgX l b p q), .int .i64 (rgY l b p q), .int .i64 (rgW l b p q), .int .i64 (rgH l b p q)]) ∧ Below W.heap.size W w') from fun W b hb => by have := bdI_any p q (l + 1) b W hp hq (by omega) hb; simpa using this)
          have HT := Lib.hid (plc_three p q hlt)
          go_wp2_with (first | (go_at_call 103; (with_reducible refine (HBD.out w6 3 (by omega)).mono ?_); rintro e w9 ⟨rfl, hb9⟩; have HC9 := Lib.hid hb9; clear hb9) | (go_at_call 103; (with_reducible refine (HBD.out w5 2 (by omega)).mono ?_); rintro e w6 ⟨rfl, hb6⟩; have HC6 := Lib.hid hb6; clear hb6) | (go_at_call 103; (with_reducible refine (HBD.out wr 1 (by omega)).mono ?_); rintro e w5 ⟨rfl, hb5⟩; have HC5 := Lib.hid hb5; clear hb5) | (at_builtin; refine wpList_append_own _ rfl _ _ 117 rfl w4.heap.size 97 i0 (.agg #[.int .i64 0, .int .i64 0, .int .i64 0, .int .i64 0]) 4 32 Try.underlying117 hi hz0 hz1 hz2 rfl (by decide) _ _ _ rfl ((row_step HO.out (HC5.out.trans ((HC6.out.trans (HC9.out.mono HC6.out.size)).mono HC5.out.size))).alloc _) ⟨w9.heap.size, 0, none⟩ 3 3 (rg4 p q (l, 1) ++ rg4 p q (l, 2) ++ rg4 p q (l, 3)) rfl rfl (cells_newE _ _ _) (rg4_three p q l) (by unfold maxLen; omega) (by omega) (by simp; have := HB7.out.size; have := HC5.out.size; have := HC6.out.size; have := HC9.out.size; omega) ?_; intro vx wx hownx hgrowx _))
          have hb9 := HC5.out.trans ((HC6.out.trans (HC9.out.mono HC6.out.size)).mono HC5.out.size)
          have q1 : wx.ownsRow w4.heap.size 97 4 vx (3 * (l + 1)) (plc p q L (3 * (l + 1))) := by rw [← HT.out, show 3 * (l + 1) = 3 * l + 3 by omega]; exact hownx
          have q2 : Below w4.heap.size w4 wx := ((HB7.out.trans (hb9.mono HB7.out.size)).alloc (by have := HB7.out.size; have := hb9.size; omega) _).grown hgrowx (by simp; have := HB7.out.size; have := hb9.size; omega) (fun j hj => (HO.out.lt j hj).1)
          clear hownx hgrowx
          go_wp2_with fail
          go_roundw
          case rel => exact ⟨l + 1, by omega, by simp, q1, q2⟩
          case measure => simp [intOf]; omega
        · obtain rfl : l = L := by omega
          have hgt : (l : Int) < (l : Int) + 1 := by omega
          have HBD := Lib.hid (show ∀ (W : World) (b : Int), 0 ≤ b ∧ b ≤ 3 → Calls Try.prog 103 #[.agg #[.int .i64 p, .int .i64 q], .int .i64 (l : Int), .int .i64 b] W (fun e w' => e = .returned (.agg #[.int .i64 (rgX (l - 1) b p q), .int .i64 (rgY (l - 1) b p q), .int .i64 (rgW (l - 1) b p q), .int .i64 (rgH (l - 1) b p q)]) ∧ Below W.heap.size W w') from fun W b hb => bdI_any p q l b W hp hq hL hb)
          have HT := Lib.hid (show plc p q l (3 * l) ++ rg4 p q (l - 1, 0) = plc p q l (3 * l + 1) by rw [← plc_succ, eiA_last])
          have HB8 := HB7
          go_wp2_with (first | (at_make; refine wpList_make_own _ rfl _ _ 22 rfl w9.heap.size 23 j0 (.float .f32 0) 1 Try.underlying22 hj hy0 hy1 .i64 .i64 _ n rfl rfl (by omega) (by rw [hy2]; omega) (by unfold maxLen; omega) (Nat.le_refl _) ?_; intro w10 hown10 hgrow10) | (go_at_call 103; (with_reducible refine (HBD.out wr 0 (by omega)).mono ?_); rintro e w5 ⟨rfl, hb5⟩; have HC5 := Lib.hid hb5; clear hb5) | (at_builtin; refine wpList_append_lies _ rfl _ _ 117 rfl w4.heap.size 97 i0 (.agg #[.int .i64 0, .int .i64 0, .int .i64 0, .int .i64 0]) 4 32 Try.underlying117 hi hz0 hz1 hz2 rfl (by decide) _ (3 * l) _ rfl ((row_step HO.out HC5.out).alloc _) ⟨w5.heap.size, 0, none⟩ 1 1 (rg4 p q (l - 1, 0)) rfl rfl (cells_newE _ _ _) (rg4_one p q (l - 1, 0)) (by decide) (by unfold maxLen; omega) (by omega) (by simp; have := HB8.out.size; have := HC5.out.size; omega) _ rfl ?_; intro g9 cap9 w9 hown9 hgrow9 hat9 hlt9; clear hat9 hlt9; generalize hn : 3 * l + 1 = n at *))
          skip
          have q1 : w9.ownsRow w4.heap.size 97 4 (.slice (some ⟨g9, 0, none⟩) n cap9) n (plc p q l n) := by rw [← HT.out]; exact hown9
          have HB9 := Lib.hid (show Below w4.heap.size w4 w9 from ((HB7.out.trans (HC5.out.mono HB7.out.size)).alloc (by have := HB7.out.size; have := HC5.out.size; omega) _).grown hgrow9 (by simp; have := HB7.out.size; have := HC5.out.size; omega) (fun j hj => (HO.out.lt j hj).1))
          have hg9 : g9 < w9.heap.size := (q1.lt g9 rfl).2
          have HPL := Lib.hid (show ∀ (W : World), Below w9.heap.size w9 W → ∀ (k j : Nat), k < n → j < 4 → W.cell? ⟨g9, k * 4 + j, none⟩ = (rg4 p q (eiA l k))[j]? from fun W hB k j hk hj => (hB.cell (p := ⟨g9, k * 4 + j, none⟩) hg9).trans ((q1.cellAt _ (by omega)).trans (plc_get p q l n k j hk hj)))
          have HR0 := Lib.hid (RowF.made hown10 hgrow10)
          have HB19 := Lib.hid (HB14.out.trans (HB9.out.mono HB14.out.size))
          clear hown9 hgrow9 hown10 hgrow10 q1 HO HB7 HB8 HC5 HT HBD
          go_wp2_with fail
          go_loopw [9, 11, 12, 13, 54] (fun v _ _ _ i => EnR w9 p q xs l n v i) (fun _ _ _ _ i _ => n - (intOf i).toNat)
          case atStart => exact ⟨0, [], Nat.zero_le _, rfl, HR0.out, isLs_nil, fun j h => by omega⟩
          case round =>
            obtain ⟨k, cur, hk, rfl, hr, hi3, hen⟩ := hrel
            have HR := Lib.hid hr
            have HI := Lib.hid hi3
            have HEN := Lib.hid hen
            clear hr hi3 hen
            by_cases hlt : k < n
            · have HBR := Lib.hid (HB19.out.trans (HR.out.2.mono HB19.out.size))
              have c0 := HPL.out _ HR.out.2 k 0 hlt (by omega)
              have c1 := HPL.out _ HR.out.2 k 1 hlt (by omega)
              have c2 := HPL.out _ HR.out.2 k 2 hlt (by omega)
              have c3 := HPL.out _ HR.out.2 k 3 hlt (by omega)
              simp only [rg4, List.getElem?_cons_zero, List.getElem?_cons_succ, Nat.add_zero] at c0 c1 c2 c3
              have hki : (k : Int) < (n : Int) := by omega
              have hba : Below w1.heap.size w1 (wr.alloc (Obj.cells #[.int .i64 (rgX (eiA l k).1 (eiA l k).2 p q), .int .i64 (rgY (eiA l k).1 (eiA l k).2 p q), .int .i64 (rgW (eiA l k).1 (eiA l k).2 p q), .int .i64 (rgH (eiA l k).1 (eiA l k).2 p q)] 97)) := HBR.out.alloc HBR.out.size _
              have k0 := (hba.cell (p := ⟨w.heap.size, 0, none⟩) hg).trans K0.out
              have k1 := (hba.cell (p := ⟨w.heap.size, 1, none⟩) hg).trans K1.out
              have k2 := (hba.cell (p := ⟨w.heap.size, 2, none⟩) hg).trans K2.out
              have HBA := Lib.hid hba
              clear hba
              obtain ⟨⟨gx1, gx2⟩, ⟨gy1, gy2⟩, ⟨gw1, gw2⟩, gh1, gh2⟩ := rg_in (l := (eiA l k).1) (b := (eiA l k).2) hp hq
              have HLT := Lib.hid (fun (W : World) (hB : Below w1.heap.size w1 W) => ltI_any p q (rgX (eiA l k).1 (eiA l k).2 p q) (rgY (eiA l k).1 (eiA l k).2 p q) (rgW (eiA l k).1 (eiA l k).2 p q) (rgH (eiA l k).1 (eiA l k).2 p q) bx ofx cx xs.length xs W hp hq hpq rfl ⟨gx1, gx2⟩ ⟨gy1, gy2⟩ gw1 gh1 hnc hcm (Nat.lt_of_lt_of_le hbx (Nat.le_trans HB01.out.size hB.size)) (HXC.out W (HB01.out.trans (hB.mono (Nat.le_of_lt hg)))))
              have HLE := Lib.hid (bc_len_le hp hq xs (eiA l k).1 (eiA l k).2)
              clear gx1 gx2 gy1 gy2 gw1 gw2 gh1 gh2
              have HEL := Lib.hid (eiL_next p q xs l k)
              skip
              obtain he | he : enO (eiE p q xs l k) = false ∨ enO (eiE p q xs l k) = true := by cases enO (eiE p q xs l k) <;> simp
              · have HEO := Lib.hid he
                have HOK := Lib.hid (show eiB p q xs (l : Int) = false by rw [HEB.out]; exact eiL_bad hlt he)
                clear he
                go_wp2_with (first | (go_at_call 104; refine (enI_any v11 (eiE p q xs l k) w11 _ HO11.out.rd (Nat.le_trans HLE.out (by omega))).mono ?_; rintro e w12 ⟨r, n12, rfl, hr12, rfl⟩; rw [HEO.out]; have HR12 := Lib.hid hr12; clear hr12) | (go_at_call 105; refine (HLT.out _ (by first | exact HBR.out.alloc HBR.out.size _)).mono ?_; rintro e w11 ⟨v11, rfl, O11, B11⟩; have HO11 := Lib.hid O11; have HB11 := Lib.hid B11; clear O11 B11))
                exact bodyPost_ret (v := .tuple #[.slice none 0 0, .bool false]) (by simp [results, Try.results48, go_sem]) rfl (retEi_no HOK.out (below_drawn (HB01.out.trans ((HBR.out.alloc HBR.out.size _).mono (Nat.le_of_lt hg)) |>.trans (HB11.out.mono (by simp; have := HBR.out.size; omega))) _))
              · have HEO := Lib.hid he
                have HCL := Lib.hid (show cur.length = k by rw [HI.out.1, eiL_len])
                clear he
                go_wp2_with (first | (go_at_call 104; refine (enI_any v11 (eiE p q xs l k) w11 _ HO11.out.rd (Nat.le_trans HLE.out (by omega))).mono ?_; rintro e w12 ⟨r, n12, rfl, hr12, rfl⟩; rw [HEO.out]; have HR12 := Lib.hid hr12; clear hr12); have HBS := Lib.hid (below_drawn (((Below.refl _ _).alloc (Nat.le_refl _) _).trans (HB11.out.mono (by simp))) n12) | (go_at_call 105; refine (HLT.out _ (by first | exact HBR.out.alloc HBR.out.size _)).mono ?_; rintro e w11 ⟨v11, rfl, O11, B11⟩; have HO11 := Lib.hid O11; have HB11 := Lib.hid B11; clear O11 B11) | (at_builtin; refine wpList_append_own _ rfl _ _ 22 rfl w9.heap.size 23 j0 (.float .f32 0) 1 4 Try.underlying22 hj hy0 hy1 hy2 rfl (by decide) _ _ _ rfl ((row_step HR.out.1 HBS.out).alloc _) ⟨(w11.drewN n12).heap.size, 0, none⟩ 1 1 [.float .f32 r] rfl rfl (one_newF _ _ _) (cellsF [r]) (by unfold maxLen; have := HCL.out; omega) (by have := HCL.out; omega) (by simp; have h2 := HR.out.2.size; have h3 := HBS.out.size; simp at h3; omega) ?_; intro v13 w13 hown13 hgrow13 _))
                have HR2 := Lib.hid (RowF.push hown13 ((HR.out.2.trans (HBS.out.mono HR.out.2.size)).alloc (by have := HR.out.2.size; have := HBS.out.size; omega) _) hgrow13 (fun j hj => (HR.out.1.lt j hj).1))
                clear hown13 hgrow13
                go_wp2_with fail
                go_roundw
                case rel => exact ⟨k + 1, cur ++ [r], by omega, by go_num, HR2.out, by rw [HEL.out]; exact isLs_app HI.out (by rw [← enV_yes HEO.out]; exact HR12.out), fun j hj => (by obtain h | h := Nat.lt_succ_iff_lt_or_eq.1 hj; exact HEN.out j h; subst h; exact HEO.out)⟩
                case measure => simp [intOf]; omega
            · obtain rfl : k = n := by omega
              have HOK := Lib.hid (show eiB p q xs (l : Int) = true by rw [HEB.out]; exact eiL_fin HEN.out)
              go_wp2_with fail
              exact bodyPost_ret (v := .tuple #[_, .bool true]) (by simp [results, Try.results48, go_sem]) rfl (retEi_fin HOK.out (HR.out.own.less (Nat.le_trans (Nat.le_of_lt hg) HB19.out.size)) (by rw [show (l : Int).toNat = l by simp, hn]; exact HI.out) (HB01.out.trans ((HB19.out.trans (HR.out.2.mono HB19.out.size)).mono (Nat.le_of_lt hg))))
end Go.Proofs.Ytfbdmhkmkmbipaa
