/-
  Contract: the energies of all bands of a picture, by the model.
-/
import Derived.Test.YtfbdmhkmkmbipaaEiK
import Derived.Test.YtfbdmhkmkmbipaaBnd
import Derived.Test.YtfbdmhkmkmbipaaPv
namespace Go.Proofs.Ytfbdmhkmkmbipaa
open Go.RowKit Fl
set_option linter.unusedVariables false
set_option maxRecDepth 100000
set_option linter.unusedSimpArgs false
def RetIe (v : Value) (b : Bool) (w : World) (e : Ending) (w' : World) : Prop := e = .returned (.tuple #[if b then v else .slice none 0 0, .bool b]) ∧ ∃ n, w' = w.drewN n
theorem lsE_any (v : Value) (L : List Nat) (w : World) (B : Nat) (h : Rd w B v (fl L)) (hm : L.length ≤ 1048576) (hx : ∀ x ∈ L, x < 2 ^ 32) :
    Calls Try.prog 101 #[v] w (RetIe v (finA L) w) := by
  have HF := Lib.hid (finS_any v L w B h hm hx)
  obtain ⟨A, c, hv, _, _, _⟩ := h
  rw [fl_len] at hv
  subst hv
  cases hf : finA L
  all_goals
    have HT := Lib.hid hf
    clear hf
    go_enter Try.func101, Try.ntmps101
    go_wp2_with (go_at_call 65; refine HF.out.mono ?_; rintro e w' ⟨rfl, n, rfl⟩; rw [HT.out])
    go_ret2
    exact ⟨rfl, _, rfl⟩
def OuR (w2 : World) (p q : Int) (xs : List Nat) (L : Nat) (v i : Value) (wr : World) : Prop :=
  ∃ (l : Nat) (cur : List Nat), l ≤ L ∧ i = .int .i64 ((l : Int) + 1) ∧ RowF w2 v cur wr ∧ IsLs cur (eiL p q xs L (3 * l))
def InR (w2 : World) (p q : Int) (xs : List Nat) (L l : Nat) (v i : Value) (wr : World) : Prop :=
  ∃ (b : Nat) (cur : List Nat), b ≤ 3 ∧ i = .int .i64 ((b : Int) + 1) ∧ RowF w2 v cur wr ∧ IsLs cur (eiL p q xs L (3 * l + b))
set_option maxHeartbeats 8000000 in
theorem eiS_any (v : Value) (p q lev : Int) (xs : List Nat) (w : World) (h : Rd w w.heap.size v (fl xs)) (hm : xs.length ≤ 1048576) (hx : ∀ x ∈ xs, x < 2 ^ 32) :
    Calls Try.prog 47 #[.agg #[.int .i64 p, .int .i64 q, v], .int .i64 lev] w (RetEi (eiR p q xs lev) (eiB p q xs lev) w) := by
  obtain ⟨Ax, cx, hvx, hnc, hcm, hcc⟩ := id h
  rw [fl_len] at hvx hnc hcc
  subst hvx
  obtain ⟨w1, hw1⟩ : ∃ w1, w1 = (w.alloc (Obj.cells #[.int .i64 p, .int .i64 q, (.slice Ax xs.length cx)] 50)) := ⟨_, rfl⟩
  have hb01 : Below w.heap.size w w1 := by rw [hw1]; exact (Below.refl _ _).alloc (Nat.le_refl _) _
  have HB01 := Lib.hid hb01
  have hg : w.heap.size < w1.heap.size := by rw [hw1]; simp
  have K0 := Lib.hid (show w1.cell? ⟨w.heap.size, 0, none⟩ = some (.int .i64 p) by rw [hw1]; exact (cell_of_row _ _ _ _ _ _ (heap_alloc_new w _)).trans rfl)
  have K1 := Lib.hid (show w1.cell? ⟨w.heap.size, 1, none⟩ = some (.int .i64 q) by rw [hw1]; exact (cell_of_row _ _ _ _ _ _ (heap_alloc_new w _)).trans rfl)
  have K2 := Lib.hid (show w1.cell? ⟨w.heap.size, 2, none⟩ = some ((.slice Ax xs.length cx)) by rw [hw1]; exact (cell_of_row _ _ _ _ _ _ (heap_alloc_new w _)).trans rfl)
  have HRX := Lib.hid ((h.below hb01).more (Nat.le_of_lt hg))
  have HW1 := Lib.hid hw1
  have HXX := Lib.hid hx
  clear hw1 hb01 h hx
  obtain h1 | h1 : vpcB p q xs = false ∨ vpcB p q xs = true := by cases vpcB p q xs <;> simp
  · have HVB := Lib.hid h1
    have HOK := Lib.hid (show eiB p q xs lev = false by unfold eiB; rw [h1]; rfl)
    clear h1
    go_enter Try.func47, Try.ntmps47
    go_wp2_with (go_at_call 75; rw [← HW1.out]; refine (vpP_any w.heap.size (.slice Ax xs.length cx) p q xs w1 _ HRX.out K0.out K1.out K2.out hm HXX.out).mono ?_; rintro e w2 ⟨rfl, n2, hw2⟩; rw [HVB.out]; have HB2 := Lib.hid (show Below w1.heap.size w1 w2 by rw [hw2]; exact below_drawn (Below.refl _ _) _); clear hw2)
    exact bodyPost_ret (v := .tuple #[.slice none 0 0, .bool false]) (by simp [results, Try.results47, go_sem]) rfl (retEi_no HOK.out (HB01.out.trans (HB2.out.mono (Nat.le_of_lt hg))))
  · obtain h2 | h2 : lvB lev = false ∨ lvB lev = true := by cases lvB lev <;> simp
    · have HVB := Lib.hid h1
      have HLB := Lib.hid h2
      have HOK := Lib.hid (show eiB p q xs lev = false by unfold eiB; rw [h1, h2]; rfl)
      clear h1 h2
      go_enter Try.func47, Try.ntmps47
      go_wp2_with (first | (go_at_call 75; rw [← HW1.out]; refine (vpP_any w.heap.size (.slice Ax xs.length cx) p q xs w1 _ HRX.out K0.out K1.out K2.out hm HXX.out).mono ?_; rintro e w2 ⟨rfl, n2, hw2⟩; rw [HVB.out]; have HB2 := Lib.hid (show Below w1.heap.size w1 w2 by rw [hw2]; exact below_drawn (Below.refl _ _) _); clear hw2) | (go_at_call 95; refine (lvS_any _ w2).mono ?_; rintro e w3 ⟨rfl, rfl⟩; rw [HLB.out]))
      exact bodyPost_ret (v := .tuple #[.slice none 0 0, .bool false]) (by simp [results, Try.results47, go_sem]) rfl (retEi_no HOK.out (HB01.out.trans (HB2.out.mono (Nat.le_of_lt hg))))
    · have HVB := Lib.hid h1
      obtain ⟨hp, hq, hpq, hfx⟩ := vpcB_out h1
      have hlv : 1 ≤ lev ∧ lev ≤ 4 := of_decide_eq_true h2
      obtain ⟨L, rfl⟩ : ∃ L : Nat, lev = (L : Int) := ⟨lev.toNat, by omega⟩
      have hL : 1 ≤ L ∧ L ≤ 4 := by omega
      have HLB := Lib.hid h2
      have HEB := Lib.hid (show eiB p q xs (L : Int) = finA (eiL p q xs L (3 * L + 1)) by unfold eiB; rw [h1, h2]; simp)
      clear h1 h2 hlv
      obtain ⟨j0, hj, hy0, hy1, hy2⟩ := info_parts infoF
      have hxp : 0 < xs.length := by have := Int.mul_pos (show 0 < p by omega) (show 0 < q by omega); omega
      obtain ⟨bx, ofx, rfl, hbx, hcx⟩ := hcc hxp
      have HXC := Lib.hid (show ∀ (W : World), Below w.heap.size w W → ∀ (i : Nat), i < xs.length → W.cell? ⟨bx, ofx + i, none⟩ = some (.float .f32 (xs.getD i 0)) from fun W hB i hi => (hB.cell (p := ⟨bx, ofx + i, none⟩) hbx).trans ((hcx i _ (fl_get xs i hi)).trans (by simp [List.getD, hi])))
      have HBN := Lib.hid (show ∀ (W : World) (l : Nat) (b : Int), Below w1.heap.size w1 W → l ≤ 3 → 0 ≤ b ∧ b ≤ 3 → Calls Try.prog 97 #[.pointer (some ⟨w.heap.size, 0, none⟩), .int .i64 ((l : Int) + 1), .int .i64 b] W (RetBd p q xs l b W) from fun W l b hB hl hb => bndS_any w.heap.size p q b l bx ofx cx xs.length xs W hp hq hpq rfl hl hb (Nat.lt_of_lt_of_le hg hB.size) (Nat.lt_of_lt_of_le hbx (Nat.le_trans HB01.out.size hB.size)) ((hB.cell (p := ⟨w.heap.size, 0, none⟩) hg).trans K0.out) ((hB.cell (p := ⟨w.heap.size, 1, none⟩) hg).trans K1.out) ((hB.cell (p := ⟨w.heap.size, 2, none⟩) hg).trans K2.out) (HXC.out W (HB01.out.trans (hB.mono (Nat.le_of_lt hg)))))
      clear hcx hcc
      go_enter Try.func47, Try.ntmps47
      go_wp2_with (first | (go_at_call 75; rw [← HW1.out]; refine (vpP_any w.heap.size (.slice (some ⟨bx, ofx, none⟩) xs.length cx) p q xs w1 _ HRX.out K0.out K1.out K2.out hm HXX.out).mono ?_; rintro e w2 ⟨rfl, n2, hw2⟩; rw [HVB.out]; have HB2 := Lib.hid (show Below w1.heap.size w1 w2 by rw [hw2]; exact below_drawn (Below.refl _ _) _); clear hw2) | (go_at_call 95; refine (lvS_any _ w2).mono ?_; rintro e w3 ⟨rfl, rfl⟩; rw [HLB.out]))
      go_loopw [6, 7, 8, 9] (fun v i _ _ => OuR w2 p q xs L v i) (fun _ i _ _ _ => (L + 1) - (intOf i).toNat)
      case atStart => exact ⟨0, [], Nat.zero_le _, by simp, RowF.lit w2, isLs_nil⟩
      case round =>
        obtain ⟨l, cur0, hl, rfl, hr0, hi0⟩ := hrel
        have HR0 := Lib.hid hr0
        have HI0 := Lib.hid hi0
        clear hr0 hi0
        by_cases hlt : l < L
        · have hle : (l : Int) + 1 ≤ (L : Int) := by omega
          go_wp2_with fail
          go_loopw [6, 8, 9] (fun v i _ => InR w2 p q xs L l v i) (fun _ i _ _ => 4 - (intOf i).toNat)
          case atStart => exact ⟨0, cur0, Nat.zero_le _, by simp, HR0.out, HI0.out⟩
          case round =>
            obtain ⟨b, cur, hb3, rfl, hr, hi3⟩ := hrel
            have HR := Lib.hid hr
            have HI := Lib.hid hi3
            clear hr hi3
            by_cases hbt : b < 3
            · have hbi : (b : Int) + 1 ≤ 3 := by omega
              have HBR := Lib.hid (HB2.out.trans (HR.out.2.mono HB2.out.size))
              have HCL := Lib.hid (show cur.length = 3 * l + b by rw [HI.out.1, eiL_len])
              have HEE := Lib.hid (show eiE p q xs L (3 * l + b) = bcL p q xs l ((b : Int) + 1) by unfold eiE; rw [eiA_at hlt b hbt]; simp)
              have HLE := Lib.hid (bc_len_le hp hq xs l ((b : Int) + 1))
              have HEL := Lib.hid (eiL_next p q xs L (3 * l + b))
              have HBQ := Lib.hid (HBN.out wr l ((b : Int) + 1) HBR.out (by omega) (by omega))
              go_wp2_with (first | (go_at_call 97; refine (HBQ.out).mono ?_; rintro e w5 ⟨v5, rfl, O5, B5⟩; obtain ⟨A5, c5, hv5, _, _, _⟩ := id O5; rw [fl_len] at hv5; subst hv5; have HO5 := Lib.hid O5; have HB5 := Lib.hid B5; clear O5 B5) | (go_at_call 100; refine (enS_any _ (bcL p q xs l ((b : Int) + 1)) _ _ (HO5.out.below ((Below.refl _ _).alloc (Nat.le_refl _) _)).rd (Nat.le_trans HLE.out (by omega))).mono ?_; rintro e w6 ⟨r, n6, rfl, hr6, hw6⟩; have HR6 := Lib.hid hr6; have HB6 := Lib.hid (show Below w5.heap.size w5 w6 by rw [hw6]; exact below_drawn ((Below.refl _ _).alloc (Nat.le_refl _) _) _); clear hr6 hw6) | (at_builtin; refine wpList_append_own _ rfl _ _ 22 rfl w2.heap.size 23 j0 (.float .f32 0) 1 4 Try.underlying22 hj hy0 hy1 hy2 rfl (by decide) _ _ _ rfl ((row_step HR.out.1 (HB5.out.trans (HB6.out.mono HB5.out.size))).alloc _) ⟨w6.heap.size, 0, none⟩ 1 1 [.float .f32 r] rfl rfl (one_newF _ _ _) (cellsF [r]) (by unfold maxLen; have := HCL.out; omega) (by have := HCL.out; omega) (by simp; have h2 := HR.out.2.size; have h3 := HB5.out.size; have h4 := HB6.out.size; omega) ?_; intro v7 w7 hown7 hgrow7 _))
              have HB56 := Lib.hid (HB5.out.trans (HB6.out.mono HB5.out.size))
              have HR2 := Lib.hid (RowF.push hown7 ((HR.out.2.trans (HB56.out.mono HR.out.2.size)).alloc (by have := HR.out.2.size; have := HB56.out.size; omega) _) hgrow7 (fun j hj => (HR.out.1.lt j hj).1))
              clear hown7 hgrow7
              go_wp2_with fail
              go_roundw
              case rel => exact ⟨b + 1, cur ++ [r], by omega, by go_num, HR2.out, by rw [show 3 * l + (b + 1) = 3 * l + b + 1 by omega, HEL.out, HEE.out]; exact isLs_app HI.out HR6.out⟩
              case measure => simp [intOf]; omega
            · obtain rfl : b = 3 := by omega
              have hbi : (3 : Int) < (3 : Int) + 1 := by omega
              go_wp2_with fail
              go_roundw
              case rel => exact ⟨l + 1, cur, by omega, by simp, HR.out, by rw [show 3 * (l + 1) = 3 * l + 3 by omega]; exact HI.out⟩
              case measure => simp [intOf]; omega
        · obtain rfl : l = L := by omega
          have hgt : (l : Int) < (l : Int) + 1 := by omega
          have HR := HR0
          have HI := HI0
          have HBR := Lib.hid (HB2.out.trans (HR.out.2.mono HB2.out.size))
          have HCL := Lib.hid (show cur0.length = 3 * l by rw [HI.out.1, eiL_len])
          have HEE := Lib.hid (show eiE p q xs l (3 * l) = bcL p q xs (l - 1) 0 by unfold eiE; rw [eiA_last])
          have HLE := Lib.hid (bc_len_le hp hq xs (l - 1) 0)
          have HEL := Lib.hid (eiL_next p q xs l (3 * l))
          have HBQ := Lib.hid (show Calls Try.prog 97 #[.pointer (some ⟨w.heap.size, 0, none⟩), .int .i64 (l : Int), .int .i64 0] wr (RetBd p q xs (l - 1) 0 wr) by have h := HBN.out wr (l - 1) 0 HBR.out (by omega) (by omega); rw [show (((l - 1 : Nat) : Int) + 1) = (l : Int) by omega] at h; exact h)
          obtain hf | hf : finA (eiL p q xs l (3 * l + 1)) = false ∨ finA (eiL p q xs l (3 * l + 1)) = true := by cases finA (eiL p q xs l (3 * l + 1)) <;> simp
          · have HF := Lib.hid hf
            have HOK := Lib.hid (show eiB p q xs (l : Int) = false by rw [HEB.out]; exact hf)
            clear hf
            go_wp2_with (first | (go_at_call 97; refine (HBQ.out).mono ?_; rintro e w5 ⟨v5, rfl, O5, B5⟩; obtain ⟨A5, c5, hv5, _, _, _⟩ := id O5; rw [fl_len] at hv5; subst hv5; have HO5 := Lib.hid O5; have HB5 := Lib.hid B5; clear O5 B5) | (go_at_call 100; refine (enS_any _ (bcL p q xs (l - 1) 0) _ _ (HO5.out.below ((Below.refl _ _).alloc (Nat.le_refl _) _)).rd (Nat.le_trans HLE.out (by omega))).mono ?_; rintro e w6 ⟨r, n6, rfl, hr6, hw6⟩; have HR6 := Lib.hid hr6; have HB6 := Lib.hid (show Below w5.heap.size w5 w6 by rw [hw6]; exact below_drawn ((Below.refl _ _).alloc (Nat.le_refl _) _) _); clear hr6 hw6) | (at_builtin; refine wpList_append_own _ rfl _ _ 22 rfl w2.heap.size 23 j0 (.float .f32 0) 1 4 Try.underlying22 hj hy0 hy1 hy2 rfl (by decide) _ _ _ rfl ((row_step HR.out.1 (HB5.out.trans (HB6.out.mono HB5.out.size))).alloc _) ⟨w6.heap.size, 0, none⟩ 1 1 [.float .f32 r] rfl rfl (one_newF _ _ _) (cellsF [r]) (by unfold maxLen; have := HCL.out; omega) (by have := HCL.out; omega) (by simp; have h2 := HR.out.2.size; have h3 := HB5.out.size; have h4 := HB6.out.size; omega) ?_; intro v7 w7 hown7 hgrow7 _; have HB56 := Lib.hid (HB5.out.trans (HB6.out.mono HB5.out.size)); have HR2 := Lib.hid (RowF.push hown7 ((HR.out.2.trans (HB56.out.mono HR.out.2.size)).alloc (by have := HR.out.2.size; have := HB56.out.size; omega) _) hgrow7 (fun j hj => (HR.out.1.lt j hj).1)); clear hown7 hgrow7; have HI2 := Lib.hid (show IsLs (cur0 ++ [r]) (eiL p q xs l (3 * l + 1)) by rw [HEL.out, HEE.out]; exact isLs_app HI.out HR6.out)) | (go_at_call 101; refine (lsE_any v7 (cur0 ++ [r]) w7 _ HR2.out.own.rd (by rw [List.length_append]; have := HCL.out; simp; omega) (isLs_lt HI2.out)).mono ?_; rintro e w9 ⟨rfl, n9, rfl⟩; rw [isLs_fin HI2.out, HF.out]))
            exact bodyPost_ret (v := .tuple #[.slice none 0 0, .bool false]) (by simp [results, Try.results47, go_sem]) rfl (retEi_no HOK.out (below_drawn (HB01.out.trans ((HB2.out.trans (HR2.out.2.mono HB2.out.size)).mono (Nat.le_of_lt hg))) _))
          · have HF := Lib.hid hf
            have HOK := Lib.hid (show eiB p q xs (l : Int) = true by rw [HEB.out]; exact hf)
            clear hf
            go_wp2_with (first | (go_at_call 97; refine (HBQ.out).mono ?_; rintro e w5 ⟨v5, rfl, O5, B5⟩; obtain ⟨A5, c5, hv5, _, _, _⟩ := id O5; rw [fl_len] at hv5; subst hv5; have HO5 := Lib.hid O5; have HB5 := Lib.hid B5; clear O5 B5) | (go_at_call 100; refine (enS_any _ (bcL p q xs (l - 1) 0) _ _ (HO5.out.below ((Below.refl _ _).alloc (Nat.le_refl _) _)).rd (Nat.le_trans HLE.out (by omega))).mono ?_; rintro e w6 ⟨r, n6, rfl, hr6, hw6⟩; have HR6 := Lib.hid hr6; have HB6 := Lib.hid (show Below w5.heap.size w5 w6 by rw [hw6]; exact below_drawn ((Below.refl _ _).alloc (Nat.le_refl _) _) _); clear hr6 hw6) | (at_builtin; refine wpList_append_own _ rfl _ _ 22 rfl w2.heap.size 23 j0 (.float .f32 0) 1 4 Try.underlying22 hj hy0 hy1 hy2 rfl (by decide) _ _ _ rfl ((row_step HR.out.1 (HB5.out.trans (HB6.out.mono HB5.out.size))).alloc _) ⟨w6.heap.size, 0, none⟩ 1 1 [.float .f32 r] rfl rfl (one_newF _ _ _) (cellsF [r]) (by unfold maxLen; have := HCL.out; omega) (by have := HCL.out; omega) (by simp; have h2 := HR.out.2.size; have h3 := HB5.out.size; have h4 := HB6.out.size; omega) ?_; intro v7 w7 hown7 hgrow7 _; have HB56 := Lib.hid (HB5.out.trans (HB6.out.mono HB5.out.size)); have HR2 := Lib.hid (RowF.push hown7 ((HR.out.2.trans (HB56.out.mono HR.out.2.size)).alloc (by have := HR.out.2.size; have := HB56.out.size; omega) _) hgrow7 (fun j hj => (HR.out.1.lt j hj).1)); clear hown7 hgrow7; have HI2 := Lib.hid (show IsLs (cur0 ++ [r]) (eiL p q xs l (3 * l + 1)) by rw [HEL.out, HEE.out]; exact isLs_app HI.out HR6.out)) | (go_at_call 101; refine (lsE_any v7 (cur0 ++ [r]) w7 _ HR2.out.own.rd (by rw [List.length_append]; have := HCL.out; simp; omega) (isLs_lt HI2.out)).mono ?_; rintro e w9 ⟨rfl, n9, rfl⟩; rw [isLs_fin HI2.out, HF.out]))
            exact bodyPost_ret (v := .tuple #[v7, .bool true]) (by simp [results, Try.results47, go_sem]) rfl (retEi_fin HOK.out ((HR2.out.own.less (Nat.le_trans (Nat.le_of_lt hg) HB2.out.size)).drewN _) (by rw [show (l : Int).toNat = l by simp]; exact HI2.out) (below_drawn (HB01.out.trans ((HB2.out.trans (HR2.out.2.mono HB2.out.size)).mono (Nat.le_of_lt hg))) _))
end Go.Proofs.Ytfbdmhkmkmbipaa
