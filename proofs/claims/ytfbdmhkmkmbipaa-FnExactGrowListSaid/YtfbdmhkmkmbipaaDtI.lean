/-
  Contract: DropOnce, by the program.
-/
import Derived.Test.YtfbdmhkmkmbipaaDsi
import Derived.Test.YtfbdmhkmkmbipaaFit
namespace Go.Proofs.Ytfbdmhkmkmbipaa
open Go.RowKit Fl
set_option linter.unusedVariables false
set_option maxRecDepth 100000
set_option linter.unusedSimpArgs false
open Sf (vsB vsI_any vsP_any RetBB)
set_option maxHeartbeats 8000000 in
theorem dtI_any (s : Nat) (ws low high : List Nat) (vw vl vh : Value) (w : World) (hrw : Rd w w.heap.size vw (fl ws)) (hrl : Rd w w.heap.size vl (fl low)) (hrh : Rd w w.heap.size vh (fl high)) (hmw : ws.length ≤ 1048576) (hml : low.length ≤ 1048576) (hmh : high.length ≤ 1048576) (hwx : ∀ x ∈ ws, x < 2 ^ 32) (hlx : ∀ x ∈ low, x < 2 ^ 32) (hhx : ∀ x ∈ high, x < 2 ^ 32) (hs : s < 2 ^ 32) :
    Calls Try.prog 26 #[.agg #[vw, .float .f32 s], vl, vh] w (RetDb (dpR ws s low high) (dpB ws s low high) w) := by
  obtain ⟨w1, hw1⟩ : ∃ w1, w1 = (w.alloc (Obj.cells #[vw, .float .f32 s] 29)) := ⟨_, rfl⟩
  have hb01 : Below w.heap.size w w1 := by rw [hw1]; exact (Below.refl _ _).alloc (Nat.le_refl _) _
  have HB01 := Lib.hid hb01
  have hg : w.heap.size < w1.heap.size := by rw [hw1]; simp
  have K0 := Lib.hid (show w1.cell? ⟨w.heap.size, 0, none⟩ = some vw by rw [hw1]; exact (cell_of_row _ _ _ _ _ _ (heap_alloc_new w _)).trans rfl)
  have K1 := Lib.hid (show w1.cell? ⟨w.heap.size, 1, none⟩ = some (.float .f32 s) by rw [hw1]; exact (cell_of_row _ _ _ _ _ _ (heap_alloc_new w _)).trans rfl)
  have HRW := Lib.hid ((hrw.below hb01).more (Nat.le_of_lt hg))
  have HRL := Lib.hid ((hrl.below hb01).more (Nat.le_of_lt hg))
  have HRH := Lib.hid ((hrh.below hb01).more (Nat.le_of_lt hg))
  have HW1 := Lib.hid hw1
  clear hw1 hb01 hrw hrl hrh
  obtain ⟨Al, cl, hvl, _, _, _⟩ := id HRL.out
  obtain ⟨Ah, ch, hvh, _, _, _⟩ := id HRH.out
  rw [fl_len] at hvl hvh
  subst hvl hvh
  obtain h1 | h1 : vsB ws s = false ∨ vsB ws s = true := by cases vsB ws s <;> simp
  · have HVB := Lib.hid h1
    have HOK := Lib.hid (show dpB ws s low high = false by unfold dpB; rw [h1]; simp)
    clear h1
    go_enter Try.func26, Try.ntmps26
    go_wp2_with (go_at_call 60; rw [← HW1.out]; refine (vsI_any vw ws s w1 HRW.out hmw hwx hs).mono ?_; rintro e w2 ⟨rfl, hb2⟩; rw [HVB.out]; have k0 := (hb2.cell (p := ⟨w.heap.size, 0, none⟩) hg).trans K0.out; have k1 := (hb2.cell (p := ⟨w.heap.size, 1, none⟩) hg).trans K1.out; have HB2 := Lib.hid hb2; clear hb2)
    exact bodyPost_ret (v := .tuple #[.slice none 0 0, .bool false]) (by simp [results, Try.results26, go_sem]) rfl (retDb_no HOK.out (by first | exact HB01.out.trans (HB2.out.mono (Nat.le_of_lt hg)) | exact below_drawn (HB01.out.trans (HB2.out.mono (Nat.le_of_lt hg))) _ | exact below_drawn (below_drawn (HB01.out.trans (HB2.out.mono (Nat.le_of_lt hg))) _) _ | exact below_drawn (below_drawn (below_drawn (HB01.out.trans (HB2.out.mono (Nat.le_of_lt hg))) _) _) _))
  · have HVB := Lib.hid h1
    obtain h2 | h2 : fitB low.length high.length = false ∨ fitB low.length high.length = true := by cases fitB low.length high.length <;> simp
    · have HFB := Lib.hid h2
      have HOK := Lib.hid (show dpB ws s low high = false by unfold dpB; rw [h1, h2]; simp)
      clear h1 h2
      go_enter Try.func26, Try.ntmps26
      go_wp2_with (first | (go_at_call 60; rw [← HW1.out]; refine (vsI_any vw ws s w1 HRW.out hmw hwx hs).mono ?_; rintro e w2 ⟨rfl, hb2⟩; rw [HVB.out]; have k0 := (hb2.cell (p := ⟨w.heap.size, 0, none⟩) hg).trans K0.out; have k1 := (hb2.cell (p := ⟨w.heap.size, 1, none⟩) hg).trans K1.out; have HB2 := Lib.hid hb2; clear hb2) | (go_at_call 67; refine (hvI_fit _ _ _ _ _ _ _ hml hmh).mono ?_; rintro e w3 ⟨rfl, hw3⟩; obtain rfl := hw3.symm; rw [HFB.out]))
      exact bodyPost_ret (v := .tuple #[.slice none 0 0, .bool false]) (by simp [results, Try.results26, go_sem]) rfl (retDb_no HOK.out (by first | exact HB01.out.trans (HB2.out.mono (Nat.le_of_lt hg)) | exact below_drawn (HB01.out.trans (HB2.out.mono (Nat.le_of_lt hg))) _ | exact below_drawn (below_drawn (HB01.out.trans (HB2.out.mono (Nat.le_of_lt hg))) _) _ | exact below_drawn (below_drawn (below_drawn (HB01.out.trans (HB2.out.mono (Nat.le_of_lt hg))) _) _) _))
    · have HFB := Lib.hid h2
      obtain h3 | h3 : finA low = false ∨ finA low = true := by cases finA low <;> simp
      · have HLB := Lib.hid h3
        have HOK := Lib.hid (show dpB ws s low high = false by unfold dpB; rw [h1, h2, h3]; simp)
        clear h1 h2 h3
        go_enter Try.func26, Try.ntmps26
        go_wp2_with (first | (go_at_call 60; rw [← HW1.out]; refine (vsI_any vw ws s w1 HRW.out hmw hwx hs).mono ?_; rintro e w2 ⟨rfl, hb2⟩; rw [HVB.out]; have k0 := (hb2.cell (p := ⟨w.heap.size, 0, none⟩) hg).trans K0.out; have k1 := (hb2.cell (p := ⟨w.heap.size, 1, none⟩) hg).trans K1.out; have HB2 := Lib.hid hb2; clear hb2) | (go_at_call 67; refine (hvI_fit _ _ _ _ _ _ _ hml hmh).mono ?_; rintro e w3 ⟨rfl, hw3⟩; obtain rfl := hw3.symm; rw [HFB.out]) | (go_at_call 63; (with_reducible refine (finI_any (.slice Al low.length cl) low w2 _ (HRL.out.below HB2.out) hml hlx).mono ?_); rintro e w4 ⟨rfl, n4, rfl⟩; rw [HLB.out]))
        exact bodyPost_ret (v := .tuple #[.slice none 0 0, .bool false]) (by simp [results, Try.results26, go_sem]) rfl (retDb_no HOK.out (by first | exact HB01.out.trans (HB2.out.mono (Nat.le_of_lt hg)) | exact below_drawn (HB01.out.trans (HB2.out.mono (Nat.le_of_lt hg))) _ | exact below_drawn (below_drawn (HB01.out.trans (HB2.out.mono (Nat.le_of_lt hg))) _) _ | exact below_drawn (below_drawn (below_drawn (HB01.out.trans (HB2.out.mono (Nat.le_of_lt hg))) _) _) _))
      · have HLB := Lib.hid h3
        obtain h4 | h4 : finA high = false ∨ finA high = true := by cases finA high <;> simp
        · have HHB := Lib.hid h4
          have HOK := Lib.hid (show dpB ws s low high = false by unfold dpB; rw [h1, h2, h3, h4]; simp)
          clear h1 h2 h3 h4
          go_enter Try.func26, Try.ntmps26
          go_wp2_with (first | (go_at_call 60; rw [← HW1.out]; refine (vsI_any vw ws s w1 HRW.out hmw hwx hs).mono ?_; rintro e w2 ⟨rfl, hb2⟩; rw [HVB.out]; have k0 := (hb2.cell (p := ⟨w.heap.size, 0, none⟩) hg).trans K0.out; have k1 := (hb2.cell (p := ⟨w.heap.size, 1, none⟩) hg).trans K1.out; have HB2 := Lib.hid hb2; clear hb2) | (go_at_call 67; refine (hvI_fit _ _ _ _ _ _ _ hml hmh).mono ?_; rintro e w3 ⟨rfl, hw3⟩; obtain rfl := hw3.symm; rw [HFB.out]) | (go_at_call 63; (with_reducible refine (finI_any (.slice Ah high.length ch) high (w2.drewN n4) _ ((HRH.out.below HB2.out).drewN _) hmh hhx).mono ?_); rintro e w5 ⟨rfl, n5, rfl⟩; rw [HHB.out]) | (go_at_call 63; (with_reducible refine (finI_any (.slice Al low.length cl) low w2 _ (HRL.out.below HB2.out) hml hlx).mono ?_); rintro e w4 ⟨rfl, n4, rfl⟩; rw [HLB.out]))
          exact bodyPost_ret (v := .tuple #[.slice none 0 0, .bool false]) (by simp [results, Try.results26, go_sem]) rfl (retDb_no HOK.out (by first | exact HB01.out.trans (HB2.out.mono (Nat.le_of_lt hg)) | exact below_drawn (HB01.out.trans (HB2.out.mono (Nat.le_of_lt hg))) _ | exact below_drawn (below_drawn (HB01.out.trans (HB2.out.mono (Nat.le_of_lt hg))) _) _ | exact below_drawn (below_drawn (below_drawn (HB01.out.trans (HB2.out.mono (Nat.le_of_lt hg))) _) _) _))
        · have HHB := Lib.hid h4
          obtain ⟨hw8, hfw, hfs⟩ := vsB_out h1
          obtain ⟨hf1, hf2, hf3⟩ := fitB_out h2
          have HDS := Lib.hid (fun (w' : World) (hb : Below w1.heap.size w1 w') => dsI_any s ws low high vw (.slice Al low.length cl) (.slice Ah high.length ch) w' (HRW.out.step hb) (HRL.out.step hb) (HRH.out.step hb) hw8 hf1 hf2 hf3 hfw hwx h3 hlx h4 hhx hfs hs)
          obtain h5 | h5 : finA (dpL ws s low high) = false ∨ finA (dpL ws s low high) = true := by cases finA (dpL ws s low high) <;> simp
          · have HRB := Lib.hid h5
            have HOK := Lib.hid (show dpB ws s low high = false by unfold dpB; rw [h1, h2, h3, h4, h5]; simp)
            clear h1 h2 h3 h4 h5
            go_enter Try.func26, Try.ntmps26
            go_wp2_with (first | (go_at_call 60; rw [← HW1.out]; refine (vsI_any vw ws s w1 HRW.out hmw hwx hs).mono ?_; rintro e w2 ⟨rfl, hb2⟩; rw [HVB.out]; have k0 := (hb2.cell (p := ⟨w.heap.size, 0, none⟩) hg).trans K0.out; have k1 := (hb2.cell (p := ⟨w.heap.size, 1, none⟩) hg).trans K1.out; have HB2 := Lib.hid hb2; clear hb2) | (go_at_call 67; refine (hvI_fit _ _ _ _ _ _ _ hml hmh).mono ?_; rintro e w3 ⟨rfl, hw3⟩; obtain rfl := hw3.symm; rw [HFB.out]) | (go_at_call 68; refine (HDS.out _ (by first | exact HB2.out | exact below_drawn (HB2.out) _ | exact below_drawn (below_drawn (HB2.out) _) _)).mono ?_; rintro e w6 ⟨v, cL, rfl, o1, i1, b6⟩; have O1 := Lib.hid o1; have I1 := Lib.hid i1; have B6 := Lib.hid b6; clear o1 i1 b6) | (go_at_call 63; (with_reducible refine (finI_any v cL w6 _ O1.out.rd (by rw [isLo_len I1.out, dpL_len]; omega) (isL_lt I1.out)).mono ?_); rintro e w7 ⟨rfl, n7, rfl⟩; rw [isLs_fin (isL_isLs I1.out), HRB.out]) | (go_at_call 63; (with_reducible refine (finI_any (.slice Ah high.length ch) high (w2.drewN n4) _ ((HRH.out.below HB2.out).drewN _) hmh hhx).mono ?_); rintro e w5 ⟨rfl, n5, rfl⟩; rw [HHB.out]) | (go_at_call 63; (with_reducible refine (finI_any (.slice Al low.length cl) low w2 _ (HRL.out.below HB2.out) hml hlx).mono ?_); rintro e w4 ⟨rfl, n4, rfl⟩; rw [HLB.out]))
            exact bodyPost_ret (v := .tuple #[.slice none 0 0, .bool false]) (by simp [results, Try.results26, go_sem]) rfl (retDb_no HOK.out (by first | exact below_then B6.out (by first | exact HB01.out.trans (HB2.out.mono (Nat.le_of_lt hg)) | exact below_drawn (HB01.out.trans (HB2.out.mono (Nat.le_of_lt hg))) _ | exact below_drawn (below_drawn (HB01.out.trans (HB2.out.mono (Nat.le_of_lt hg))) _) _ | exact below_drawn (below_drawn (below_drawn (HB01.out.trans (HB2.out.mono (Nat.le_of_lt hg))) _) _) _) | exact below_drawn (below_then B6.out (by first | exact HB01.out.trans (HB2.out.mono (Nat.le_of_lt hg)) | exact below_drawn (HB01.out.trans (HB2.out.mono (Nat.le_of_lt hg))) _ | exact below_drawn (below_drawn (HB01.out.trans (HB2.out.mono (Nat.le_of_lt hg))) _) _ | exact below_drawn (below_drawn (below_drawn (HB01.out.trans (HB2.out.mono (Nat.le_of_lt hg))) _) _) _)) _))
          · have HRB := Lib.hid h5
            have HOK := Lib.hid (show dpB ws s low high = true by unfold dpB; rw [h1, h2, h3, h4, h5]; rfl)
            clear h1 h2 h3 h4 h5
            go_enter Try.func26, Try.ntmps26
            go_wp2_with (first | (go_at_call 60; rw [← HW1.out]; refine (vsI_any vw ws s w1 HRW.out hmw hwx hs).mono ?_; rintro e w2 ⟨rfl, hb2⟩; rw [HVB.out]; have k0 := (hb2.cell (p := ⟨w.heap.size, 0, none⟩) hg).trans K0.out; have k1 := (hb2.cell (p := ⟨w.heap.size, 1, none⟩) hg).trans K1.out; have HB2 := Lib.hid hb2; clear hb2) | (go_at_call 67; refine (hvI_fit _ _ _ _ _ _ _ hml hmh).mono ?_; rintro e w3 ⟨rfl, hw3⟩; obtain rfl := hw3.symm; rw [HFB.out]) | (go_at_call 68; refine (HDS.out _ (by first | exact HB2.out | exact below_drawn (HB2.out) _ | exact below_drawn (below_drawn (HB2.out) _) _)).mono ?_; rintro e w6 ⟨v, cL, rfl, o1, i1, b6⟩; have O1 := Lib.hid o1; have I1 := Lib.hid i1; have B6 := Lib.hid b6; clear o1 i1 b6) | (go_at_call 63; (with_reducible refine (finI_any v cL w6 _ O1.out.rd (by rw [isLo_len I1.out, dpL_len]; omega) (isL_lt I1.out)).mono ?_); rintro e w7 ⟨rfl, n7, rfl⟩; rw [isLs_fin (isL_isLs I1.out), HRB.out]) | (go_at_call 63; (with_reducible refine (finI_any (.slice Ah high.length ch) high (w2.drewN n4) _ ((HRH.out.below HB2.out).drewN _) hmh hhx).mono ?_); rintro e w5 ⟨rfl, n5, rfl⟩; rw [HHB.out]) | (go_at_call 63; (with_reducible refine (finI_any (.slice Al low.length cl) low w2 _ (HRL.out.below HB2.out) hml hlx).mono ?_); rintro e w4 ⟨rfl, n4, rfl⟩; rw [HLB.out]))
            exact bodyPost_ret (v := .tuple #[v, .bool true]) (by simp [results, Try.results26, go_sem]) rfl (retDb_yes HOK.out ((O1.out.less (Nat.le_trans (Nat.le_of_lt hg) HB2.out.size)).drewN _) I1.out (by first | exact below_then B6.out (by first | exact HB01.out.trans (HB2.out.mono (Nat.le_of_lt hg)) | exact below_drawn (HB01.out.trans (HB2.out.mono (Nat.le_of_lt hg))) _ | exact below_drawn (below_drawn (HB01.out.trans (HB2.out.mono (Nat.le_of_lt hg))) _) _ | exact below_drawn (below_drawn (below_drawn (HB01.out.trans (HB2.out.mono (Nat.le_of_lt hg))) _) _) _) | exact below_drawn (below_then B6.out (by first | exact HB01.out.trans (HB2.out.mono (Nat.le_of_lt hg)) | exact below_drawn (HB01.out.trans (HB2.out.mono (Nat.le_of_lt hg))) _ | exact below_drawn (below_drawn (HB01.out.trans (HB2.out.mono (Nat.le_of_lt hg))) _) _ | exact below_drawn (below_drawn (below_drawn (HB01.out.trans (HB2.out.mono (Nat.le_of_lt hg))) _) _) _)) _))
end Go.Proofs.Ytfbdmhkmkmbipaa
