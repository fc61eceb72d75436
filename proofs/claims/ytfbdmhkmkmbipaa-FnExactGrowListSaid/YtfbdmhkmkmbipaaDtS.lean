/-
  Contract: DropOnce, by the model; the lists of both sides, to their very bits.
-/
import Derived.Test.YtfbdmhkmkmbipaaDss
namespace Go.Proofs.Ytfbdmhkmkmbipaa
open Go.RowKit Fl
set_option linter.unusedVariables false
set_option maxRecDepth 100000
set_option linter.unusedSimpArgs false
open Sf (vsB vsI_any vsP_any RetBB)
theorem retDb_q {ws low high cL : List Nat} {s : Nat} {v : Value} {w w' : World} (h : dpB ws s low high = finA (dpL ws s low high)) (o : Own w' w.heap.size v (fl cL)) (i : IsL cL (if finA (dpL ws s low high) then dpL ws s low high else [])) (hb : Below w.heap.size w w') : RetDb (dpR ws s low high) (dpB ws s low high) w (.returned (.tuple #[v, .bool (finA (dpL ws s low high))])) w' := by
  have hf : finA (if finA (dpL ws s low high) then dpL ws s low high else []) = true := by
    cases hq : finA (dpL ws s low high)
    · simp only [Bool.false_eq_true, if_false]; decide
    · simp only [if_true]; exact hq
  obtain rfl := isD_fin_eq i hf
  refine ⟨v, by rw [h], ?_, hb⟩
  unfold dpR; rw [h]; exact o
set_option maxHeartbeats 8000000 in
theorem dtS_any (s : Nat) (ws low high : List Nat) (vw vl vh : Value) (w : World) (hrw : Rd w w.heap.size vw (fl ws)) (hrl : Rd w w.heap.size vl (fl low)) (hrh : Rd w w.heap.size vh (fl high)) (hmw : ws.length ≤ 1048576) (hml : low.length ≤ 1048576) (hmh : high.length ≤ 1048576) (hwx : ∀ x ∈ ws, x < 2 ^ 32) (hlx : ∀ x ∈ low, x < 2 ^ 32) (hhx : ∀ x ∈ high, x < 2 ^ 32) (hs : s < 2 ^ 32) :
    Calls Try.prog 25 #[.agg #[vw, .float .f32 s], vl, vh] w (RetDb (dpR ws s low high) (dpB ws s low high) w) := by
  obtain ⟨w1, hw1⟩ : ∃ w1, w1 = (w.alloc (Obj.cells #[vw, .float .f32 s] 29)) := ⟨_, rfl⟩
  have hb01 : Below w.heap.size w w1 := by rw [hw1]; exact (Below.refl _ _).alloc (Nat.le_refl _) _
  have HB01 := Lib.hid hb01
  have hg : w.heap.size < w1.heap.size := by rw [hw1]; simp
  have K0 := Lib.hid (show w1.cell? ⟨w.heap.size, 0, none⟩ = some vw by rw [hw1]; exact (cell_of_row _ _ _ _ _ _ (heap_alloc_new w _)).trans rfl)
  have K1 := Lib.hid (show w1.cell? ⟨w.heap.size, 1, none⟩ = some (.float .f32 s) by rw [hw1]; exact (cell_of_row _ _ _ _ _ _ (heap_alloc_new w _)).trans rfl)
  have HRW := Lib.hid ((hrw.below hb01).more (Nat.le_of_lt hg))
  have HRL := Lib.hid ((hrl.below hb01).more (Nat.le_of_lt hg))
  have HRH := Lib.hid ((hrh.below hb01).more (Nat.le_of_lt hg))
  have HW1 := Lib.hid hw1
  clear hw1 hb01 hrw hrl hrh
  obtain ⟨Al, cl, hvl, _, _, _⟩ := id HRL.out
  obtain ⟨Ah, ch, hvh, _, _, _⟩ := id HRH.out
  rw [fl_len] at hvl hvh
  subst hvl hvh
  obtain h1 | h1 : vsB ws s = false ∨ vsB ws s = true := by cases vsB ws s <;> simp
  · have HVB := Lib.hid h1
    have HOK := Lib.hid (show dpB ws s low high = false by unfold dpB; rw [h1]; simp)
    clear h1
    go_enter Try.func25, Try.ntmps25
    go_wp2_with (go_at_call 57; rw [← HW1.out]; refine (vsP_any w.heap.size vw ws s w1 _ HRW.out K0.out K1.out hmw hwx hs).mono ?_; rintro e w2 ⟨rfl, n2, rfl⟩; rw [HVB.out])
    exact bodyPost_ret (v := .tuple #[.slice none 0 0, .bool false]) (by simp [results, Try.results25, go_sem]) rfl (retDb_no HOK.out (by first | exact HB01.out | exact below_drawn (HB01.out) _ | exact below_drawn (below_drawn (HB01.out) _) _ | exact below_drawn (below_drawn (below_drawn (HB01.out) _) _) _))
  · have HVB := Lib.hid h1
    obtain h2 | h2 : fitB low.length high.length = false ∨ fitB low.length high.length = true := by cases fitB low.length high.length <;> simp
    · have HFB := Lib.hid h2
      have HOK := Lib.hid (show dpB ws s low high = false by unfold dpB; rw [h1, h2]; simp)
      clear h1 h2
      go_enter Try.func25, Try.ntmps25
      go_wp2_with (first | (go_at_call 57; rw [← HW1.out]; refine (vsP_any w.heap.size vw ws s w1 _ HRW.out K0.out K1.out hmw hwx hs).mono ?_; rintro e w2 ⟨rfl, n2, rfl⟩; rw [HVB.out]) | (go_at_call 64; refine (hvS_fit low.length high.length _ hml hmh).mono ?_; rintro e w3 ⟨rfl, rfl⟩; rw [HFB.out]))
      exact bodyPost_ret (v := .tuple #[.slice none 0 0, .bool false]) (by simp [results, Try.results25, go_sem]) rfl (retDb_no HOK.out (by first | exact HB01.out | exact below_drawn (HB01.out) _ | exact below_drawn (below_drawn (HB01.out) _) _ | exact below_drawn (below_drawn (below_drawn (HB01.out) _) _) _))
    · have HFB := Lib.hid h2
      obtain h3 | h3 : finA low = false ∨ finA low = true := by cases finA low <;> simp
      · have HLB := Lib.hid h3
        have HOK := Lib.hid (show dpB ws s low high = false by unfold dpB; rw [h1, h2, h3]; simp)
        clear h1 h2 h3
        go_enter Try.func25, Try.ntmps25
        go_wp2_with (first | (go_at_call 57; rw [← HW1.out]; refine (vsP_any w.heap.size vw ws s w1 _ HRW.out K0.out K1.out hmw hwx hs).mono ?_; rintro e w2 ⟨rfl, n2, rfl⟩; rw [HVB.out]) | (go_at_call 64; refine (hvS_fit low.length high.length _ hml hmh).mono ?_; rintro e w3 ⟨rfl, rfl⟩; rw [HFB.out]) | (go_at_call 65; (with_reducible refine (finS_any (.slice Al low.length cl) low (w1.drewN n2) _ (HRL.out.drewN _) hml hlx).mono ?_); rintro e w4 ⟨rfl, n4, rfl⟩; rw [HLB.out]))
        exact bodyPost_ret (v := .tuple #[.slice none 0 0, .bool false]) (by simp [results, Try.results25, go_sem]) rfl (retDb_no HOK.out (by first | exact HB01.out | exact below_drawn (HB01.out) _ | exact below_drawn (below_drawn (HB01.out) _) _ | exact below_drawn (below_drawn (below_drawn (HB01.out) _) _) _))
      · have HLB := Lib.hid h3
        obtain h4 | h4 : finA high = false ∨ finA high = true := by cases finA high <;> simp
        · have HHB := Lib.hid h4
          have HOK := Lib.hid (show dpB ws s low high = false by unfold dpB; rw [h1, h2, h3, h4]; simp)
          clear h1 h2 h3 h4
          go_enter Try.func25, Try.ntmps25
          go_wp2_with (first | (go_at_call 57; rw [← HW1.out]; refine (vsP_any w.heap.size vw ws s w1 _ HRW.out K0.out K1.out hmw hwx hs).mono ?_; rintro e w2 ⟨rfl, n2, rfl⟩; rw [HVB.out]) | (go_at_call 64; refine (hvS_fit low.length high.length _ hml hmh).mono ?_; rintro e w3 ⟨rfl, rfl⟩; rw [HFB.out]) | (go_at_call 65; (with_reducible refine (finS_any (.slice Ah high.length ch) high _ _ (by first | exact HRH.out.drewN _ | exact (HRH.out.drewN _).drewN _) hmh hhx).mono ?_); rintro e w5 ⟨rfl, n5, rfl⟩; rw [HHB.out]) | (go_at_call 65; (with_reducible refine (finS_any (.slice Al low.length cl) low (w1.drewN n2) _ (HRL.out.drewN _) hml hlx).mono ?_); rintro e w4 ⟨rfl, n4, rfl⟩; rw [HLB.out]))
          exact bodyPost_ret (v := .tuple #[.slice none 0 0, .bool false]) (by simp [results, Try.results25, go_sem]) rfl (retDb_no HOK.out (by first | exact HB01.out | exact below_drawn (HB01.out) _ | exact below_drawn (below_drawn (HB01.out) _) _ | exact below_drawn (below_drawn (below_drawn (HB01.out) _) _) _))
        · have HHB := Lib.hid h4
          obtain ⟨hw8, hfw, hfs⟩ := vsB_out h1
          obtain ⟨hf1, hf2, hf3⟩ := fitB_out h2
          have HOK := Lib.hid (show dpB ws s low high = finA (dpL ws s low high) by unfold dpB; rw [h1, h2, h3, h4]; simp)
          have HDS := Lib.hid (fun (w' : World) (hb : Below w1.heap.size w1 w') => dssS_any w.heap.size s ws low high vw (.slice Al low.length cl) (.slice Ah high.length ch) w' (Nat.lt_of_lt_of_le hg hb.size) ((hb.cell (p := ⟨w.heap.size, 0, none⟩) hg).trans K0.out) ((hb.cell (p := ⟨w.heap.size, 1, none⟩) hg).trans K1.out) (HRW.out.step hb) (HRL.out.step hb) (HRH.out.step hb) hw8 hf1 hf2 hf3 hfw hwx h3 hlx h4 hhx hfs hs)
          clear h1 h2 h3 h4
          go_enter Try.func25, Try.ntmps25
          go_wp2_with (first | (go_at_call 57; rw [← HW1.out]; refine (vsP_any w.heap.size vw ws s w1 _ HRW.out K0.out K1.out hmw hwx hs).mono ?_; rintro e w2 ⟨rfl, n2, rfl⟩; rw [HVB.out]) | (go_at_call 64; refine (hvS_fit low.length high.length _ hml hmh).mono ?_; rintro e w3 ⟨rfl, rfl⟩; rw [HFB.out]) | (go_at_call 65; (with_reducible refine (finS_any (.slice Ah high.length ch) high _ _ (by first | exact HRH.out.drewN _ | exact (HRH.out.drewN _).drewN _) hmh hhx).mono ?_); rintro e w5 ⟨rfl, n5, rfl⟩; rw [HHB.out]) | (go_at_call 65; (with_reducible refine (finS_any (.slice Al low.length cl) low (w1.drewN n2) _ (HRL.out.drewN _) hml hlx).mono ?_); rintro e w4 ⟨rfl, n4, rfl⟩; rw [HLB.out]) | (go_at_call 66; refine (HDS.out _ (by first | exact Below.refl w1.heap.size w1 | exact below_drawn (Below.refl w1.heap.size w1) _ | exact below_drawn (below_drawn (Below.refl w1.heap.size w1) _) _ | exact below_drawn (below_drawn (below_drawn (Below.refl w1.heap.size w1) _) _) _)).mono ?_; rintro e w6 ⟨v, cL, rfl, o1, i1, b6⟩; have O1 := Lib.hid o1; have I1 := Lib.hid i1; have B6 := Lib.hid b6; clear o1 i1 b6))
          exact bodyPost_ret (v := .tuple #[v, .bool (finA (dpL ws s low high))]) (by simp [results, Try.results25, go_sem]) rfl (retDb_q HOK.out (O1.out.less (by first | exact Nat.le_of_lt hg)) I1.out (below_then B6.out (by first | exact HB01.out | exact below_drawn (HB01.out) _ | exact below_drawn (below_drawn (HB01.out) _) _ | exact below_drawn (below_drawn (below_drawn (HB01.out) _) _) _)))
end Go.Proofs.Ytfbdmhkmkmbipaa
