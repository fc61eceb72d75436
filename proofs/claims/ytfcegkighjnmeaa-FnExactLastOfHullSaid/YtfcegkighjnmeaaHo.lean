/-
  Contracts: HullOf and LastOfHull of both sides.
-/
import Derived.Test.YtfcegkighjnmeaaHl
import Derived.Test.YtfcegkighjnmeaaZz
namespace Go.Proofs.Ytfcegkighjnmeaa
open Go.RowKit Fl
set_option linter.unusedVariables false

def huV (bs : List Int) (ms : List Nat) (X : List Int) : List Int := if tbB bs ms then 0 :: X else []
theorem huV_yes {bs : List Int} {ms : List Nat} {X : List Int} (h : tbB bs ms = true) : huV bs ms X = 0 :: X := by unfold huV; rw [if_pos h]
theorem huV_no {bs : List Int} {ms : List Nat} {X : List Int} (h : tbB bs ms = false) : huV bs ms X = [] := by unfold huV; rw [if_neg (by rw [h]; simp)]
theorem huV_len (bs : List Int) (ms : List Nat) (X : List Int) (hl : X.length ≤ bs.length) : (huV bs ms X).length ≤ 1048576 := by
  cases hg : tbB bs ms with
  | false => rw [huV_no hg]; simp
  | true => rw [huV_yes hg]; have := (tbB_out hg).2.1; simp; omega
def laV (bs : List Int) (ms : List Nat) (X : List Int) : Int := if tbB bs ms then (0 :: X).getD X.length 0 else 0
set_option maxRecDepth 100000 in
set_option maxHeartbeats 2000000 in
theorem hoS_any (v u : Value) (bs : List Int) (ms : List Nat) (X : List Int) (w : World) (h : Rd w w.heap.size v (il bs)) (h' : Rd w w.heap.size u (fl ms)) (hm : bs.length ≤ 1048576) (hm2 : ms.length ≤ 1048576) (hx : ∀ x ∈ ms, x < 2 ^ 32) (hwf : ∀ x ∈ bs, (Lit.int .i64 x).wf = true) (hX : HullFrom bs ms bs.length 0 X) : Calls Try.prog 26 #[v, u] w (RetJ (huV bs ms X) (tbB bs ms) w) := by
  obtain ⟨A, c, hv, _, _, _⟩ := id h
  obtain ⟨A', c', hu, _, _, _⟩ := id h'
  rw [il_len] at hv
  rw [fl_len] at hu
  subst hv hu
  have HT := Lib.hid (tbS_any _ _ bs ms w _ h h' hm hm2 hx)
  cases hg : tbB bs ms with
  | false =>
    rw [huV_no hg]
    have HG := Lib.hid hg
    clear hg
    go_enter Try.func26, Try.ntmps26
    go_wp2_with (go_at_call 56; refine HT.out.mono ?_; rintro e w' ⟨rfl, n1, rfl⟩; rw [HG.out])
    go_ret2
    exact retJ_nil (below_drawn (Below.refl _ _) _)
  | true =>
    rw [huV_yes hg]
    obtain ⟨l1, l2, l3, ht⟩ := tbB_out hg
    have HH := Lib.hid (fun q => hlS_any (.slice A bs.length c) (.slice A' ms.length c') bs ms bs.length (w.drewN q) h h' rfl l3 l2 ht (fun i hi => getD_wf hwf i hi) l1 X hX)
    have HG := Lib.hid hg
    clear hg l1 l2 l3 ht
    go_enter Try.func26, Try.ntmps26
    go_wp2_with (first | (go_at_call 56; refine HT.out.mono ?_; rintro e w' ⟨rfl, n1, rfl⟩; rw [HG.out]) | (go_at_call 57; refine (HH.out _).mono ?_; rintro e w9 ⟨u9, rfl, ho, hb9⟩))
    go_ret2
    exact ⟨_, rfl, ho, (below_drawn (Below.refl w.heap.size w) _).trans hb9⟩
theorem hl_cases {bs : List Int} {ms : List Nat} {n a : Nat} {X L0 L : List Int} (h : HullFrom bs ms n a X) (hL : L0 ++ (a : Int) :: X = L) :
    ((bhI bs ms a n).1 = -1 ∧ L0 ++ [(a : Int)] = L) ∨ ∃ b : Nat, ∃ Y, (bhI bs ms a n).1 = (b : Int) ∧ a < b ∧ b < n ∧ HullFrom bs ms n b Y ∧ (L0 ++ [(a : Int)]) ++ (b : Int) :: Y = L := by
  cases h with
  | stop h1 => exact .inl ⟨h1, hL⟩
  | step h1 h2 =>
    rename_i b Y
    rcases bhI_b bs ms a n with hb | hb
    · rw [h1] at hb; omega
    · rw [h1] at hb
      exact .inr ⟨b, Y, h1, by omega, by omega, h2, by rw [List.append_assoc]; exact hL⟩
set_option maxRecDepth 100000 in
set_option maxHeartbeats 4000000 in
theorem hoI_any (v u : Value) (bs : List Int) (ms : List Nat) (X : List Int) (w : World) (h : Rd w w.heap.size v (il bs)) (h' : Rd w w.heap.size u (fl ms)) (hm : bs.length ≤ 1048576) (hm2 : ms.length ≤ 1048576) (hx : ∀ x ∈ ms, x < 2 ^ 32) (hwf : ∀ x ∈ bs, (Lit.int .i64 x).wf = true) (hX : HullFrom bs ms bs.length 0 X) : Calls Try.prog 29 #[v, u] w (RetJ (huV bs ms X) (tbB bs ms) w) := by
  obtain ⟨i0, hi, hz0, hz1, hz2⟩ := info_parts infoI
  obtain ⟨A, c, hv, _, _, _⟩ := id h
  obtain ⟨A', c', hu, _, _, _⟩ := id h'
  rw [il_len] at hv
  rw [fl_len] at hu
  subst hv hu
  have HT := Lib.hid (tbI_any _ _ bs ms w _ h h' hm hm2 hx)
  cases hg : tbB bs ms with
  | false =>
    rw [huV_no hg]
    have HG := Lib.hid hg
    clear hg
    go_enter Try.func29, Try.ntmps29
    go_wp2_with (go_at_call 58; refine HT.out.mono ?_; rintro e w' ⟨rfl, n1, rfl⟩; rw [HG.out])
    go_ret2
    exact retJ_nil (below_drawn (Below.refl _ _) _)
  | true =>
    rw [huV_yes hg]
    obtain ⟨l1, l2, l3, ht⟩ := tbB_out hg
    have HPB := Lib.hid (fun w' (hb : Below w.heap.size w w') a ha => pbI_any (.slice A bs.length c) (.slice A' ms.length c') bs ms bs.length w' (h.step hb) (h'.step hb) rfl l3 l2 ht (fun i hi => getD_wf hwf i hi) a ha)
    have HG := Lib.hid hg
    have HX := Lib.hid hX
    clear hg ht l3 h h' hx hwf hX hm hm2
    generalize ms.length = n' at *
    obtain ⟨n, hn⟩ : ∃ n, bs.length = n := ⟨_, rfl⟩
    rw [hn] at HPB HX HT l1 l2 ⊢
    clear hn
    go_enter Try.func29, Try.ntmps29
    go_wp2_with (go_at_call 58; refine HT.out.mono ?_; rintro e w' ⟨rfl, n1, rfl⟩; rw [HG.out])
    clear HT
    go_loopw [6, 7] (HlRelI w bs ms n (0 :: X)) (fun _ i _ => if intOf i = -1 then 0 else n + 1 - (intOf i).toNat)
    case atStart => exact .inl ⟨0, [], X, l1, rfl, by first | (simp; done) | (simp; omega), HX.out, rfl, RowI.litD w _⟩
    case round =>
      clear HX
      rcases hrel with ⟨a, L0, Y, ha, rfl, hl0, hx, hL, hr⟩ | ⟨rfl, hr⟩
      · have HR := Lib.hid hr
        have HN := Lib.hid (show L0.length ≤ 64 by omega)
        have HN2 := Lib.hid hl0
        have hne : ((a : Int) != -1) = true := bne_iff_ne.2 (by omega)
        have hnz : ¬ ((a : Int) = -1) := by omega
        rcases hl_cases hx hL with ⟨hb, hE⟩ | ⟨b, Z, hb, hab, hbn, hz, hE⟩
        · have HE := Lib.hid hE
          have HC := Lib.hid (fun w' hbl => (by have := HPB.out w' hbl a ha; rw [hb] at this; exact this : Calls Try.prog 59 #[.slice A n c, .slice A' n' c', .int .i64 a] w' fun e w'' => e = .returned (.int .i64 (-1)) ∧ ∃ q, w'' = w'.drewN q))
          clear hr hx hL hl0 hb hE
          go_wp2_with (first | (at_builtin; refine wpList_append_own _ rfl _ _ 29 rfl w.heap.size 2 i0 (.int .i64 0) 1 8 Try.underlying29 hi hz0 hz1 hz2 rfl (by decide) _ _ _ rfl (HR.out.1.alloc _) ⟨wr.heap.size, 0, none⟩ 1 1 [.int .i64 (a : Int)] rfl rfl (one_newF _ _ _) (cellsI [(a : Int)]) (by unfold maxLen; have := HN.out; omega) (by have := HN.out; omega) (by simp; have := HR.out.2.size; omega) ?_; intro v' w1 hown' hgrow _) | (at_builtin; refine wpList_append_own _ rfl _ _ 29 rfl w.heap.size 2 i0 (.int .i64 0) 1 8 Try.underlying29 hi hz0 hz1 hz2 rfl (by decide) _ _ _ rfl ((rowDrewF HR.out.1 _).alloc _) ⟨wr.heap.size, 0, none⟩ 1 1 [.int .i64 (a : Int)] rfl rfl (one_newF _ _ _) (cellsI [(a : Int)]) (by unfold maxLen; have := HN.out; omega) (by have := HN.out; omega) (by simp; have := HR.out.2.size; omega) ?_; intro v' w1 hown' hgrow _))
          have HR2 := Lib.hid (show RowI w v' (L0 ++ [(a : Int)]) w1 from RowI.push hown' (by first | exact HR.out.2.alloc HR.out.2.size _ | exact (below_drawn HR.out.2 _).alloc HR.out.2.size _) hgrow (fun j hj => (HR.out.1.lt j hj).1))
          clear hown' hgrow
          go_wp2_with (go_at_call 59; refine (HC.out _ HR2.out.2).mono ?_; rintro e w' ⟨rfl, n2, rfl⟩)
          go_roundw
          case rel => exact .inr ⟨rfl, by rw [← HE.out]; exact HR2.out.drewN _⟩
          case measure => simp [intOf]; omega
        · have HE := Lib.hid hE
          have HZ := Lib.hid hz
          have HC := Lib.hid (fun w' hbl => (by have := HPB.out w' hbl a ha; rw [hb] at this; exact this : Calls Try.prog 59 #[.slice A n c, .slice A' n' c', .int .i64 a] w' fun e w'' => e = .returned (.int .i64 b) ∧ ∃ q, w'' = w'.drewN q))
          clear hr hx hL hl0 hb hE hz
          go_wp2_with (first | (at_builtin; refine wpList_append_own _ rfl _ _ 29 rfl w.heap.size 2 i0 (.int .i64 0) 1 8 Try.underlying29 hi hz0 hz1 hz2 rfl (by decide) _ _ _ rfl (HR.out.1.alloc _) ⟨wr.heap.size, 0, none⟩ 1 1 [.int .i64 (a : Int)] rfl rfl (one_newF _ _ _) (cellsI [(a : Int)]) (by unfold maxLen; have := HN.out; omega) (by have := HN.out; omega) (by simp; have := HR.out.2.size; omega) ?_; intro v' w1 hown' hgrow _) | (at_builtin; refine wpList_append_own _ rfl _ _ 29 rfl w.heap.size 2 i0 (.int .i64 0) 1 8 Try.underlying29 hi hz0 hz1 hz2 rfl (by decide) _ _ _ rfl ((rowDrewF HR.out.1 _).alloc _) ⟨wr.heap.size, 0, none⟩ 1 1 [.int .i64 (a : Int)] rfl rfl (one_newF _ _ _) (cellsI [(a : Int)]) (by unfold maxLen; have := HN.out; omega) (by have := HN.out; omega) (by simp; have := HR.out.2.size; omega) ?_; intro v' w1 hown' hgrow _))
          have HR2 := Lib.hid (show RowI w v' (L0 ++ [(a : Int)]) w1 from RowI.push hown' (by first | exact HR.out.2.alloc HR.out.2.size _ | exact (below_drawn HR.out.2 _).alloc HR.out.2.size _) hgrow (fun j hj => (HR.out.1.lt j hj).1))
          clear hown' hgrow
          go_wp2_with (go_at_call 59; refine (HC.out _ HR2.out.2).mono ?_; rintro e w' ⟨rfl, n2, rfl⟩)
          go_roundw
          case rel => exact .inl ⟨b, _, Z, hbn, rfl, by have := HN2.out; simp; omega, HZ.out, HE.out, HR2.out.drewN _⟩
          case measure => simp [intOf]; omega
      · have HR := Lib.hid hr
        clear hr
        go_wp2
        go_ret2
        exact ⟨_, rfl, HR.out.own, HR.out.2⟩
theorem la_get (X : List Int) : (il (0 :: X))[X.length]? = some (.int .i64 ((0 :: X).getD X.length 0)) := by
  rw [il_get (0 :: X) X.length (by simp)]
  simp [List.getD]
set_option maxRecDepth 100000 in
set_option maxHeartbeats 2000000 in
theorem laI_any (v u : Value) (bs : List Int) (ms : List Nat) (X : List Int) (w : World) (h : Rd w w.heap.size v (il bs)) (h' : Rd w w.heap.size u (fl ms)) (hm : bs.length ≤ 1048576) (hm2 : ms.length ≤ 1048576) (hx : ∀ x ∈ ms, x < 2 ^ 32) (hwf : ∀ x ∈ bs, (Lit.int .i64 x).wf = true) (hX : HullFrom bs ms bs.length 0 X) (hXl : X.length ≤ bs.length) : Calls Try.prog 33 #[v, u] w (RetV (.tuple #[.int .i64 (laV bs ms X), .bool (tbB bs ms)]) w) := by
  obtain ⟨A, c, hv, _, _, _⟩ := id h
  obtain ⟨A', c', hu, _, _, _⟩ := id h'
  rw [il_len] at hv
  rw [fl_len] at hu
  subst hv hu
  have HT := Lib.hid (hoI_any _ _ bs ms X w h h' hm hm2 hx hwf hX)
  cases hg : tbB bs ms with
  | false =>
    rw [show laV bs ms X = 0 by unfold laV; rw [hg]; rfl]
    rw [huV_no hg, hg] at HT
    clear hg
    go_enter Try.func33, Try.ntmps33
    go_wp2_with (go_at_call 29; refine HT.out.mono ?_; rintro e w' ⟨z, rfl, ho, hb⟩)
    go_ret2
    exact ⟨rfl, hb⟩
  | true =>
    rw [show laV bs ms X = (0 :: X).getD X.length 0 by unfold laV; rw [hg]; rfl]
    rw [huV_yes hg, hg] at HT
    have l2 := (tbB_out hg).2.1
    have HLA := Lib.hid (la_get X)
    generalize (0 :: X).getD X.length 0 = y at *
    clear hg h h' hx hwf hX hm hm2
    go_enter Try.func33, Try.ntmps33
    go_wp2_with (go_at_call 29; refine HT.out.mono ?_; rintro e w' ⟨z, rfl, ho, hb⟩; obtain ⟨Az, cz, hz, _, _, hcz⟩ := id ho; rw [il_len, List.length_cons] at hz; subst hz; obtain ⟨bz, oz, rfl, hlz, hbz, hccz, _⟩ := hcz (by rw [il_len]; simp); have hsz : w'.cell? ⟨bz, oz + X.length, none⟩ = some (.int .i64 y) := hccz X.length _ HLA.out; have HB := Lib.hid hb; clear hb ho hcz hccz)
    go_ret2
    exact ⟨rfl, HB.out⟩
set_option maxRecDepth 100000 in
set_option maxHeartbeats 2000000 in
theorem laS_any (v u : Value) (bs : List Int) (ms : List Nat) (X : List Int) (w : World) (h : Rd w w.heap.size v (il bs)) (h' : Rd w w.heap.size u (fl ms)) (hm : bs.length ≤ 1048576) (hm2 : ms.length ≤ 1048576) (hx : ∀ x ∈ ms, x < 2 ^ 32) (hwf : ∀ x ∈ bs, (Lit.int .i64 x).wf = true) (hX : HullFrom bs ms bs.length 0 X) (hXl : X.length ≤ bs.length) : Calls Try.prog 32 #[v, u] w (RetV (.tuple #[.int .i64 (laV bs ms X), .bool (tbB bs ms)]) w) := by
  obtain ⟨A, c, hv, _, _, _⟩ := id h
  obtain ⟨A', c', hu, _, _, _⟩ := id h'
  rw [il_len] at hv
  rw [fl_len] at hu
  subst hv hu
  have HT := Lib.hid (tbS_any _ _ bs ms w _ h h' hm hm2 hx)
  cases hg : tbB bs ms with
  | false =>
    rw [show laV bs ms X = 0 by unfold laV; rw [hg]; rfl]
    have HG := Lib.hid hg
    clear hg
    go_enter Try.func32, Try.ntmps32
    go_wp2_with (go_at_call 56; refine HT.out.mono ?_; rintro e w' ⟨rfl, n1, rfl⟩; rw [HG.out])
    go_ret2
    exact ⟨rfl, below_drawn (Below.refl _ _) _⟩
  | true =>
    rw [show laV bs ms X = (0 :: X).getD X.length 0 by unfold laV; rw [hg]; rfl]
    obtain ⟨l1, l2, l3, ht⟩ := tbB_out hg
    have HH := Lib.hid (fun q => hlS_any (.slice A bs.length c) (.slice A' ms.length c') bs ms bs.length (w.drewN q) h h' rfl l3 l2 ht (fun i hi => getD_wf hwf i hi) l1 X hX)
    have HLA := Lib.hid (la_get X)
    have HG := Lib.hid hg
    generalize (0 :: X).getD X.length 0 = y at *
    clear hg h h' hx hwf hX hm hm2 ht l3 l1
    go_enter Try.func32, Try.ntmps32
    go_wp2_with (first | (go_at_call 56; refine HT.out.mono ?_; rintro e w' ⟨rfl, n1, rfl⟩; rw [HG.out]) | (go_at_call 57; refine (HH.out _).mono ?_; rintro e w' ⟨z, rfl, ho, hb⟩; obtain ⟨Az, cz, hz, _, _, hcz⟩ := id ho; rw [il_len, List.length_cons] at hz; subst hz; obtain ⟨bz, oz, rfl, hlz, hbz, hccz, _⟩ := hcz (by rw [il_len]; simp); have hsz : w'.cell? ⟨bz, oz + X.length, none⟩ = some (.int .i64 y) := hccz X.length _ HLA.out; have HB := Lib.hid hb; clear hb ho hcz hccz))
    go_ret2
    exact ⟨rfl, (below_drawn (Below.refl w.heap.size w) _).trans HB.out⟩
end Go.Proofs.Ytfcegkighjnmeaa
