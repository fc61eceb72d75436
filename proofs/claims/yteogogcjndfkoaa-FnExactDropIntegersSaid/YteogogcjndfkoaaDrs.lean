/-
  Contracts: integers that were lifted, by the model.
-/
import Derived.Test.YteogogcjndfkoaaDrk
import Derived.Deep.RegionHeld3
import Derived.Deep.AppendLies
import Derived.IntWalk
import Derived.Lib.SmallJoins
namespace Go.Proofs.Yteogogcjndfkoaa
open Go.RowKit
set_option linter.unusedVariables false

def apT (h : Nat → Int) (k : Nat) : List Int := (List.range k).map h
theorem apT_succ (h : Nat → Int) (k : Nat) : apT h (k + 1) = apT h k ++ [h k] := by simp [apT, List.range_succ]
def zfAt (ev od : List Int) (i : Nat) : Int := if i % 2 = 0 then ev.getD (i / 2) 0 else od.getD (i / 2) 0
theorem jo_apT (ev od : List Int) (h1 : od.length ≤ ev.length) (h2 : ev.length ≤ od.length + 1) : joF ev od = apT (zfAt ev od) (ev.length + od.length) := by
  unfold joF zpF apT
  refine List.map_congr_left fun i hi => ?_
  have hi' := List.mem_range.1 hi
  unfold zpAt zfAt
  by_cases h : i % 2 = 0
  · rw [if_pos h, if_pos h, if_pos (by omega)]
  · rw [if_neg h, if_neg h, if_pos (by omega)]
theorem zf_even (ev od : List Int) (k : Nat) : zfAt ev od (2 * k) = ev.getD k 0 := by
  unfold zfAt; rw [if_pos (by omega), show 2 * k / 2 = k by omega]
theorem zf_odd (ev od : List Int) (k : Nat) : zfAt ev od (2 * k + 1) = od.getD k 0 := by
  unfold zfAt; rw [if_neg (by omega), show (2 * k + 1) / 2 = k by omega]
theorem _root_.Go.World.ownsRow.draws2 {w w2 : World} {base n s m : Nat} {e : TypeId} {v : Value} {xs : List Value} (h : w.ownsRow base e s v n xs) (hw : w2 = w.drew.drewN m) : w2.ownsRow base e s v n xs := by subst hw; exact h
theorem below_draw2 {B : Nat} {a w : World} (h : Below B a w) : Below B a w.drew := h.drew
def DeRel (w : World) (n : Nat) (h : Nat → Int) (v i : Value) (wr : World) : Prop :=
  ∃ k : Nat, k ≤ n ∧ i = .int .i64 k ∧ wr.ownsRow w.heap.size 2 1 v k (il (apT h k)) ∧ Below w.heap.size w wr
def JoRel (w : World) (n m : Nat) (h : Nat → Int) (de : List Int) (vlow v i : Value) (wr : World) : Prop :=
  ∃ k : Nat, k ≤ n ∧ i = .int .i64 k ∧ wr.ownsRow w.heap.size 2 1 v (k + min k m) (il (apT h (k + min k m))) ∧ wr.ownsRow w.heap.size 2 1 vlow n (il de) ∧ DJ v vlow ∧ Below w.heap.size w wr
def fitB (a b : Nat) : Bool := decide (1 ≤ a ∧ (b = a ∨ b + 1 = a) ∧ a + b ≤ 128)
theorem fit_yes (a b : Nat) (w : World) (h1 : 1 ≤ a) (h2 : b = a ∨ b + 1 = a) (h3 : a + b ≤ 128) : Calls Try.prog 87 #[.int .i64 (a : Int), .int .i64 (b : Int)] w fun e w' => e = .returned (.bool true) ∧ w = w' := by
  have hd : decide ((a : Int) + (b : Int) ≤ 128) = true := decide_eq_true (by omega)
  rcases h2 with h2 | h2
  · have he : ((b : Int) == (a : Int)) = true := by rw [beq_iff_eq]; omega
    clear h2
    go_enter Try.func87, Try.ntmps87
    go_wp2
    go_ret
    first | exact ⟨rfl, rfl⟩ | exact ⟨by rw [← hd]; rfl, rfl⟩
  · have he : ((b : Int) == (a : Int)) = false := by rw [beq_eq_false_iff_ne]; omega
    have he2 : ((b : Int) == (a : Int) - 1) = true := by rw [beq_iff_eq]; omega
    clear h2
    go_enter Try.func87, Try.ntmps87
    go_wp2
    go_ret
    first | exact ⟨rfl, rfl⟩ | exact ⟨by rw [← hd]; rfl, rfl⟩
theorem fit_no (a b : Nat) (w : World) (ha : a ≤ 1048576) (hb : b ≤ 1048576) (h : ¬ (1 ≤ a ∧ (b = a ∨ b + 1 = a) ∧ a + b ≤ 128)) : Calls Try.prog 87 #[.int .i64 (a : Int), .int .i64 (b : Int)] w fun e w' => e = .returned (.bool false) ∧ w = w' := by
  by_cases h1 : a < 1
  · clear h
    go_enter Try.func87, Try.ntmps87
    go_wp2
    go_ret
    exact ⟨rfl, rfl⟩
  · have h1' : 1 ≤ a := by omega
    clear h1
    by_cases h2 : b = a
    · have he : ((b : Int) == (a : Int)) = true := by rw [beq_iff_eq]; omega
      have hd : decide ((a : Int) + (b : Int) ≤ 128) = false := decide_eq_false (by omega)
      clear h h2
      go_enter Try.func87, Try.ntmps87
      go_wp2
      go_ret
      first | exact ⟨rfl, rfl⟩ | exact ⟨by rw [← hd]; rfl, rfl⟩
    · have he : ((b : Int) == (a : Int)) = false := by rw [beq_eq_false_iff_ne]; omega
      by_cases h3 : b + 1 = a
      · have he2 : ((b : Int) == (a : Int) - 1) = true := by rw [beq_iff_eq]; omega
        have hd : decide ((a : Int) + (b : Int) ≤ 128) = false := decide_eq_false (by omega)
        clear h h2 h3
        go_enter Try.func87, Try.ntmps87
        go_wp2
        go_ret
        first | exact ⟨rfl, rfl⟩ | exact ⟨by rw [← hd]; rfl, rfl⟩
      · have he2 : ((b : Int) == (a : Int) - 1) = false := by rw [beq_eq_false_iff_ne]; omega
        clear h h2 h3
        go_enter Try.func87, Try.ntmps87
        go_wp2
        go_ret
        exact ⟨rfl, rfl⟩
/-- Returns a list of its own, and whether there is one. -/
def RetLB (xs : List Int) (b : Bool) (w : World) (e : Ending) (w' : World) : Prop := ∃ v, e = .returned (.tuple #[v, .bool b]) ∧ Own w' w.heap.size v (il xs) ∧ Below w.heap.size w w'
def drO (kind : Int) (ev od : List Int) : List Int := if areB (drF kind ev od) then drF kind ev od else []
set_option maxRecDepth 100000 in
set_option maxHeartbeats 4000000 in
theorem drpS_yes (kind : Int) (vl vh : Value) (ev od : List Int) (w : World) (h : Rd w w.heap.size vl (il ev)) (h2 : Rd w w.heap.size vh (il od)) (hk0 : 0 ≤ kind) (hk2 : kind ≤ 2) (he : 1 ≤ ev.length) (he2 : ev.length ≤ 64) (hf : od.length ≤ ev.length) (hf2 : ev.length ≤ od.length + 1) (hwe : withB 10000000 ev = true) (hwo : withB 10000000 od = true) :
    Calls Try.prog 66 #[.int .i64 kind, vl, vh] w (RetLB (drO kind ev od) (areB (drF kind ev od)) w) := by
  obtain ⟨i0, hi, hz0, hz1, hz2⟩ := info_parts infoI
  obtain ⟨Ae, ce, hv, _, _, hce⟩ := id h
  obtain ⟨Ao, co, hv2, _, _, hco⟩ := id h2
  rw [il_len] at hv hv2 hce hco
  subst hv hv2
  obtain ⟨be, fe, rfl, hbe, hcce⟩ := hce (by omega)
  have HCE := Lib.hid hcce
  have HCO := Lib.hid hco
  clear hce hcce hco
  have hbe0 : Bds 10000000 ev := fun x hx => by
    obtain ⟨i, hi, rfl⟩ := List.mem_iff_getElem.1 hx
    exact withB_out hwe i hi
  have hbo0 : Bds 10000000 od := fun x hx => by
    obtain ⟨i, hi, rfl⟩ := List.mem_iff_getElem.1 hx
    exact withB_out hwo i hi
  have W1 := Lib.hid hwe
  have W2 := Lib.hid hwo
  clear hwe hwo
  have HFit := Lib.hid (fit_yes ev.length od.length w he (by omega) (by omega))
  have hdb : Bds 10000000000 (deF kind ev od) := (deF_bd hbe0 hbo0 (by omega) kind).mono (by omega)
  have HDL := Lib.hid (deF_len kind ev od)
  have HDR := Lib.hid (show drF kind ev od = apT (zfAt (deF kind ev od) (doF kind (deF kind ev od) od)) (ev.length + od.length) by unfold drF; rw [jo_apT _ _ (by rw [deF_len, doF_len]; omega) (by rw [deF_len, doF_len]; omega), deF_len, doF_len])
  go_enter Try.func66, Try.ntmps66
  go_wp2_with fail
  refine HFit.out.mono ?_
  rintro e w' ⟨rfl, rfl⟩
  go_wp2_with fail
  refine (withS_any _ ev 10000000 _ _ h (by omega) (by omega) (by omega)).mono ?_
  rintro e w' ⟨rfl, rfl⟩
  rw [W1.out]
  go_wp2_with fail
  refine (withS_any _ od 10000000 _ _ h2 (by omega) (by omega) (by omega)).mono ?_
  rintro e w' ⟨rfl, rfl⟩
  rw [W2.out]
  go_wp2_with fail
  have hown : (w.alloc (Obj.cells #[] 2)).ownsRow w.heap.size 2 1 (.slice (some ⟨w.heap.size, 0, none⟩) 0 0) 0 (il []) := World.ownsRow_made w #[] 0 (Nat.le_refl _) (Nat.zero_le _) rfl
  have hb0 : Below w.heap.size w (w.alloc (Obj.cells #[] 2)) := (Below.refl _ _).alloc (Nat.le_refl _) _
  go_loopw [8, 9] (DeRel w ev.length (fun i => ev.getD i 0 - gai kind od i)) (fun _ i _ => ev.length - (intOf i).toNat)
  case atStart => exact ⟨0, Nat.zero_le _, rfl, hown, hb0⟩
  case round =>
    clear hown hb0
    obtain ⟨k, hk, rfl, hown, hb⟩ := hrel
    by_cases hlt : k < ev.length
    · have hsrc : wr.cell? ⟨be, fe + k, none⟩ = some (.int .i64 (ev.getD k 0)) := by
        have := (hb.cell (p := ⟨be, fe + k, none⟩) hbe).trans (HCE.out k _ (il_get ev k hlt))
        rw [this, show ev[k] = ev.getD k 0 by simp [List.getD, hlt]]
      have gb := gai_bd hbo0 (by omega) kind k
      have ob := hbe0.getD (by omega) k
      have hrd : Rd wr w.heap.size (.slice Ao od.length co) (il od) := h2.below hb
      have HG := Lib.hid (fun (w' : World) (hr : Rd w' w.heap.size (.slice Ao od.length co) (il od)) => gaiS kind (.slice Ao od.length co) od k w' _ hr (by omega) (by omega) hk0 hk2 (hbo0.mono (by omega)))
      have HS := Lib.hid (show apT (fun i => ev.getD i 0 - gai kind od i) (k + 1) = apT (fun i => ev.getD i 0 - gai kind od i) k ++ [ev.getD k 0 - gai kind od k] from apT_succ _ k)
      generalize ev.getD k 0 = x at *
      generalize gai kind od k = g at *
      obtain ⟨gb1, gb2⟩ := gb
      obtain ⟨ob1, ob2⟩ := ob
      have HWR := Lib.hid (show IntKind.i64.wrap (x - g) = x - g from IntWalk.i64_in _ (by omega))
      have hk0' : (0 : Int) ≤ (k : Int) := by omega
      have hk1' : (k : Int) < (ev.length : Int) := by omega
      go_wp2_with fail
      go_region_held3 (fun w' => w'.cell? ⟨be, fe + k, none⟩ = some (.int .i64 x)) (first | exact hsrc | exact q2 | exact q2a _ | exact q3) ((first | (go_at_call 84; refine (HG.out _ ?_).mono ?_; exact hrd; rintro e w2 ⟨rfl, n, hw2⟩; have q2 : w2.cell? ⟨be, fe + k, none⟩ = some (.int .i64 x) := (by rw [hw2]; exact hsrc); have q2a : ∀ o, (w2.alloc o).cell? ⟨be, fe + k, none⟩ = some (.int .i64 x) := fun o => (((Below.refl w2.heap.size w2).alloc (Nat.le_refl _) o).cell (p := ⟨be, fe + k, none⟩) (World.block_lt_of_cell? w2 _ q2)).trans q2; have hown2 := hown.draws2 hw2; have hb2 : Below w.heap.size w w2 := (by rw [hw2]; exact below_drawn (below_draw2 hb) _); clear hw2) | (refine step_append_lies _ (by rfl) _ _ _ (by rfl) w.heap.size 2 i0 _ 1 8 Try.underlying26 hi hz0 hz1 hz2 rfl (by omega) _ _ _ (by rfl) (hown2.alloc _) ⟨w2.heap.size, 0, none⟩ 1 1 [.int .i64 (IntKind.i64.wrap (x - g))] (by rfl) (by rfl) (World.news_of_block (cs := #[.int .i64 (IntKind.i64.wrap (x - g))]) (t := 2) (fr := (0, 0)) (heap_alloc_new w2 _)) (by simp [Value.oneCell']) (by omega) (by unfold maxLen; omega) (by omega) (by simp; have := hb2.size; omega) (w2.heap.size + 1) (by simp) ?_; intro gg cap w3 hown3 hgrow hat hlt3; have q3 : w3.cell? ⟨be, fe + k, none⟩ = some (.int .i64 x) := hgrow.cell (q2a _) (fun e => by have := (hown2.lt be e.symm).1; omega))))
      have hb3 : Below w.heap.size w w3 := (hb2.alloc hb2.size _).grown hgrow (by simp; have := hb2.size; omega) (fun j hj => (hown2.lt j hj).1)
      rw [HWR.out] at hown3
      have q1 : w3.ownsRow w.heap.size 2 1 (.slice (some ⟨gg, 0, none⟩) (k + 1) cap) (k + 1) (il (apT (fun i => ev.getD i 0 - gai kind od i) (k + 1))) := by rw [HS.out, il_app]; exact hown3
      clear hown3 hgrow hat hlt3 hown hb hown2 hb2 hrd hsrc q2 q2a q3
      go_wp2
      go_roundw
      case rel => exact ⟨k + 1, by omega, by go_num, q1, hb3⟩
      case measure => simp [intOf]; omega
    · obtain rfl : k = ev.length := by omega
      replace hown : wr.ownsRow w.heap.size 2 1 _ ev.length (il (deF kind ev od)) := hown
      obtain ⟨gl, cpl, hu8⟩ := Go.Joins.ownsRow_form hown (by omega)
      subst hu8
      have HLL := Lib.hid HDL.out
      generalize deF kind ev od = de at *
      have hdn : de.length = ev.length := HLL.out
      have hown0 : (wr.alloc (Obj.cells #[] 2)).ownsRow w.heap.size 2 1 (.slice (some ⟨wr.heap.size, 0, none⟩) 0 0) 0 (il []) := by
        have := World.ownsRow_made (base := w.heap.size) (e := 2) (size := 1) wr #[] 0 hb.size (Nat.zero_le _) rfl
        exact this
      have hlow0 := hown.alloc (Obj.cells #[] 2)
      have hb0 : Below w.heap.size w (wr.alloc (Obj.cells #[] 2)) := hb.alloc hb.size _
      have hd0 : DJ (.slice (some ⟨wr.heap.size, 0, none⟩) 0 0) (.slice (some ⟨gl, 0, none⟩) ev.length cpl) := by
        intro j h1 h2
        have := (hown.lt gl rfl).2
        simp only [Value.ownBlock, Option.some.injEq] at h1 h2
        omega
      have HLL2 := Lib.hid hdn
      clear hown hb hdn
      go_wp2_with fail
      go_loopw [10, 11] (JoRel w ev.length od.length (zfAt de (doF kind de od)) de (.slice (some ⟨gl, 0, none⟩) ev.length cpl)) (fun _ i _ => ev.length - (intOf i).toNat)
      case atStart => exact ⟨0, Nat.zero_le _, rfl, by simpa [apT] using hown0, hlow0, hd0, hb0⟩
      case round =>
        clear hown0 hlow0 hd0 hb0
        obtain ⟨k, hk, rfl, hout, hlow, hdj, hb⟩ := hrel
        by_cases hlt : k < ev.length
        · have hdk : k < de.length := by have := HLL2.out; omega
          have hcl : wr.cell? ⟨gl, k, none⟩ = some (.int .i64 (de.getD k 0)) := by
            rw [hlow.cellAt k (by omega), il_get de k hdk, show de[k] = de.getD k 0 by simp [List.getD, hdk]]
          rw [show k + min k od.length = 2 * k by omega] at hout
          have HS1 := Lib.hid (show apT (zfAt de (doF kind de od)) (2 * k + 1) = apT (zfAt de (doF kind de od)) (2 * k) ++ [de.getD k 0] by rw [apT_succ, zf_even])
          have db := hdb.getD (by omega) k
          by_cases hko : k < od.length
          · obtain ⟨bo, fo, rfl, hbo, hcco⟩ := HCO.out (by omega)
            have hsrc0 : wr.cell? ⟨bo, fo + k, none⟩ = some (.int .i64 (od.getD k 0)) := by
              rw [(hb.cell (p := ⟨bo, fo + k, none⟩) hbo).trans (hcco k _ (il_get od k hko)), show od[k] = od.getD k 0 by simp [List.getD, hko]]
            have HS2 := Lib.hid (show apT (zfAt de (doF kind de od)) (2 * k + 1 + 1) = apT (zfAt de (doF kind de od)) (2 * k + 1) ++ [od.getD k 0 + gue kind de k] by rw [apT_succ, zf_odd]; simp [doF, List.getD, hko])
            have gb := gue_bd hdb (by omega) kind k
            have ob := hbo0.getD (by omega) k
            have HG := Lib.hid (fun (w' : World) (hr : Rd w' w'.heap.size (.slice (some ⟨gl, 0, none⟩) ev.length cpl) (il de)) => gueS kind (.slice (some ⟨gl, 0, none⟩) ev.length cpl) de k w' _ hr (by have := HLL2.out; omega) hdk hk0 hk2 hdb)
            have EK := Lib.hid (show k + 1 + min (k + 1) od.length = 2 * k + 1 + 1 by omega)
            clear hcco
            generalize de.getD k 0 = y at *
            generalize od.getD k 0 = x at *
            generalize gue kind de k = g at *
            obtain ⟨gb1, gb2⟩ := gb
            obtain ⟨ob1, ob2⟩ := ob
            have HWR := Lib.hid (show IntKind.i64.wrap (x + g) = x + g from IntWalk.i64_in _ (by omega))
            have hk0' : (0 : Int) ≤ (k : Int) := by omega
            have hk1' : (k : Int) < (od.length : Int) := by omega
            go_wp2_with (at_builtin; refine wpList_append_own_at _ rfl _ _ 26 rfl w.heap.size 2 i0 (.int .i64 0) 1 8 Try.underlying26 hi hz0 hz1 hz2 rfl (by decide) _ _ _ rfl (hout.alloc _) ⟨wr.heap.size, 0, none⟩ 1 1 [.int .i64 y] rfl rfl (one_new _ _ _) (one_cellI _) (by unfold maxLen; omega) (by omega) (by simp; have := hb.size; omega) ?_; intro v' w1 hown' hgrow _ hat)
            have hout1 : w1.ownsRow w.heap.size 2 1 v' (2 * k + 1) (il (apT (zfAt de (doF kind de od)) (2 * k + 1))) := by rw [HS1.out, il_app]; exact hown'
            have hlow1 := (hlow.alloc (Obj.cells #[.int .i64 y] 2)).kept hgrow (dj_kept hdj)
            have hdj1 := hdj.grow hlow (s := (wr.alloc (Obj.cells #[.int .i64 y] 2)).heap.size) (by simp) hat
            have hb1 : Below w.heap.size w w1 := (hb.alloc hb.size _).grown hgrow (by simp; have := hb.size; omega) (fun j hj => (hout.lt j hj).1)
            have hsrc : w1.cell? ⟨bo, fo + k, none⟩ = some (.int .i64 x) := by
              have h0 := (((Below.refl wr.heap.size wr).alloc (Nat.le_refl _) (Obj.cells #[.int .i64 y] 2)).cell (p := ⟨bo, fo + k, none⟩) (World.block_lt_of_cell? wr _ hsrc0)).trans hsrc0
              exact hgrow.cell h0 (fun e => by have := (hout.lt bo e.symm).1; omega)
            have hrd : Rd w1 w1.heap.size (.slice (some ⟨gl, 0, none⟩) ev.length cpl) (il de) := (Own.row hlow1).rd
            clear hown' hgrow hat hout hlow hdj hb hcl hsrc0
            go_wp2_with fail
            go_region_held3 (fun w' => w'.cell? ⟨bo, fo + k, none⟩ = some (.int .i64 x)) (first | exact hsrc | exact q2 | exact q2a _ | exact q3) ((first | (go_at_call 83; refine (HG.out _ ?_).mono ?_; exact hrd; rintro e w2 ⟨rfl, n, hw2⟩; have q2 : w2.cell? ⟨bo, fo + k, none⟩ = some (.int .i64 x) := (by rw [hw2]; exact hsrc); have q2a : ∀ o, (w2.alloc o).cell? ⟨bo, fo + k, none⟩ = some (.int .i64 x) := fun o => (((Below.refl w2.heap.size w2).alloc (Nat.le_refl _) o).cell (p := ⟨bo, fo + k, none⟩) (World.block_lt_of_cell? w2 _ q2)).trans q2; have hown2 := hout1.draws2 hw2; have hlow2 := hlow1.draws2 hw2; have hb2 : Below w.heap.size w w2 := (by rw [hw2]; exact below_drawn (below_draw2 hb1) _); clear hw2) | (refine step_append_lies _ (by rfl) _ _ _ (by rfl) w.heap.size 2 i0 _ 1 8 Try.underlying26 hi hz0 hz1 hz2 rfl (by omega) _ _ _ (by rfl) (hown2.alloc _) ⟨w2.heap.size, 0, none⟩ 1 1 [.int .i64 (IntKind.i64.wrap (x + g))] (by rfl) (by rfl) (World.news_of_block (cs := #[.int .i64 (IntKind.i64.wrap (x + g))]) (t := 2) (fr := (0, 0)) (heap_alloc_new w2 _)) (by simp [Value.oneCell']) (by omega) (by unfold maxLen; omega) (by omega) (by simp; have := hb2.size; omega) (w2.heap.size + 1) (by simp) ?_; intro gg cap w3 hown3 hgrow3 hat3 hlt3; have q3 : w3.cell? ⟨bo, fo + k, none⟩ = some (.int .i64 x) := hgrow3.cell (q2a _) (fun e => by have := (hown2.lt bo e.symm).1; omega))))
            have hb3 : Below w.heap.size w w3 := (hb2.alloc hb2.size _).grown hgrow3 (by simp; have := hb2.size; omega) (fun j hj => (hown2.lt j hj).1)
            rw [HWR.out] at hown3
            have q1 : w3.ownsRow w.heap.size 2 1 (.slice (some ⟨gg, 0, none⟩) (2 * k + 1 + 1) cap) (k + 1 + min (k + 1) od.length) (il (apT (zfAt de (doF kind de od)) (k + 1 + min (k + 1) od.length))) := by rw [EK.out, HS2.out, il_app]; exact hown3
            have hlow3 := (hlow2.alloc (Obj.cells #[.int .i64 (IntKind.i64.wrap (x + g))] 2)).kept hgrow3 (dj_kept hdj1)
            have hdj3 : DJ (.slice (some ⟨gg, 0, none⟩) (2 * k + 1 + 1) cap) (.slice (some ⟨gl, 0, none⟩) ev.length cpl) := hdj1.grow hlow2 (s := w2.heap.size + 1) (by omega) (hat3.elim (fun e => .inl e.symm) (fun e => .inr (by rw [e]; rfl)))
            clear hown3 hgrow3 hat3 hlt3 hown2 hb2 hrd hsrc q2 q2a q3 hout1 hlow1 hlow2 hdj1 hb1
            go_wp2
            go_roundw
            case rel => exact ⟨k + 1, by omega, by go_num, q1, hlow3, hdj3, hb3⟩
            case measure => simp [intOf]; omega
          · have EK := Lib.hid (show k + 1 + min (k + 1) od.length = 2 * k + 1 by omega)
            have hko2 : od.length ≤ k := by omega
            clear hko
            generalize de.getD k 0 = y at *
            go_wp2_with (at_builtin; refine wpList_append_own_at _ rfl _ _ 26 rfl w.heap.size 2 i0 (.int .i64 0) 1 8 Try.underlying26 hi hz0 hz1 hz2 rfl (by decide) _ _ _ rfl (hout.alloc _) ⟨wr.heap.size, 0, none⟩ 1 1 [.int .i64 y] rfl rfl (one_new _ _ _) (one_cellI _) (by unfold maxLen; omega) (by omega) (by simp; have := hb.size; omega) ?_; intro v' w1 hown' hgrow _ hat)
            have q1 : w1.ownsRow w.heap.size 2 1 v' (k + 1 + min (k + 1) od.length) (il (apT (zfAt de (doF kind de od)) (k + 1 + min (k + 1) od.length))) := by rw [EK.out, HS1.out, il_app]; exact hown'
            have hlow1 := (hlow.alloc (Obj.cells #[.int .i64 y] 2)).kept hgrow (dj_kept hdj)
            have hdj1 := hdj.grow hlow (s := (wr.alloc (Obj.cells #[.int .i64 y] 2)).heap.size) (by simp) hat
            have hb1 : Below w.heap.size w w1 := (hb.alloc hb.size _).grown hgrow (by simp; have := hb.size; omega) (fun j hj => (hout.lt j hj).1)
            clear hown' hgrow hat hout hlow hdj hb hcl
            go_wp2
            go_roundw
            case rel => exact ⟨k + 1, by omega, by go_num, q1, hlow1, hdj1, hb1⟩
            case measure => simp [intOf]; omega
        · obtain rfl : k = ev.length := by omega
          rw [show ev.length + min ev.length od.length = ev.length + od.length by omega] at hout
          have ho := Own.row hout
          rw [← HDR.out] at ho
          have HA := Lib.hid (areS_any _ (drF kind ev od) wr _ ho.rd (by rw [drF_len]; omega))
          cases ha : areB (drF kind ev od) with
          | true =>
            have HT := Lib.hid ha
            have HO := Lib.hid (show drO kind ev od = drF kind ev od by unfold drO; rw [ha]; rfl)
            clear ha
            go_wp2_with fail
            refine HA.out.mono ?_
            rintro e w' ⟨rfl, rfl⟩
            rw [HT.out]
            go_wp2_with fail
            go_ret2
            rw [HO.out, HT.out]
            exact ⟨_, rfl, ho, hb⟩
          | false =>
            have HT := Lib.hid ha
            have HO := Lib.hid (show drO kind ev od = [] by unfold drO; rw [ha]; rfl)
            clear ha
            go_wp2_with fail
            refine HA.out.mono ?_
            rintro e w' ⟨rfl, rfl⟩
            rw [HT.out]
            go_wp2_with fail
            go_ret2
            rw [HO.out, HT.out]
            exact ⟨_, rfl, own_nil _ _, hb⟩
end Go.Proofs.Yteogogcjndfkoaa
