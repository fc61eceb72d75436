/-
  Contracts: integers that were lifted, by the program.
-/
import Derived.Test.YteogogcjndfkoaaDri
namespace Go.Proofs.Yteogogcjndfkoaa
open Go.RowKit
set_option linter.unusedVariables false

/-- The evens, then the odds, of numbers that were lifted; and the list of both. -/
def deF (kind : Int) (ev od : List Int) : List Int := (List.range ev.length).map fun i => ev.getD i 0 - gai kind od i
def doF (kind : Int) (de od : List Int) : List Int := (List.range od.length).map fun i => od.getD i 0 + gue kind de i
def drF (kind : Int) (ev od : List Int) : List Int := joF (deF kind ev od) (doF kind (deF kind ev od) od)
theorem deF_bd {M : Int} {ev od : List Int} (h : Bds M ev) (h2 : Bds M od) (hM : 0 ≤ M) (kind : Int) : Bds (2 * M + 1) (deF kind ev od) := by
  intro x hx
  obtain ⟨i, hi, rfl⟩ := List.mem_map.1 hx
  have a := gai_bd h2 hM kind i
  have b := h.getD hM i
  omega
theorem deF_len (kind : Int) (ev od : List Int) : (deF kind ev od).length = ev.length := by simp [deF]
theorem doF_len (kind : Int) (de od : List Int) : (doF kind de od).length = od.length := by simp [doF]
theorem drF_len (kind : Int) (ev od : List Int) : (drF kind ev od).length = ev.length + od.length := by unfold drF; rw [joF_len, deF_len, doF_len]
theorem deF_nil (kind : Int) (ev : List Int) : deF kind ev [] = ev := by
  have hg : ∀ i, gai kind [] i = 0 := by
    intro i
    unfold gai
    split <;> simp
  apply List.ext_getElem?
  intro i
  by_cases hi : i < ev.length
  · simp [deF, hi, List.getD, hg]
  · simp [deF, hi]
theorem drF_nil (kind : Int) (ev : List Int) (h : ev.length = 1) : drF kind ev [] = ev := by
  unfold drF
  rw [deF_nil, show doF kind ev [] = [] from rfl]
  match ev, h with
  | [x], _ => rfl
set_option maxHeartbeats 2000000 in
theorem drkI_one (kind : Int) (al : Addr) (cl : Nat) (ev : List Int) (ah : Addr) (ch : Nat) (w : World) (h : Rd w w.heap.size (.slice (some al) ev.length cl) (il ev)) (h2 : Rd w w.heap.size (.slice (some ah) 0 ch) (il [])) (he : ev.length = 1) :
    Calls Try.prog 68 #[.int .i64 kind, .slice (some al) ev.length cl, .slice (some ah) 0 ch] w (RetL1 (drF kind ev []) w) := by
  rw [drF_nil kind ev he]
  have HC := Lib.hid (clone_any al cl ev w h (by omega))
  have HD := Lib.hid (fun (w' : World) (hb : Below w.heap.size w w') => clone_any ah ch [] w' (h2.step hb) (by simp))
  clear he
  go_enter Try.func68, Try.ntmps68
  go_wp2_with fail
  refine HC.out.mono ?_
  rintro e w1 ⟨v, rfl, ov, hb1⟩
  go_wp2_with fail
  refine (HD.out _ hb1).mono ?_
  rintro e w2 ⟨u, rfl, ou, hb2⟩
  obtain ⟨Au, cu, hu, _, _, _⟩ := id ou
  rw [show (il []).length = 0 from rfl] at hu
  subst hu
  go_wp2_with fail
  go_ret
  exact ⟨_, rfl, ov.below hb2, hb1.trans (hb2.mono hb1.size)⟩
set_option maxHeartbeats 4000000 in
theorem drkI_any (kind : Int) (al : Addr) (cl : Nat) (ev : List Int) (ah : Addr) (ch : Nat) (od : List Int) (w : World) (h : Rd w w.heap.size (.slice (some al) ev.length cl) (il ev)) (h2 : Rd w w.heap.size (.slice (some ah) od.length ch) (il od)) (ho1 : 1 ≤ od.length) (he2 : ev.length ≤ 64) (he3 : od.length ≤ ev.length) (he4 : ev.length ≤ od.length + 1) (hk0 : 0 ≤ kind) (hk2' : kind ≤ 2) (hev : Bds 10000000 ev) (hod : Bds 10000000 od) :
    Calls Try.prog 68 #[.int .i64 kind, .slice (some al) ev.length cl, .slice (some ah) od.length ch] w (RetL1 (drF kind ev od) w) := by
  have HC := Lib.hid (clone_any al cl ev w h (by omega))
  have HD := Lib.hid (fun (w' : World) (hb : Below w.heap.size w w') => clone_any ah ch od w' (h2.step hb) (by omega))
  have hne : ((od.length : Int) == 0) = false := by rw [beq_eq_false_iff_ne]; omega
  unfold drF
  have hdl := deF_len kind ev od
  have hdb : Bds 10000000000 (deF kind ev od) := (deF_bd hev hod (by omega) kind).mono (by omega)
  go_enter Try.func68, Try.ntmps68
  go_wp2_with fail
  refine HC.out.mono ?_
  rintro e w1 ⟨v, rfl, ov, hb1⟩
  go_wp2_with fail
  refine (HD.out _ hb1).mono ?_
  rintro e w2 ⟨u, rfl, ou, hb2⟩
  have ap : Apart u v := apart_of ou ov.rd (Nat.le_refl _)
  replace ou := ou.less (lo' := w.heap.size) hb1.size
  replace ov := ov.below hb2
  have hb12 := hb1.trans (hb2.mono hb1.size)
  obtain ⟨Av, cv, hv, _, _, hcv⟩ := id ov
  obtain ⟨Au, cu, hu, _, _, hcu⟩ := id ou
  rw [il_len] at hv hu hcv hcu
  subst hv hu
  obtain ⟨bu, fu, rfl, _⟩ := hcu (by omega)
  obtain ⟨bv, fv, rfl, _⟩ := hcv (by omega)
  clear hcu hcv hb1 hb2
  go_wp2_with fail
  go_loopw [21] (UpRel w (.slice (some ⟨bu, fu, none⟩) od.length cu) (.slice (some ⟨bv, fv, none⟩) ev.length cv) od ev (fun i => ev.getD i 0 - gai kind od i)) (fun i _ => ev.length - (intOf i).toNat)
  case atStart => exact ⟨0, Nat.zero_le _, rfl, ou, by rw [prF_zero]; exact ov, hb12⟩
  case round =>
    clear ov ou hb12
    obtain ⟨k, hk, rfl, ou, ov, hb⟩ := hrel
    by_cases hlt : k < ev.length
    · obtain ⟨hlob, hbw, hc, hf⟩ := ov.cells' (by omega)
      have hdst := hc k _ (prF_at _ _ k hlt)
      have hfz := hf k hlt
      have gb := gai_bd hod (by omega) kind k
      have ob := hev.getD (by omega) k
      have HG := Lib.hid (fun (w' : World) (hr : Rd w' w'.heap.size (.slice (some ⟨bu, fu, none⟩) od.length cu) (il od)) => gaiI kind (.slice (some ⟨bu, fu, none⟩) od.length cu) od k w' hr (by omega) (by omega) (by omega) hk0 hk2' (hod.mono (by omega)))
      have HS := Lib.hid (show (prF ev (fun i => ev.getD i 0 - gai kind od i) k).set k (ev.getD k 0 - gai kind od k) = prF ev (fun i => ev.getD i 0 - gai kind od i) (k + 1) from prF_set ev (fun i => ev.getD i 0 - gai kind od i) k hlt)
      clear hc hf
      generalize ev.getD k 0 = x at *
      generalize gai kind od k = g at *
      obtain ⟨gb1, gb2⟩ := gb
      obtain ⟨ob1, ob2⟩ := ob
      go_wp2_with fail
      go_region_with (go_at_call 86; refine (HG.out _ ?_).mono ?_; exact ou.rd; rintro e w2 ⟨rfl, hb2⟩; have hd2 : w2.cell? ⟨bv, fv + k, none⟩ = some (.int .i64 x) := (hb2.cell (p := ⟨bv, fv + k, none⟩) hbw).trans hdst; have hf2 : w2.frozen? ⟨bv, fv + k, none⟩ = false := (hb2.frozen (p := ⟨bv, fv + k, none⟩) hbw).trans hfz; have hb3 : Below wr.heap.size wr w2 := ⟨hb2.os, hb2.tape, hb2.output, hb2.size, hb2.block⟩)
      all_goals
        have hnx := up_next ou ov ap.symm (Nat.le_refl _) hb hb3 hlt HS.out
        obtain ⟨n1, n2, n3⟩ := hnx
        clear hdst hfz hd2 hf2 hb2 hb3 ov ou hb
        go_wp2
        go_roundw
        case rel => exact ⟨k + 1, by omega, by go_num, n1, n2, n3⟩
        case measure => simp [intOf]; omega
    · obtain rfl : k = ev.length := by omega
      rw [prF_all] at ov
      replace ov : Own wr w.heap.size (.slice (some ⟨bv, fv, none⟩) ev.length cv) (il (deF kind ev od)) := ov
      rw [← hdl] at ov ap hlt
      have hde3 : od.length ≤ (deF kind ev od).length := by omega
      have hde2 : (deF kind ev od).length ≤ 64 := by omega
      have hde4 : (deF kind ev od).length ≤ od.length + 1 := by omega
      have HL := Lib.hid hdl
      rw [show doF kind (deF kind ev od) od = (List.range od.length).map (fun i => od.getD i 0 + gue kind (deF kind ev od) i) from rfl]
      clear hev hdl he2 he3 he4 hlt hk
      rw [← HL.out]
      generalize deF kind ev od = de at *
      go_wp2_with fail
      go_loopw [37] (UpRel w (.slice (some ⟨bv, fv, none⟩) de.length cv) (.slice (some ⟨bu, fu, none⟩) od.length cu) de od (fun i => od.getD i 0 + gue kind de i)) (fun i _ => od.length - (intOf i).toNat)
      case atStart => exact ⟨0, Nat.zero_le _, rfl, ov, by rw [prF_zero]; exact ou, hb⟩
      case round =>
        clear ov ou hb
        obtain ⟨k, hk, rfl, ov, ou, hb⟩ := hrel
        by_cases hlt : k < od.length
        · obtain ⟨hlob, hbw, hc, hf⟩ := ou.cells' (by omega)
          have hdst := hc k _ (prF_at _ _ k hlt)
          have hfz := hf k hlt
          have gb := gue_bd hdb (by omega) kind k
          have ob := hod.getD (by omega) k
          have HG := Lib.hid (fun (w' : World) (hr : Rd w' w'.heap.size (.slice (some ⟨bv, fv, none⟩) de.length cv) (il de)) => gueI kind (.slice (some ⟨bv, fv, none⟩) de.length cv) de k w' hr (by omega) (by omega) hk0 hk2' hdb)
          have HS := Lib.hid (show (prF od (fun i => od.getD i 0 + gue kind de i) k).set k (od.getD k 0 + gue kind de k) = prF od (fun i => od.getD i 0 + gue kind de i) (k + 1) from prF_set od (fun i => od.getD i 0 + gue kind de i) k hlt)
          clear hc hf
          generalize od.getD k 0 = x at *
          generalize gue kind de k = g at *
          obtain ⟨gb1, gb2⟩ := gb
          obtain ⟨ob1, ob2⟩ := ob
          go_wp2_with fail
          go_region_with (go_at_call 85; refine (HG.out _ ?_).mono ?_; exact ov.rd; rintro e w2 ⟨rfl, hb2⟩; have hd2 : w2.cell? ⟨bu, fu + k, none⟩ = some (.int .i64 x) := (hb2.cell (p := ⟨bu, fu + k, none⟩) hbw).trans hdst; have hf2 : w2.frozen? ⟨bu, fu + k, none⟩ = false := (hb2.frozen (p := ⟨bu, fu + k, none⟩) hbw).trans hfz; have hb3 : Below wr.heap.size wr w2 := ⟨hb2.os, hb2.tape, hb2.output, hb2.size, hb2.block⟩)
          all_goals
            have hnx := up_next ov ou ap (Nat.le_refl _) hb hb3 hlt HS.out
            obtain ⟨n1, n2, n3⟩ := hnx
            clear hdst hfz hd2 hf2 hb2 hb3 ov ou hb
            go_wp2
            go_roundw
            case rel => exact ⟨k + 1, by omega, by go_num, n1, n2, n3⟩
            case measure => simp [intOf]; omega
        · obtain rfl : k = od.length := by omega
          rw [prF_all] at ou
          have hll : ((List.range od.length).map (fun i => od.getD i 0 + gue kind de i)).length = od.length := by simp
          have hdo : doF kind de od = (List.range od.length).map (fun i => od.getD i 0 + gue kind de i) := rfl
          generalize (List.range od.length).map (fun i => od.getD i 0 + gue kind de i) = do' at *
          have HDO := Lib.hid hdo
          clear hdo
          have HJ := Lib.hid (jo_any _ _ de do' wr ov.rd ou.rd (by omega) (by omega) (by omega) (by omega))
          clear hll
          go_wp2_with fail
          refine HJ.out.mono ?_
          rintro e w3 ⟨v3, rfl, o3, hb3⟩
          go_wp2_with fail
          go_ret
          exact ⟨_, rfl, by rw [HDO.out]; exact o3.less hb.size, hb.trans (hb3.mono hb.size)⟩
end Go.Proofs.Yteogogcjndfkoaa
