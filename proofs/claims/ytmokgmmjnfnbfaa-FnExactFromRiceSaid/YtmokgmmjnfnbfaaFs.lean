/-
  Codes by runs that are read: the model's side.
-/
import Derived.Test.YtmokgmmjnfnbfaaFr
namespace Go.Proofs.Ytmokgmmjnfnbfaa
open Go.RowKit Fl
set_option linter.unusedVariables false

theorem getD_drop (bs : List Bool) (a j : Nat) : (bs.drop a).getD j false = bs.getD (a + j) false := by simp [List.getD, List.getElem?_drop]
theorem bl_getD (xs : List Bool) (k : Nat) (h : k < xs.length) : (bl xs)[k]? = some (.bool (xs.getD k false)) := by rw [bl_get xs k h]; simp [List.getD, List.getElem?_eq_getElem h]
theorem getD_out (xs : List Bool) (k : Nat) (h : ¬ k < xs.length) : xs.getD k false = false := by simp [List.getD, List.getElem?_eq_none (show xs.length ≤ k by omega)]
def FsRel (w : World) (bs : List Bool) (k c : Nat) (v p i : Value) (wr : World) : Prop :=
  ∃ m L a, m ≤ c ∧ i = .int .i64 (m : Nat) ∧ p = .int .i64 (a : Nat) ∧ frS bs k m = some (L, a) ∧ RowI w v L wr
def FsA (wr0 : World) (a o : Nat) (p z : Value) (wr : World) : Prop := ∃ j : Nat, j ≤ o ∧ p = .int .i64 ((a + j : Nat) : Int) ∧ z = .int .i64 j ∧ wr = wr0
def FsD (wr0 : World) (l : List Bool) (q o k : Nat) (p z i : Value) (wr : World) : Prop := ∃ j : Nat, j ≤ k ∧ p = .int .i64 ((q + j : Nat) : Int) ∧ z = .int .i64 (zJ l (o + 1) o j) ∧ i = .int .i64 j ∧ wr = wr0
set_option maxRecDepth 100000 in
set_option maxHeartbeats 8000000 in
theorem frS_any (v : Value) (bs : List Bool) (c k : Int) (w : World) (h : Rd w w.heap.size v (bl bs)) (hm : bs.length ≤ 1048576) (hcw : (Lit.int .i64 c).wf = true) (hkw : (Lit.int .i64 k).wf = true) :
    Calls Try.prog 37 #[v, .int .i64 c, .int .i64 k] w (RetJ (frV bs c k) (frK bs c k) w) := by
  obtain ⟨i0, hi, hz0, hz1, hz2⟩ := info_parts infoI
  have HIc := Lib.hid (inC_any c w)
  have HIk := Lib.hid (inR_any k w)
  obtain ⟨A, cp, hv, hc1, hc2, hcell⟩ := id h
  rw [bl_len] at hv hc1 hcell
  subst hv
  have HC := Lib.hid hcell
  clear h hcell
  by_cases hn : bs.length ≤ 32768
  · have t1 : stB bs = true := decide_eq_true hn
    cases t2 : cnB c with
    | false =>
      have hK := frK_no (show frG bs c k = false by unfold frG; rw [t1, t2]; rfl)
      rw [frV_no hK, hK]
      have T2 := Lib.hid t2
      clear t1 t2 hK
      go_enter Try.func37, Try.ntmps37
      go_wp2_with (first | (go_at_call_of 57 c; refine HIc.out.mono ?_; rintro e w' ⟨rfl, rfl⟩; rw [T2.out]))
      go_ret2
      exact retJ_nil (Below.refl _ _)
    | true =>
      cases t3 : ridB k with
      | false =>
        have hK := frK_no (show frG bs c k = false by unfold frG; rw [t1, t2, t3]; rfl)
        rw [frV_no hK, hK]
        have T2 := Lib.hid t2
        have T3 := Lib.hid t3
        clear t1 t2 t3 hK
        go_enter Try.func37, Try.ntmps37
        go_wp2_with (first | (go_at_call_of 57 c; refine HIc.out.mono ?_; rintro e w' ⟨rfl, rfl⟩; rw [T2.out]) | (go_at_call_of 57 k; refine HIk.out.mono ?_; rintro e w' ⟨rfl, rfl⟩; rw [T3.out]))
        go_ret2
        exact retJ_nil (Below.refl _ _)
      | true =>
        have HK := Lib.hid (show frK bs c k = frB bs k.toNat c.toNat by unfold frK frG; rw [t1, t2, t3]; rfl)
        obtain ⟨hc3, hc4⟩ := cnB_out t2
        obtain ⟨hk3, hk4⟩ := ridB_out t3
        have T2 := Lib.hid t2
        have T3 := Lib.hid t3
        clear t1 t2 t3
        obtain ⟨kk, rfl⟩ : ∃ kk : Nat, k = kk := ⟨k.toNat, by omega⟩
        obtain ⟨cc, rfl⟩ : ∃ cc : Nat, c = cc := ⟨c.toNat, by omega⟩
        rw [show ((kk : Int)).toNat = kk by omega, show ((cc : Int)).toNat = cc by omega] at HK
        go_enter Try.func37, Try.ntmps37
        go_wp2_with (first | (go_at_call_of 57 cc; refine HIc.out.mono ?_; rintro e w' ⟨rfl, rfl⟩; rw [T2.out]) | (go_at_call_of 57 kk; refine HIk.out.mono ?_; rintro e w' ⟨rfl, rfl⟩; rw [T3.out]))
        go_loopw [8, 9, 10] (FsRel w bs kk cc) (fun _ _ i _ => cc - (intOf i).toNat)
        case atStart => exact ⟨0, [], 0, Nat.zero_le _, rfl, rfl, rfl, RowI.lit w⟩
        case round =>
          clear HIc HIk
          obtain ⟨m, L, a, hmc, rfl, rfl, hfr, hrow⟩ := hrel
          obtain ⟨hLm, hab⟩ := frS_len hfr
          have HR := Lib.hid hrow
          have HN := Lib.hid (show L.length ≤ 128 by omega)
          clear hrow
          by_cases hlt : m < cc
          · have hol := ones_le (bs.drop a)
            rw [List.length_drop] at hol
            have HA := Lib.hid (ones_at (bs.drop a))
            have HE := Lib.hid (ones_end (bs.drop a))
            have HZb := Lib.hid (fun j hj => zJ_le (bs.drop a) (ones (bs.drop a) + 1) (ones (bs.drop a)) j (by omega) hj)
            have HG := Lib.hid (fun j => getD_drop bs a j)
            have HFR := Lib.hid hfr
            have HLm := Lib.hid hLm
            clear hfr hLm
            obtain ⟨o, ho⟩ : ∃ o, ones (bs.drop a) = o := ⟨_, rfl⟩
            rw [ho] at hol HA HE HZb
            have HO := Lib.hid ho
            clear ho
            go_wp2
            go_loopw [9, 11] (FsA wr a o) (fun _ z _ => o - (intOf z).toNat)
            case atStart => exact ⟨0, Nat.zero_le _, by rw [Nat.add_zero], rfl, rfl⟩
            case round =>
              obtain ⟨j, hj, rfl, rfl, rfl⟩ := hrel
              by_cases hjo : j < o
              · obtain ⟨b, off, rfl, hbl, hcc⟩ := HC.out (by omega)
                have hb1 := HA.out j hjo
                rw [HG.out] at hb1
                have hsrc := (HR.out.2.cell (p := ⟨b, off + (a + j), none⟩) hbl).trans (hcc (a + j) _ (bl_getD bs (a + j) (by omega)))
                rw [hb1] at hsrc
                have haj : a + j < bs.length := by omega
                clear hcc HC HG HA HE hb1
                generalize hp : a + j = p at *
                go_wp2
                go_roundw
                case rel => exact ⟨j + 1, by omega, by rw [← hp]; go_num, by go_num, rfl⟩
                case measure => simp [intOf]; omega
              · obtain rfl : j = o := by omega
                have hb1 := HE.out
                rw [HG.out] at hb1
                clear hjo hj
                by_cases haj : a + j < bs.length
                · obtain ⟨b, off, rfl, hbl, hcc⟩ := HC.out (by omega)
                  have hsrc := (HR.out.2.cell (p := ⟨b, off + (a + j), none⟩) hbl).trans (hcc (a + j) _ (bl_getD bs (a + j) haj))
                  rw [hb1] at hsrc
                  clear hcc hb1
                  generalize hp : a + j = p at *
                  go_wp2
                  clear hsrc
                  have HP := Lib.hid hp
                  clear hp
                  go_loopw [9, 11, 12] (FsD wr (bs.drop a) (p + 1) j kk) (fun _ _ i _ => kk - (intOf i).toNat)
                  case atStart => exact ⟨0, Nat.zero_le _, by go_num, rfl, rfl, rfl⟩
                  case round =>
                    obtain ⟨i, hi9, rfl, rfl, rfl, rfl⟩ := hrel
                    have hub : p + 1 + i ≤ 32800 := by have := HP.out; omega
                    by_cases hik : i < kk
                    · obtain ⟨zb0, zb1⟩ := HZb.out i (by omega)
                      have hgd := HG.out (j + 1 + i)
                      rw [show a + (j + 1 + i) = p + 1 + i by have := HP.out; omega] at hgd
                      by_cases hin : p + 1 + i < bs.length
                      · obtain ⟨b2, off2, hA2, hbl, hcc⟩ := HC.out (by omega)
                        obtain ⟨rfl, rfl⟩ : b = b2 ∧ off = off2 := by simpa using hA2
                        have hsrc := (HR.out.2.cell (p := ⟨b, off + (p + 1 + i), none⟩) hbl).trans (hcc (p + 1 + i) _ (bl_getD bs (p + 1 + i) hin))
                        clear hcc HC
                        cases hd : bs.getD (p + 1 + i) false with
                        | false =>
                          rw [hd] at hsrc hgd
                          have HS := Lib.hid (zJ_0 (z0 := (j : Int)) hgd)
                          clear hd hgd HG HA HE
                          generalize zJ (bs.drop a) (j + 1) j i = z at *
                          generalize hu : p + 1 + i = u at *
                          have HU := Lib.hid hu
                          clear hu
                          go_wp2
                          go_roundw
                          case rel => exact ⟨i + 1, by omega, by rw [← Nat.add_assoc, HU.out]; go_num, by rw [HS.out], by go_num, rfl⟩
                          case measure => simp [intOf]; omega
                        | true =>
                          rw [hd] at hsrc hgd
                          have HS := Lib.hid (zJ_1 (z0 := (j : Int)) hgd)
                          clear hd hgd HG HA HE
                          generalize zJ (bs.drop a) (j + 1) j i = z at *
                          generalize hu : p + 1 + i = u at *
                          have HU := Lib.hid hu
                          clear hu
                          go_wp2
                          go_roundw
                          case rel => exact ⟨i + 1, by omega, by rw [← Nat.add_assoc, HU.out]; go_num, by rw [HS.out], by go_num, rfl⟩
                          case measure => simp [intOf]; omega
                      · have hle2 : bs.length ≤ p + 1 + i := by omega
                        rw [getD_out bs (p + 1 + i) hin] at hgd
                        have HS := Lib.hid (zJ_0 (z0 := (j : Int)) hgd)
                        clear hgd hin HG HA HE
                        generalize zJ (bs.drop a) (j + 1) j i = z at *
                        generalize hu : p + 1 + i = u at *
                        have HU := Lib.hid hu
                        clear hu
                        go_wp2
                        go_roundw
                        case rel => exact ⟨i + 1, by omega, by rw [← Nat.add_assoc, HU.out]; go_num, by rw [HS.out], by go_num, rfl⟩
                        case measure => simp [intOf]; omega
                    · obtain rfl : i = kk := by omega
                      obtain ⟨zb0, zb1⟩ := HZb.out i (by omega)
                      have HP' := HP.out
                      by_cases hcd : p + 1 + i ≤ bs.length
                      · have HYES := Lib.hid (show frS bs i (m + 1) = some (L ++ [zag (zJ (bs.drop a) (j + 1) j i)], p + 1 + i) by
                          have h1 := frS_yes HFR.out (show ones (bs.drop a) + 1 + i ≤ (bs.drop a).length by rw [HO.out, List.length_drop]; omega)
                          rw [HO.out] at h1
                          rw [h1]
                          rw [show a + (j + 1 + i) = p + 1 + i by omega])
                        clear HFR HG HA HE HZb HC HP'
                        have HZg := Lib.hid (fun w' => zagS_any (zJ (bs.drop a) (j + 1) j i) w' zb0 (by omega))
                        generalize zJ (bs.drop a) (j + 1) j i = z at *
                        generalize zag z = y at *
                        generalize p + 1 + i = u at *
                        go_wp2_with (first | (go_at_call 69; refine (HZg.out _).mono ?_; rintro e w' ⟨rfl, rfl⟩) | (first | (at_builtin; refine wpList_append_own _ rfl _ _ 22 rfl w.heap.size 2 i0 (.int .i64 0) 1 8 Try.underlying22 hi hz0 hz1 hz2 rfl (by decide) _ _ _ rfl (HR.out.1.alloc _) ⟨wr.heap.size, 0, none⟩ 1 1 [.int .i64 y] rfl rfl (one_newF _ _ _) (cellsI [y]) (by unfold maxLen; have := HN.out; omega) (by have := HN.out; omega) (by simp; have := HR.out.2.size; omega) ?_; intro v' w1 hown' hgrow _) | (at_builtin; refine wpList_append_own _ rfl _ _ 22 rfl w.heap.size 2 i0 (.int .i64 0) 1 8 Try.underlying22 hi hz0 hz1 hz2 rfl (by decide) _ _ _ rfl ((rowDrewF HR.out.1 _).alloc _) ⟨wr.heap.size, 0, none⟩ 1 1 [.int .i64 y] rfl rfl (one_newF _ _ _) (cellsI [y]) (by unfold maxLen; have := HN.out; omega) (by have := HN.out; omega) (by simp; have := HR.out.2.size; omega) ?_; intro v' w1 hown' hgrow _)))
                        have HR2 := Lib.hid (show RowI w v' (L ++ [y]) w1 from RowI.push hown' (by first | exact HR.out.2.alloc HR.out.2.size _ | exact (below_drawn HR.out.2 _).alloc HR.out.2.size _) hgrow (fun j hj => (HR.out.1.lt j hj).1))
                        clear hown' hgrow
                        go_wp2
                        go_roundw
                        case rel => exact ⟨m + 1, _, _, by omega, by go_num, rfl, HYES.out, HR2.out⟩
                        case measure => simp [intOf]; omega
                      · have HF := Lib.hid (show frK bs cc i = false by
                          rw [HK.out]
                          exact frB_none (frS_no HFR.out (by rw [HO.out, List.length_drop]; omega)) (show m + 1 ≤ cc by omega))
                        have hcd' : bs.length < p + 1 + i := by omega
                        clear HFR HG HA HE HZb HC HP' hcd
                        generalize zJ (bs.drop a) (j + 1) j i = z at *
                        generalize p + 1 + i = u at *
                        go_wp2
                        go_ret2
                        rw [frV_no HF.out, HF.out]
                        exact retJ_nil HR.out.2
                · have hle : bs.length ≤ a + j := by omega
                  clear haj hb1
                  generalize hp : a + j = p at *
                  go_wp2
                  have haj : p < bs.length ∨ bs.length ≤ p := by omega
                  have HP := Lib.hid hp
                  clear hp
                  go_loopw [9, 11, 12] (FsD wr (bs.drop a) (p + 1) j kk) (fun _ _ i _ => kk - (intOf i).toNat)
                  case atStart => exact ⟨0, Nat.zero_le _, by go_num, rfl, rfl, rfl⟩
                  case round =>
                    obtain ⟨i, hi9, rfl, rfl, rfl, rfl⟩ := hrel
                    have hub : p + 1 + i ≤ 32800 := by have := HP.out; omega
                    by_cases hik : i < kk
                    · obtain ⟨zb0, zb1⟩ := HZb.out i (by omega)
                      have hgd := HG.out (j + 1 + i)
                      rw [show a + (j + 1 + i) = p + 1 + i by have := HP.out; omega] at hgd
                      have hin : ¬ p + 1 + i < bs.length := by omega
                      · have hle2 : bs.length ≤ p + 1 + i := by omega
                        rw [getD_out bs (p + 1 + i) hin] at hgd
                        have HS := Lib.hid (zJ_0 (z0 := (j : Int)) hgd)
                        clear hgd hin HG HA HE
                        generalize zJ (bs.drop a) (j + 1) j i = z at *
                        generalize hu : p + 1 + i = u at *
                        have HU := Lib.hid hu
                        clear hu
                        go_wp2
                        go_roundw
                        case rel => exact ⟨i + 1, by omega, by rw [← Nat.add_assoc, HU.out]; go_num, by rw [HS.out], by go_num, rfl⟩
                        case measure => simp [intOf]; omega
                    · obtain rfl : i = kk := by omega
                      obtain ⟨zb0, zb1⟩ := HZb.out i (by omega)
                      have HP' := HP.out
                      by_cases hcd : p + 1 + i ≤ bs.length
                      · have HYES := Lib.hid (show frS bs i (m + 1) = some (L ++ [zag (zJ (bs.drop a) (j + 1) j i)], p + 1 + i) by
                          have h1 := frS_yes HFR.out (show ones (bs.drop a) + 1 + i ≤ (bs.drop a).length by rw [HO.out, List.length_drop]; omega)
                          rw [HO.out] at h1
                          rw [h1]
                          rw [show a + (j + 1 + i) = p + 1 + i by omega])
                        clear HFR HG HA HE HZb HC HP'
                        have HZg := Lib.hid (fun w' => zagS_any (zJ (bs.drop a) (j + 1) j i) w' zb0 (by omega))
                        generalize zJ (bs.drop a) (j + 1) j i = z at *
                        generalize zag z = y at *
                        generalize p + 1 + i = u at *
                        go_wp2_with (first | (go_at_call 69; refine (HZg.out _).mono ?_; rintro e w' ⟨rfl, rfl⟩) | (first | (at_builtin; refine wpList_append_own _ rfl _ _ 22 rfl w.heap.size 2 i0 (.int .i64 0) 1 8 Try.underlying22 hi hz0 hz1 hz2 rfl (by decide) _ _ _ rfl (HR.out.1.alloc _) ⟨wr.heap.size, 0, none⟩ 1 1 [.int .i64 y] rfl rfl (one_newF _ _ _) (cellsI [y]) (by unfold maxLen; have := HN.out; omega) (by have := HN.out; omega) (by simp; have := HR.out.2.size; omega) ?_; intro v' w1 hown' hgrow _) | (at_builtin; refine wpList_append_own _ rfl _ _ 22 rfl w.heap.size 2 i0 (.int .i64 0) 1 8 Try.underlying22 hi hz0 hz1 hz2 rfl (by decide) _ _ _ rfl ((rowDrewF HR.out.1 _).alloc _) ⟨wr.heap.size, 0, none⟩ 1 1 [.int .i64 y] rfl rfl (one_newF _ _ _) (cellsI [y]) (by unfold maxLen; have := HN.out; omega) (by have := HN.out; omega) (by simp; have := HR.out.2.size; omega) ?_; intro v' w1 hown' hgrow _)))
                        have HR2 := Lib.hid (show RowI w v' (L ++ [y]) w1 from RowI.push hown' (by first | exact HR.out.2.alloc HR.out.2.size _ | exact (below_drawn HR.out.2 _).alloc HR.out.2.size _) hgrow (fun j hj => (HR.out.1.lt j hj).1))
                        clear hown' hgrow
                        go_wp2
                        go_roundw
                        case rel => exact ⟨m + 1, _, _, by omega, by go_num, rfl, HYES.out, HR2.out⟩
                        case measure => simp [intOf]; omega
                      · have HF := Lib.hid (show frK bs cc i = false by
                          rw [HK.out]
                          exact frB_none (frS_no HFR.out (by rw [HO.out, List.length_drop]; omega)) (show m + 1 ≤ cc by omega))
                        have hcd' : bs.length < p + 1 + i := by omega
                        clear HFR HG HA HE HZb HC HP' hcd
                        generalize zJ (bs.drop a) (j + 1) j i = z at *
                        generalize p + 1 + i = u at *
                        go_wp2
                        go_ret2
                        rw [frV_no HF.out, HF.out]
                        exact retJ_nil HR.out.2
          · obtain rfl : m = cc := by omega
            obtain ⟨hfb, hfx⟩ := frB_at hfr
            by_cases hae : a = bs.length
            · have HF := Lib.hid (show frK bs m kk = areB L by rw [HK.out, hfb, decide_eq_true hae, Bool.true_and])
              have HX := Lib.hid (show frX bs kk m = L from hfx)
              subst hae
              clear hfr hfb hfx hLm
              have HAr := Lib.hid (areS_any _ L _ _ HR.out.own.rd (by have := HN.out; omega))
              cases hb : areB L with
              | false =>
                have HF2 := Lib.hid (show frK bs m kk = false by rw [HF.out, hb])
                rw [hb] at HAr
                clear hb
                go_wp2_with (go_at_call 53; refine HAr.out.mono ?_; rintro e w' ⟨rfl, rfl⟩)
                go_ret2
                rw [frV_no HF2.out, HF2.out]
                exact retJ_nil HR.out.2
              | true =>
                have HF2 := Lib.hid (show frK bs m kk = true by rw [HF.out, hb])
                have HV := Lib.hid (show frV bs m kk = L by rw [frV_yes HF2.out]; exact HX.out)
                rw [hb] at HAr
                clear hb
                go_wp2_with (go_at_call 53; refine HAr.out.mono ?_; rintro e w' ⟨rfl, rfl⟩)
                go_ret2
                rw [HV.out, HF2.out]
                exact ⟨_, rfl, HR.out.own, HR.out.2⟩
            · have HF := Lib.hid (show frK bs m kk = false by rw [HK.out, hfb, decide_eq_false hae]; rfl)
              have hne : ((a : Int) != (bs.length : Int)) = true := bne_iff_ne.2 (by omega)
              clear hfr hfb hfx hae hLm
              go_wp2
              go_ret2
              rw [frV_no HF.out, HF.out]
              exact retJ_nil HR.out.2
  · have hK := frK_no (show frG bs c k = false by unfold frG stB; rw [decide_eq_false hn]; rfl)
    rw [frV_no hK, hK]
    have hn' : 32768 < bs.length := by omega
    clear hK hn HC
    go_enter Try.func37, Try.ntmps37
    go_wp2_with fail
    go_ret2
    exact retJ_nil (Below.refl _ _)
end Go.Proofs.Ytmokgmmjnfnbfaa
