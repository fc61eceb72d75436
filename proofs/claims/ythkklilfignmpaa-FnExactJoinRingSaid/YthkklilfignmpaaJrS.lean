/-
  Contract: a ring that is joined, by the model.
-/
import Derived.Test.YthkklilfignmpaaJr
import Derived.Test.YthkklilfignmpaaTp
import Derived.Test.YthkklilfignmpaaRp
namespace Go.Proofs.Ythkklilfignmpaa
open Go.RowKit Fl
set_option linter.unusedVariables false
set_option maxRecDepth 100000

set_option maxHeartbeats 8000000 in
theorem jnS_any (gp : Nat) (v0 v1 u : Value) (low high ts : List Nat) (w : World) (h0 : Rd w w.heap.size v0 (fl low)) (h1 : Rd w w.heap.size v1 (fl high)) (h2 : Rd w w.heap.size u (fl ts)) (hcp : w.cell? ⟨gp, 0, none⟩ = some u) (hgp : gp < w.heap.size) (hx0 : ∀ x ∈ low, x < 2 ^ 32) (hx1 : ∀ x ∈ high, x < 2 ^ 32) (hx2 : ∀ x ∈ ts, x < 2 ^ 32) (n1 : 1 ≤ low.length) (n2 : low.length ≤ 64) (hl : high.length = low.length) (f0 : finA low = true) (f1 : finA high = true) (f2 : finA ts = true) (t1 : 1 ≤ ts.length) (t2 : ts.length ≤ 8) :
    Calls Try.prog 127 #[v0, v1, .pointer (some ⟨gp, 0, none⟩)] w (RetW (joA low high ts) w) := by
  obtain ⟨i0, hi, hz0, hz1, hz2⟩ := info_parts infoF
  have HHI := Lib.hid (hiP_any gp u ts w h2 hgp hcp t1 t2)
  obtain ⟨A0, c0, hv0, _, _, q0⟩ := h0
  obtain ⟨A1, c1, hv1, _, _, q1⟩ := h1
  obtain ⟨A2, ct, hv2, _, _, q2⟩ := h2
  rw [fl_len] at hv0 hv1 hv2 q0 q1 q2
  subst hv0 hv1 hv2
  obtain ⟨bl, ol, rfl, hbl, hcl⟩ := q0 (by omega)
  obtain ⟨bh, oh, rfl, hbh, hch⟩ := q1 (by omega)
  obtain ⟨bt, ot, rfl, hbt, hct⟩ := q2 (by omega)
  have HCL := Lib.hid (show ∀ j, j < low.length → w.cell? ⟨bl, ol + j, none⟩ = some (.float .f32 (low.getD j 0)) from fun j hj => hcl j _ (fl_getD low j hj))
  have HCH := Lib.hid (show ∀ j, j < low.length → w.cell? ⟨bh, oh + j, none⟩ = some (.float .f32 (high.getD j 0)) from fun j hj => hch j _ (fl_getD high j (by omega)))
  have HCT := Lib.hid (show ∀ j, j < ts.length → w.cell? ⟨bt, ot + j, none⟩ = some (.float .f32 (ts.getD j 0)) from fun j hj => hct j _ (fl_getD ts j hj))
  have HCP := Lib.hid hcp
  have HHF := Lib.hid (hi_fin ts hx2 f2)
  have HFT := Lib.hid f2
  have HFL := Lib.hid f0
  have HFH := Lib.hid f1
  have HXT := Lib.hid hx2
  have HXL := Lib.hid hx0
  have HXH := Lib.hid hx1
  have HA := Lib.hid (show joA low high ts = joK low high ts (hiK ts ts.length) (2 * low.length) low.length from rfl)
  rw [hl]
  obtain ⟨n, hn⟩ : ∃ n, low.length = n := ⟨_, rfl⟩
  obtain ⟨m, hmm⟩ : ∃ m, ts.length = m := ⟨_, rfl⟩
  obtain ⟨N, hN⟩ : ∃ N, 2 * n = N := ⟨_, rfl⟩
  have HN := Lib.hid hn
  have HM := Lib.hid hmm
  have HNN := Lib.hid hN
  rw [hn] at n1 n2 HCL HCH
  rw [hmm] at t1 t2 HCT HCP
  rw [hn]
  have hmk := fun W => run_mkN (P := Try.prog) 22 23 i0 (.float .f32 0) Try.underlying22 hi hz0 N (by rw [hz2]; omega) (by omega) W
  rw [hz1, show (N : Int) = 2 * (n : Int) by omega] at hmk
  have hmk1 : IntKind.i64.wrap (2 * (n : Int)) = 2 * (n : Int) := by rw [IntKind.wrap_i64]; omega
  have hnz : ¬ (2 * (n : Int) = 0) := by omega
  have hsf : ∀ (a : Addr) (x : Nat) (w : World), (store a (.float .f32 x)).run Try.prog w = stored Try.prog w a (.float .f32 x) .plain := fun a x w => run_store _ w a _ _ rfl
  clear hx0 hx1 hx2 f0 f1 f2 hl hcl hch hct hcp q0 q1 q2 hn hmm
  go_enter Try.func127, Try.ntmps127
  go_wp2_with fail
  refine HHI.out.mono ?_
  rintro e wa ⟨vh, rfl, hoh, hb⟩
  obtain ⟨As, cs, hvs, _, _, hs3⟩ := hoh.rd
  rw [fl_len, hiK_len] at hvs hs3
  subst hvs
  obtain ⟨bs, os, rfl, hbs, hcs⟩ := hs3 (by rw [HM.out]; omega)
  rw [HM.out]
  replace HCL := Lib.hid (fun j hj => (hb.cell (p := ⟨bl, ol + j, none⟩) hbl).trans (HCL.out j hj))
  replace HCH := Lib.hid (fun j hj => (hb.cell (p := ⟨bh, oh + j, none⟩) hbh).trans (HCH.out j hj))
  replace HCT := Lib.hid (fun j hj => (hb.cell (p := ⟨bt, ot + j, none⟩) hbt).trans (HCT.out j hj))
  replace HCP := Lib.hid ((hb.cell (p := ⟨gp, 0, none⟩) hgp).trans HCP.out)
  have HCS := Lib.hid (show ∀ j, j < m → wa.cell? ⟨bs, os + j, none⟩ = some (.float .f32 ((hiK ts ts.length).getD j 0)) from fun j hj => hcs j _ (fl_getD _ j (by rw [hiK_len, HM.out]; exact hj)))
  have HBA := Lib.hid hb
  replace hbl := Nat.lt_of_lt_of_le hbl hb.size
  replace hbh := Nat.lt_of_lt_of_le hbh hb.size
  replace hbt := Nat.lt_of_lt_of_le hbt hb.size
  replace hgp := Nat.lt_of_lt_of_le hgp hb.size
  clear hb hoh hs3 hcs HHI
  have HMD := Lib.hid (jr_made wa N (by omega))
  go_wp2_with fail
  go_loopw [22] (JoR wa wa.heap.size low high ts (hiK ts ts.length) N) (fun i _ => n - (intOf i).toNat)
  case atStart => exact ⟨0, _, Nat.zero_le _, rfl, is_repl N, by first | exact HMD.out | (have := HMD.out; simpa using this), (Below.refl _ _).alloc (Nat.le_refl _) _⟩
  case round =>
    obtain ⟨j, rs, hj, rfl, hW, hO, hb⟩ := hrel
    rw [HN.out] at hj
    have HW := Lib.hid hW
    have HO := Lib.hid hO
    have HB := Lib.hid hb
    clear hW hO hb
    by_cases hlt : j < n
    · have cP : wr.cell? ⟨gp, 0, none⟩ = some (.slice (some ⟨bt, ot, none⟩) m ct) := (HB.out.cell (p := ⟨gp, 0, none⟩) hgp).trans HCP.out
      go_wp2_with fail
      go_loopw [30] (JrR wa wa.heap.size low high ts (hiK ts ts.length) N j) (fun i _ => m - (intOf i).toNat)
      case atStart => exact ⟨0, rs, Nat.zero_le _, rfl, HW.out, HO.out, HB.out⟩
      case round =>
        clear HW HO HB cP
        obtain ⟨k, rs, hk, rfl, hW, hO, hb⟩ := hrel
        rw [HM.out] at hk
        by_cases hlk : k < m
        · obtain ⟨q, hqd⟩ : ∃ q : Nat, q = (2 * j + k) % N := ⟨_, rfl⟩
          have hqN : q < N := by rw [hqd]; exact Nat.mod_lt _ (by omega)
          have hq1 : (2 * (j : Int) + (k : Int)).tmod (2 * (n : Int)) = (q : Int) := by
            rw [show (2 * (j : Int) + (k : Int)) = ((2 * j + k : Nat) : Int) by omega, show 2 * (n : Int) = (N : Int) by omega, tmodN, hqd]
          have hq2 : (2 * (j : Int) + (k : Int)).tmod (N : Int) = (q : Int) := by
            rw [show (2 * (j : Int) + (k : Int)) = ((2 * j + k : Nat) : Int) by omega, tmodN, hqd]
          have hlen : rs.length = N := by rw [hW.len, jiK_len, joK_len]
          obtain ⟨_, hgw, hcO, hfO⟩ := hO.cells' (by omega)
          have cO : wr.cell? ⟨wa.heap.size, q, none⟩ = some (.float .f32 (rs.getD q 0)) := by have := hcO q _ (fl_getD rs q (by omega)); rwa [Nat.zero_add] at this
          have fO : wr.frozen? ⟨wa.heap.size, q, none⟩ = false := by have := hfO q hqN; rwa [Nat.zero_add] at this
          have cT : wr.cell? ⟨bt, ot + k, none⟩ = some (.float .f32 (ts.getD k 0)) := (hb.cell (p := ⟨bt, ot + k, none⟩) hbt).trans (HCT.out k hlk)
          have cL : wr.cell? ⟨bl, ol + j, none⟩ = some (.float .f32 (low.getD j 0)) := (hb.cell (p := ⟨bl, ol + j, none⟩) hbl).trans (HCL.out j hlt)
          have cH : wr.cell? ⟨bh, oh + j, none⟩ = some (.float .f32 (high.getD j 0)) := (hb.cell (p := ⟨bh, oh + j, none⟩) hbh).trans (HCH.out j hlt)
          have cS : wr.cell? ⟨bs, os + k, none⟩ = some (.float .f32 ((hiK ts ts.length).getD k 0)) := (hb.cell (p := ⟨bs, os + k, none⟩) hbs).trans (HCS.out k hlk)
          have cP : wr.cell? ⟨gp, 0, none⟩ = some (.slice (some ⟨bt, ot, none⟩) m ct) := (hb.cell (p := ⟨gp, 0, none⟩) hgp).trans HCP.out
          have kO := hW.at q
          have kT := is_getD HFT.out HXT.out k
          have kL := is_getD HFL.out HXL.out j
          have kH := is_getD HFH.out HXH.out j
          have kS := is_getD HHF.out.1 HHF.out.2 k
          have hkI : (k : Int) < (m : Int) := by omega
          have hjI : (j : Int) < (n : Int) := by omega
          have hqI : (q : Int) < (N : Int) := by omega
          have hw1 : IntKind.i64.wrap (2 * (j : Int)) = 2 * (j : Int) := by rw [IntKind.wrap_i64]; omega
          have hw2 : IntKind.i64.wrap (2 * (j : Int) + (k : Int)) = 2 * (j : Int) + (k : Int) := by rw [IntKind.wrap_i64]; omega
          have HW := Lib.hid hW
          have HO := Lib.hid hO
          have HB := Lib.hid hb
          have HE := Lib.hid (show jiK low high ts (hiK ts ts.length) N (joK low high ts (hiK ts ts.length) N j) j (k + 1) = (jiK low high ts (hiK ts ts.length) N (joK low high ts (hiK ts ts.length) N j) j k).set q (ar .add .f32 ((jiK low high ts (hiK ts ts.length) N (joK low high ts (hiK ts ts.length) N j) j k).getD q 0) (ar .add .f32 (ar .mul .f32 (ts.getD k 0) (low.getD j 0)) (ar .mul .f32 ((hiK ts ts.length).getD k 0) (high.getD j 0)))) by rw [hqd]; rfl)
          clear hW hO hb hcO hfO hqd HCT HCL HCH HCS HCP HFT HXT HFL HXL HFH HXH HHF hlen
          generalize (jiK low high ts (hiK ts ts.length) N (joK low high ts (hiK ts ts.length) N j) j k).getD q 0 = co at *
          generalize rs.getD q 0 = xo at *
          generalize ts.getD k 0 = xt at *
          generalize low.getD j 0 = xl at *
          generalize high.getD j 0 = xh at *
          generalize (hiK ts ts.length).getD k 0 = xs at *
          go_wp2_with fail
          refine Sf.wp_soft [false, false, false, false, false, false, false, false, false, false, false, false, false, false, false, false, false, false, false, false, false, false, false, false, false, false, false, false, false, false, true] [true, true, true, true, true, true, true, true, true, true, true, true, true, true, true, true, true, true, true, true, true, true, true, true, true, true, true, true, true, true, false] (fun i => if i = 17 then 0 else if i = 26 then 0 else if i = 27 then 0 else if i = 28 then 0 else 1) (fun _ => undef) (by kernel_rfl) (by kernel_rfl) (by kernel_rfl) ?_
          simp only [Sf.tl]
          refine Sf.lx_one rfl rfl (fun K hK => Sf.dft_quiet rfl ?_)
          go_big_quiet_op
          refine hK _ ?_
          clear hK K
          refine Sf.lx_one rfl rfl (fun K hK => Sf.dft_quiet rfl ?_)
          go_big_quiet_op
          refine hK _ ?_
          clear hK K
          refine Sf.lx_one rfl rfl (fun K hK => Sf.dft_quiet rfl ?_)
          go_big_quiet_op
          refine hK _ ?_
          clear hK K
          refine Sf.lx_one rfl rfl (fun K hK => Sf.dft_quiet rfl ?_)
          go_big_quiet_op
          refine hK _ ?_
          clear hK K
          refine Sf.lx_one rfl rfl (fun K hK => Sf.dft_quiet rfl ?_)
          go_big_quiet_op
          refine hK _ ?_
          clear hK K
          refine Sf.lx_one rfl rfl (fun K hK => Sf.dft_quiet rfl ?_)
          go_big_quiet_op
          refine hK _ ?_
          clear hK K
          refine Sf.lx_one rfl rfl (fun K hK => Sf.dft_quiet rfl ?_)
          go_big_quiet_op
          refine hK _ ?_
          clear hK K
          refine Sf.lx_one rfl rfl (fun K hK => Sf.dft_nil rfl rfl (hK _ ?_))
          clear hK K
          simp only [Act.put, List.setIfInBounds_toArray, List.set_cons_zero, List.set_cons_succ]
          refine Sf.lx_one rfl rfl (fun K hK => Sf.dft_quiet rfl ?_)
          go_big_quiet_op
          refine hK _ ?_
          clear hK K
          refine Sf.lx_one rfl rfl (fun K hK => Sf.dft_quiet rfl ?_)
          go_big_quiet_op
          refine hK _ ?_
          clear hK K
          refine Sf.lx_one rfl rfl (fun K hK => Sf.dft_quiet rfl ?_)
          go_big_quiet_op
          refine hK _ ?_
          clear hK K
          refine Sf.lx_one rfl rfl (fun K hK => Sf.dft_quiet rfl ?_)
          go_big_quiet_op
          refine hK _ ?_
          clear hK K
          refine Sf.lx_one rfl rfl (fun K hK => Sf.dft_quiet rfl ?_)
          go_big_quiet_op
          refine hK _ ?_
          clear hK K
          refine Sf.lx_one rfl rfl (fun K hK => Sf.dft_quiet rfl ?_)
          go_big_quiet_op
          refine hK _ ?_
          clear hK K
          refine Sf.lx_one rfl rfl (fun K hK => Sf.dft_quiet rfl ?_)
          go_big_quiet_op
          refine hK _ ?_
          clear hK K
          refine Sf.lx_one rfl rfl (fun K hK => Sf.dft_quiet rfl ?_)
          go_big_quiet_op
          refine hK _ ?_
          clear hK K
          refine Sf.lx_one rfl rfl (fun K hK => Sf.dft_quiet rfl ?_)
          go_big_quiet_op
          refine hK _ ?_
          clear hK K
          refine Sf.lx_fl rfl rfl (fun K hK => Sf.sft_ar (k := .f32) rfl rfl rfl rfl (kT) (kL) (fun r56 hr56 => hK _ ?_))
          clear hK K
          simp only [Act.put, List.setIfInBounds_toArray, List.set_cons_zero, List.set_cons_succ]
          refine Sf.lx_one rfl rfl (fun K hK => Sf.dft_quiet rfl ?_)
          go_big_quiet_op
          refine hK _ ?_
          clear hK K
          refine Sf.lx_one rfl rfl (fun K hK => Sf.dft_quiet rfl ?_)
          go_big_quiet_op
          refine hK _ ?_
          clear hK K
          refine Sf.lx_one rfl rfl (fun K hK => Sf.dft_quiet rfl ?_)
          go_big_quiet_op
          refine hK _ ?_
          clear hK K
          refine Sf.lx_one rfl rfl (fun K hK => Sf.dft_quiet rfl ?_)
          go_big_quiet_op
          refine hK _ ?_
          clear hK K
          refine Sf.lx_one rfl rfl (fun K hK => Sf.dft_quiet rfl ?_)
          go_big_quiet_op
          refine hK _ ?_
          clear hK K
          refine Sf.lx_one rfl rfl (fun K hK => Sf.dft_quiet rfl ?_)
          go_big_quiet_op
          refine hK _ ?_
          clear hK K
          refine Sf.lx_one rfl rfl (fun K hK => Sf.dft_quiet rfl ?_)
          go_big_quiet_op
          refine hK _ ?_
          clear hK K
          refine Sf.lx_one rfl rfl (fun K hK => Sf.dft_quiet rfl ?_)
          go_big_quiet_op
          refine hK _ ?_
          clear hK K
          refine Sf.lx_fl rfl rfl (fun K hK => Sf.sft_ar (k := .f32) rfl rfl rfl rfl (kS) (kH) (fun r65 hr65 => hK _ ?_))
          clear hK K
          simp only [Act.put, List.setIfInBounds_toArray, List.set_cons_zero, List.set_cons_succ]
          refine Sf.lx_fl rfl rfl (fun K hK => Sf.sft_ar (k := .f32) rfl rfl rfl rfl (hr56) (hr65) (fun r66 hr66 => hK _ ?_))
          clear hK K
          simp only [Act.put, List.setIfInBounds_toArray, List.set_cons_zero, List.set_cons_succ]
          refine Sf.lx_fl rfl rfl (fun K hK => Sf.sft_ar (k := .f32) rfl rfl rfl rfl (kO) (hr66) (fun r67 hr67 => hK _ ?_))
          clear hK K
          simp only [Act.put, List.setIfInBounds_toArray, List.set_cons_zero, List.set_cons_succ]
          refine Sf.lx_one rfl rfl (fun K hK => Sf.dft_quiet rfl ?_)
          go_big_quiet_op
          refine hK _ ?_
          clear hK K
          refine Sf.lx_over ?_
          refine Sf.lx_nil ?_
          rintro _ ⟨nq, rfl⟩
          have cO' : (wr.drewN nq).cell? ⟨wa.heap.size, q, none⟩ = some (.float .f32 xo) := cO
          have fO' : (wr.drewN nq).frozen? ⟨wa.heap.size, q, none⟩ = false := fO
          go_wp2_with fail
          go_roundw
          case rel => exact ⟨k + 1, rs.set q r67, by rw [HM.out]; omega, by go_num, by rw [HE.out]; exact HW.out.set q hr67, by have := (HO.out.drewN nq).put q hqN (.float .f32 r67); rw [fl_set, Nat.zero_add] at this; exact this, (below_drawn HB.out nq).setCell (p := ⟨wa.heap.size, q, none⟩) (by show wa.heap.size ≤ wa.heap.size; exact Nat.le_refl _) _⟩
          case measure => simp [intOf]; omega
        · obtain rfl : k = m := by omega
          have HE := Lib.hid (show joK low high ts (hiK ts ts.length) N (j + 1) = jiK low high ts (hiK ts ts.length) N (joK low high ts (hiK ts ts.length) N j) j k from congrArg (jiK low high ts (hiK ts ts.length) N (joK low high ts (hiK ts ts.length) N j) j) HM.out)
          have HW := Lib.hid hW
          have HO := Lib.hid hO
          have HB := Lib.hid hb
          clear hW hO hb
          go_wp2_with fail
          go_roundw
          case rel => exact ⟨j + 1, rs, by rw [HN.out]; omega, by go_num, by rw [HE.out]; exact HW.out, HO.out, HB.out⟩
          case measure => simp [intOf]; omega
    · obtain rfl : j = n := by omega
      go_wp2_with fail
      go_ret
      exact ⟨_, rs, rfl, by rw [HA.out, HN.out, HNN.out]; exact HW.out, HO.out.less HBA.out.size, HBA.out.trans (HB.out.mono HBA.out.size)⟩
end Go.Proofs.Ythkklilfignmpaa
