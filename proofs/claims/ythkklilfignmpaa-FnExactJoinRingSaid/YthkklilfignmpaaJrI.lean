/-
  Contract: JoinRing of the program.
-/
import Derived.Test.YthkklilfignmpaaJr
import Derived.Test.YthkklilfignmpaaTp
import Derived.Test.YthkklilfignmpaaRp
import Derived.Test.YthkklilfignmpaaBx
namespace Go.Proofs.Ythkklilfignmpaa
open Go.RowKit Fl
set_option linter.unusedVariables false
set_option maxRecDepth 100000

set_option maxHeartbeats 8000000 in
theorem jrI_any (v0 v1 u : Value) (low high ts : List Nat) (w : World) (h0 : Rd w w.heap.size v0 (fl low)) (h1 : Rd w w.heap.size v1 (fl high)) (h2 : Rd w w.heap.size u (fl ts)) (hm0 : low.length ≤ 1048576) (hm1 : high.length ≤ 1048576) (hm2 : ts.length ≤ 1048576) (hx0 : ∀ x ∈ low, x < 2 ^ 32) (hx1 : ∀ x ∈ high, x < 2 ^ 32) (hx2 : ∀ x ∈ ts, x < 2 ^ 32) :
    Calls Try.prog 59 #[v0, v1, .agg #[u]] w (RetLF (jrL low high ts) (jrB low high ts) w) := by
  obtain ⟨w0, hw0⟩ : ∃ W, w.alloc (.cells #[u] 91) = W := ⟨_, rfl⟩
  have hb0 : Below w.heap.size w w0 := by rw [← hw0]; exact (Below.refl _ _).alloc (Nat.le_refl _) _
  have hX0 : Bx w0 w.heap.size [u] := by rw [← hw0]; exact bx_new w [u] _
  have HB0 := Lib.hid hb0
  have HX0 := Lib.hid hX0
  have HF0 := Lib.hid (fun (W : World) (hb : Below w.heap.size w W) => finI_any v0 low W W.heap.size (h0.step hb) hm0 hx0)
  have HF1 := Lib.hid (fun (W : World) (hb : Below w.heap.size w W) => finI_any v1 high W W.heap.size (h1.step hb) hm1 hx1)
  have HFO := Lib.hid (fun (W : World) (v : Value) (ys : List Nat) (h : Rd W W.heap.size v (fl ys)) (hl : ys.length ≤ 1048576) (hx : ∀ x ∈ ys, x < 2 ^ 32) => finI_any v ys W W.heap.size h hl hx)
  have HHO := Lib.hid (hioI_any u ts w0 (h2.step hb0) hm2 hx2)
  have p0 := (hX0.2 0 _ rfl).1
  have H0 := Lib.hid h0
  have H1 := Lib.hid h1
  have H2 := Lib.hid h2
  have HX0' := Lib.hid hx0
  have HX1' := Lib.hid hx1
  have HX2' := Lib.hid hx2
  obtain ⟨A0, c0, hv0, _, _, _⟩ := id h0
  obtain ⟨A1, c1, hv1, _, _, _⟩ := id h1
  rw [fl_len] at hv0 hv1
  subst hv0 hv1
  clear h0 h1 h2 hx0 hx1 hx2 hX0 hb0
  cases bvp : vpB ts with
  | true =>
    by_cases g1 : 1 ≤ low.length
    · skip
      by_cases g2 : low.length ≤ 64
      · skip
        by_cases g3 : high.length = low.length
        · skip
          cases bf0 : finA low with
          | true =>
            cases bf1 : finA high with
            | true =>
              rw [bvp] at HHO
              rw [bf0] at HF0
              rw [bf1] at HF1
              have HF1L := HF1
              rw [g3] at HF1L
              have H1L := H1
              rw [g3] at H1L
              have HG := Lib.hid (show jrG low high ts = true by unfold jrG; rw [bf0, bf1, bvp, decide_eq_true ⟨g1, g2, g3⟩]; rfl)
              have HRR := Lib.hid (show hiR ts = hiK ts ts.length by unfold hiR; rw [bvp]; rfl)
              obtain ⟨t1, t2, t3, f2⟩ := vpB_len bvp
              have HHF := Lib.hid (hi_fin ts HX2'.out f2)
              have HFT := Lib.hid f2
              have HFL := Lib.hid bf0
              have HFH := Lib.hid bf1
              have HXT := HX2'
              have HXL := HX0'
              have HXH' := HX1'
              have HA := Lib.hid (show joA low high ts = joK low high ts (hiK ts ts.length) (2 * low.length) low.length from rfl)
              have g3b : ((high.length : Int) != (low.length : Int)) = false := by rw [bne_eq_false_iff_eq]; omega
              have G3 := Lib.hid g3
              clear bvp bf0 bf1 f2
              go_enter Try.func59, Try.ntmps59
              go_wp2_with fail
              with_reducible refine HHO.out.mono ?_
              rintro e wh ⟨vh, rfl, oh, hb⟩
              have HBH := Lib.hid (HB0.out.trans (hb.mono HB0.out.size))
              have HXH := Lib.hid (HX0.out.step hb)
              rw [HRR.out] at oh
              have OH := Lib.hid oh
              obtain ⟨As, cs, hvs, _, _, _⟩ := id oh
              rw [fl_len, hiK_len] at hvs
              subst hvs
              clear hb oh
              go_wp2_with fail
              with_reducible refine (HF0.out _ HBH.out).mono ?_
              rintro e w1 ⟨rfl, n1, hw⟩
              have HB1 := Lib.hid (show Below w.heap.size w w1 by rw [hw]; exact below_drawn HBH.out _)
              have HX1 := Lib.hid (show Bx w1 w.heap.size [u] by rw [hw]; exact HXH.out)
              have OH1 := Lib.hid (show Own w1 w0.heap.size (.slice As ts.length cs) (fl (hiK ts ts.length)) by rw [hw]; exact OH.out)
              clear hw
              go_wp2_with fail
              first | with_reducible refine (HF1.out _ HB1.out).mono ?_ | with_reducible refine (HF1L.out _ HB1.out).mono ?_
              rintro e w2 ⟨rfl, n2, hw⟩
              have HB2 := Lib.hid (show Below w.heap.size w w2 by rw [hw]; exact below_drawn HB1.out _)
              have HX2 := Lib.hid (show Bx w2 w.heap.size [u] by rw [hw]; exact HX1.out)
              have OH2 := Lib.hid (show Own w2 w0.heap.size (.slice As ts.length cs) (fl (hiK ts ts.length)) by rw [hw]; exact OH1.out)
              clear hw
              obtain ⟨_, _, hv, _, _, q0⟩ := H0.out.step HB2.out
              simp only [Value.slice.injEq] at hv
              obtain ⟨rfl, -, rfl⟩ := hv
              obtain ⟨_, _, hv, _, _, q1⟩ := H1L.out.step HB2.out
              simp only [Value.slice.injEq] at hv
              obtain ⟨rfl, -, rfl⟩ := hv
              obtain ⟨A2, ct, hv2, _, _, q2⟩ := H2.out.step HB2.out
              obtain ⟨_, _, hv, _, _, q3⟩ := OH2.out.rd
              simp only [Value.slice.injEq] at hv
              obtain ⟨rfl, -, rfl⟩ := hv
              rw [fl_len] at hv2 q0 q1 q2
              rw [fl_len, hiK_len] at q3
              subst hv2
              obtain ⟨bl, ol, rfl, hbl, hcl⟩ := q0 (by omega)
              obtain ⟨bh, oh, rfl, hbh, hch⟩ := q1 (by omega)
              obtain ⟨bt, ot, rfl, hbt, hct⟩ := q2 (by omega)
              obtain ⟨bs, os, rfl, hbs, hcs⟩ := q3 (by omega)
              have HCL := Lib.hid (show ∀ j, j < low.length → w2.cell? ⟨bl, ol + j, none⟩ = some (.float .f32 (low.getD j 0)) from fun j hj => hcl j _ (fl_getD low j hj))
              have HCH := Lib.hid (show ∀ j, j < low.length → w2.cell? ⟨bh, oh + j, none⟩ = some (.float .f32 (high.getD j 0)) from fun j hj => hch j _ (fl_getD high j (by omega)))
              have HCT := Lib.hid (show ∀ j, j < ts.length → w2.cell? ⟨bt, ot + j, none⟩ = some (.float .f32 (ts.getD j 0)) from fun j hj => hct j _ (fl_getD ts j hj))
              have HCS := Lib.hid (show ∀ j, j < ts.length → w2.cell? ⟨bs, os + j, none⟩ = some (.float .f32 ((hiK ts ts.length).getD j 0)) from fun j hj => hcs j _ (fl_getD _ j (by rw [hiK_len]; exact hj)))
              have HCP := Lib.hid (HX2.out.2 0 _ rfl).1
              have hgp : w.heap.size < w2.heap.size := HX2.out.1
              have HXH := HXH'
              clear q0 q1 q2 q3 hcl hch hct hcs HF0 HF1 HF1L HHO HX0 HX1 HX2 OH OH1 OH2 H0 H1 H1L H2 g3b g3 HB0 HB1 HBH HRR
              obtain ⟨n, hn⟩ : ∃ n, low.length = n := ⟨_, rfl⟩
              obtain ⟨m, hmm⟩ : ∃ m, ts.length = m := ⟨_, rfl⟩
              obtain ⟨N, hN⟩ : ∃ N, 2 * n = N := ⟨_, rfl⟩
              have HN := Lib.hid hn
              have HM := Lib.hid hmm
              have HNN := Lib.hid hN
              rw [hn] at g1 g2 HCL HCH ⊢
              rw [hmm] at t1 t2 HCT HCP ⊢
              replace HCS := Lib.hid (show ∀ j, j < m → w2.cell? ⟨bs, os + j, none⟩ = some (.float .f32 ((hiK ts ts.length).getD j 0)) from fun j hj => HCS.out j (by rw [hmm]; exact hj))
              obtain ⟨i0, hi, hz0, hz1, hz2⟩ := info_parts infoF
              have hmk := fun W => run_mkN (P := Try.prog) 22 23 i0 (.float .f32 0) Try.underlying22 hi hz0 N (by rw [hz2]; omega) (by omega) W
              rw [hz1, show (N : Int) = 2 * (n : Int) by omega] at hmk
              have hmk1 : IntKind.i64.wrap (2 * (n : Int)) = 2 * (n : Int) := by rw [IntKind.wrap_i64]; omega
              have hnz : ¬ (2 * (n : Int) = 0) := by omega
              have hnz2 : ¬ ((N : Int) = 0) := by omega
              have hsf : ∀ (a : Addr) (x : Nat) (w : World), (store a (.float .f32 x)).run Try.prog w = stored Try.prog w a (.float .f32 x) .plain := fun a x w => run_store _ w a _ _ rfl
              have HMD := Lib.hid (jr_made w2 N (by omega))
              clear hn hmm
              go_wp2_with fail
              go_loopw [55] (JoR w2 w2.heap.size low high ts (hiK ts ts.length) N) (fun i _ => n - (intOf i).toNat)
              case atStart => exact ⟨0, _, Nat.zero_le _, rfl, is_repl N, by first | exact HMD.out | (have := HMD.out; simpa using this), (Below.refl _ _).alloc (Nat.le_refl _) _⟩
              case round =>
                obtain ⟨j, rs, hj, rfl, hW, hO, hb⟩ := hrel
                rw [HN.out] at hj
                have HW := Lib.hid hW
                have HO := Lib.hid hO
                have HB := Lib.hid hb
                clear hW hO hb
                by_cases hlt : j < n
                · have cP : wr.cell? ⟨w.heap.size, 0, none⟩ = some (.slice (some ⟨bt, ot, none⟩) m ct) := (HB.out.cell (p := ⟨w.heap.size, 0, none⟩) hgp).trans HCP.out
                  have cL : wr.cell? ⟨bl, ol + j, none⟩ = some (.float .f32 (low.getD j 0)) := (HB.out.cell (p := ⟨bl, ol + j, none⟩) hbl).trans (HCL.out j hlt)
                  obtain ⟨xl0, hxl⟩ : ∃ x, x = low.getD j 0 := ⟨_, rfl⟩
                  rw [← hxl] at cL
                  have HXL0 := Lib.hid hxl
                  clear hxl
                  have hjI : (j : Int) < (n : Int) := by omega
                  go_wp2_with fail
                  go_loopw [63] (JrR w2 w2.heap.size low high ts (hiK ts ts.length) N j) (fun i _ => m - (intOf i).toNat)
                  case atStart => exact ⟨0, rs, Nat.zero_le _, rfl, HW.out, HO.out, HB.out⟩
                  case round =>
                    clear HW HO HB cP cL hjI
                    obtain ⟨k, rs, hk, rfl, hW, hO, hb⟩ := hrel
                    rw [HM.out] at hk
                    by_cases hlk : k < m
                    · obtain ⟨q, hqd⟩ : ∃ q : Nat, q = (2 * j + k) % N := ⟨_, rfl⟩
                      have hqN : q < N := by rw [hqd]; exact Nat.mod_lt _ (by omega)
                      have hq1 : (2 * (j : Int) + (k : Int)).tmod (2 * (n : Int)) = (q : Int) := by
                        rw [show (2 * (j : Int) + (k : Int)) = ((2 * j + k : Nat) : Int) by omega, show 2 * (n : Int) = (N : Int) by omega, tmodN, hqd]
                      have hq2 : (2 * (j : Int) + (k : Int)).tmod (N : Int) = (q : Int) := by
                        rw [show (2 * (j : Int) + (k : Int)) = ((2 * j + k : Nat) : Int) by omega, tmodN, hqd]
                      have hlen : rs.length = N := by rw [hW.len, jiK_len, joK_len]
                      obtain ⟨_, hgw, hcO, hfO⟩ := hO.cells' (by omega)
                      have cO : wr.cell? ⟨w2.heap.size, q, none⟩ = some (.float .f32 (rs.getD q 0)) := by have := hcO q _ (fl_getD rs q (by omega)); rwa [Nat.zero_add] at this
                      have fO : wr.frozen? ⟨w2.heap.size, q, none⟩ = false := by have := hfO q hqN; rwa [Nat.zero_add] at this
                      have cT : wr.cell? ⟨bt, ot + k, none⟩ = some (.float .f32 (ts.getD k 0)) := (hb.cell (p := ⟨bt, ot + k, none⟩) hbt).trans (HCT.out k hlk)
                      have cL : wr.cell? ⟨bl, ol + j, none⟩ = some (.float .f32 (low.getD j 0)) := (hb.cell (p := ⟨bl, ol + j, none⟩) hbl).trans (HCL.out j hlt)
                      have cH : wr.cell? ⟨bh, oh + j, none⟩ = some (.float .f32 (high.getD j 0)) := (hb.cell (p := ⟨bh, oh + j, none⟩) hbh).trans (HCH.out j hlt)
                      have cS : wr.cell? ⟨bs, os + k, none⟩ = some (.float .f32 ((hiK ts ts.length).getD k 0)) := (hb.cell (p := ⟨bs, os + k, none⟩) hbs).trans (HCS.out k hlk)
                      have cP : wr.cell? ⟨w.heap.size, 0, none⟩ = some (.slice (some ⟨bt, ot, none⟩) m ct) := (hb.cell (p := ⟨w.heap.size, 0, none⟩) hgp).trans HCP.out
                      have kO := hW.at q
                      have kT := is_getD HFT.out HXT.out k
                      have kL := is_getD HFL.out HXL.out j
                      have kH := is_getD HFH.out HXH.out j
                      have kS := is_getD HHF.out.1 HHF.out.2 k
                      have hkI : (k : Int) < (m : Int) := by omega
                      have hjI : (j : Int) < (n : Int) := by omega
                      have hqI : (q : Int) < (N : Int) := by omega
                      have hw1 : IntKind.i64.wrap (2 * (j : Int)) = 2 * (j : Int) := by rw [IntKind.wrap_i64]; omega
                      have hw2 : IntKind.i64.wrap (2 * (j : Int) + (k : Int)) = 2 * (j : Int) + (k : Int) := by rw [IntKind.wrap_i64]; omega
                      have HW := Lib.hid hW
                      have HO := Lib.hid hO
                      have HB := Lib.hid hb
                      have HE := Lib.hid (show jiK low high ts (hiK ts ts.length) N (joK low high ts (hiK ts ts.length) N j) j (k + 1) = (jiK low high ts (hiK ts ts.length) N (joK low high ts (hiK ts ts.length) N j) j k).set q (ar .add .f32 ((jiK low high ts (hiK ts ts.length) N (joK low high ts (hiK ts ts.length) N j) j k).getD q 0) (ar .add .f32 (ar .mul .f32 (ts.getD k 0) (low.getD j 0)) (ar .mul .f32 ((hiK ts ts.length).getD k 0) (high.getD j 0)))) by rw [hqd]; rfl)
                      clear hW hO hb hcO hfO hqd HCT HCL HCH HCS HCP HFT HXT HFL HXL HFH HXH HHF hlen
                      generalize (jiK low high ts (hiK ts ts.length) N (joK low high ts (hiK ts ts.length) N j) j k).getD q 0 = co at *
                      generalize rs.getD q 0 = xo at *
                      generalize ts.getD k 0 = xt at *
                      generalize low.getD j 0 = xl at *
                      generalize high.getD j 0 = xh at *
                      have hxl := HXL0.out
                      clear HXL0
                      subst hxl
                      generalize (hiK ts ts.length).getD k 0 = xs at *
                      go_wp2_with fail
                      refine Sf.wp_soft [false, false, false, false, false, false, false, false, false, false, false, false, false, false, false, false, false, false, false, false, false, false, false, false, false, true] [true, true, true, true, true, true, true, true, true, true, true, true, true, true, true, true, true, true, true, true, true, true, true, true, true, false] (fun i => if i = 12 then 0 else if i = 21 then 0 else if i = 22 then 0 else if i = 23 then 0 else 1) (fun i => if i = 6 then .int .i64 (N : Int) else undef) (by kernel_rfl) (by kernel_rfl) (by kernel_rfl) ?_
                      simp only [Sf.tl]
                      refine Sf.lx_one rfl rfl (fun K hK => Sf.dft_quiet rfl ?_)
                      go_big_quiet_op
                      refine hK _ ?_
                      clear hK K
                      refine Sf.lx_one rfl rfl (fun K hK => Sf.dft_quiet rfl ?_)
                      go_big_quiet_op
                      refine hK _ ?_
                      clear hK K
                      refine Sf.lx_one rfl rfl (fun K hK => Sf.dft_quiet rfl ?_)
                      go_big_quiet_op
                      refine hK _ ?_
                      clear hK K
                      refine Sf.lx_one rfl rfl (fun K hK => Sf.dft_quiet rfl ?_)
                      go_big_quiet_op
                      refine hK _ ?_
                      clear hK K
                      refine Sf.lx_one rfl rfl (fun K hK => Sf.dft_quiet rfl ?_)
                      go_big_quiet_op
                      refine hK _ ?_
                      clear hK K
                      refine Sf.lx_one rfl rfl (fun K hK => Sf.dft_quiet rfl ?_)
                      go_big_quiet_op
                      refine hK _ ?_
                      clear hK K
                      refine Sf.lx_one rfl rfl (fun K hK => Sf.dft_call ?_ (hK _ ?_))
                      · clear hK K; rintro _ ⟨nc, rfl⟩; go_simp; all_goals first | exact ⟨rfl, nc, rfl⟩ | exact ⟨nc, rfl⟩ | rfl | (trace_state; fail)
                      clear hK K
                      simp only [Act.put, List.setIfInBounds_toArray, List.set_cons_zero, List.set_cons_succ, if_true, if_false, reduceIte, Nat.reduceEqDiff]
                      refine Sf.lx_one rfl rfl (fun K hK => Sf.dft_quiet rfl ?_)
                      go_big_quiet_op
                      refine hK _ ?_
                      clear hK K
                      refine Sf.lx_one rfl rfl (fun K hK => Sf.dft_quiet rfl ?_)
                      go_big_quiet_op
                      refine hK _ ?_
                      clear hK K
                      refine Sf.lx_one rfl rfl (fun K hK => Sf.dft_quiet rfl ?_)
                      go_big_quiet_op
                      refine hK _ ?_
                      clear hK K
                      refine Sf.lx_one rfl rfl (fun K hK => Sf.dft_quiet rfl ?_)
                      go_big_quiet_op
                      refine hK _ ?_
                      clear hK K
                      refine Sf.lx_one rfl rfl (fun K hK => Sf.dft_quiet rfl ?_)
                      go_big_quiet_op
                      refine hK _ ?_
                      clear hK K
                      refine Sf.lx_fl rfl rfl (fun K hK => Sf.sft_ar (k := .f32) rfl rfl rfl rfl (kT) (kL) (fun r80 hr80 => hK _ ?_))
                      clear hK K
                      simp only [Act.put, List.setIfInBounds_toArray, List.set_cons_zero, List.set_cons_succ]
                      refine Sf.lx_one rfl rfl (fun K hK => Sf.dft_quiet rfl ?_)
                      go_big_quiet_op
                      refine hK _ ?_
                      clear hK K
                      refine Sf.lx_one rfl rfl (fun K hK => Sf.dft_quiet rfl ?_)
                      go_big_quiet_op
                      refine hK _ ?_
                      clear hK K
                      refine Sf.lx_one rfl rfl (fun K hK => Sf.dft_quiet rfl ?_)
                      go_big_quiet_op
                      refine hK _ ?_
                      clear hK K
                      refine Sf.lx_one rfl rfl (fun K hK => Sf.dft_quiet rfl ?_)
                      go_big_quiet_op
                      refine hK _ ?_
                      clear hK K
                      refine Sf.lx_one rfl rfl (fun K hK => Sf.dft_quiet rfl ?_)
                      go_big_quiet_op
                      refine hK _ ?_
                      clear hK K
                      refine Sf.lx_one rfl rfl (fun K hK => Sf.dft_quiet rfl ?_)
                      go_big_quiet_op
                      refine hK _ ?_
                      clear hK K
                      refine Sf.lx_one rfl rfl (fun K hK => Sf.dft_quiet rfl ?_)
                      go_big_quiet_op
                      refine hK _ ?_
                      clear hK K
                      refine Sf.lx_one rfl rfl (fun K hK => Sf.dft_quiet rfl ?_)
                      go_big_quiet_op
                      refine hK _ ?_
                      clear hK K
                      refine Sf.lx_fl rfl rfl (fun K hK => Sf.sft_ar (k := .f32) rfl rfl rfl rfl (kS) (kH) (fun r89 hr89 => hK _ ?_))
                      clear hK K
                      simp only [Act.put, List.setIfInBounds_toArray, List.set_cons_zero, List.set_cons_succ]
                      refine Sf.lx_fl rfl rfl (fun K hK => Sf.sft_ar (k := .f32) rfl rfl rfl rfl (hr80) (hr89) (fun r90 hr90 => hK _ ?_))
                      clear hK K
                      simp only [Act.put, List.setIfInBounds_toArray, List.set_cons_zero, List.set_cons_succ]
                      refine Sf.lx_fl rfl rfl (fun K hK => Sf.sft_ar (k := .f32) rfl rfl rfl rfl (kO) (hr90) (fun r91 hr91 => hK _ ?_))
                      clear hK K
                      simp only [Act.put, List.setIfInBounds_toArray, List.set_cons_zero, List.set_cons_succ]
                      refine Sf.lx_one rfl rfl (fun K hK => Sf.dft_quiet rfl ?_)
                      go_big_quiet_op
                      refine hK _ ?_
                      clear hK K
                      refine Sf.lx_over ?_
                      refine Sf.lx_nil ?_
                      rintro _ ⟨nq, rfl⟩
                      have cO' : (wr.drewN nq).cell? ⟨w2.heap.size, q, none⟩ = some (.float .f32 xo) := cO
                      have fO' : (wr.drewN nq).frozen? ⟨w2.heap.size, q, none⟩ = false := fO
                      go_wp2_with fail
                      go_roundw
                      case rel => exact ⟨k + 1, rs.set q r91, by rw [HM.out]; omega, by go_num, by rw [HE.out]; exact HW.out.set q hr91, by have := (HO.out.drewN nq).put q hqN (.float .f32 r91); rw [fl_set, Nat.zero_add] at this; exact this, (below_drawn HB.out nq).setCell (p := ⟨w2.heap.size, q, none⟩) (by show w2.heap.size ≤ w2.heap.size; exact Nat.le_refl _) _⟩
                      case measure => simp [intOf]; omega
                    · obtain rfl : k = m := by omega
                      have HE := Lib.hid (show joK low high ts (hiK ts ts.length) N (j + 1) = jiK low high ts (hiK ts ts.length) N (joK low high ts (hiK ts ts.length) N j) j k from congrArg (jiK low high ts (hiK ts ts.length) N (joK low high ts (hiK ts ts.length) N j) j) HM.out)
                      have HW := Lib.hid hW
                      have HO := Lib.hid hO
                      have HB := Lib.hid hb
                      clear hW hO hb
                      go_wp2_with fail
                      go_roundw
                      case rel => exact ⟨j + 1, rs, by rw [HN.out]; omega, by go_num, by rw [HE.out]; exact HW.out, HO.out, HB.out⟩
                      case measure => simp [intOf]; omega
                · obtain rfl : j = n := by omega
                  have HYL := Lib.hid (show rs.length = N by rw [HW.out.len, joK_len])
                  have HFF := Lib.hid (HFO.out wr _ rs HO.out.rd (by have := HYL.out; omega) HW.out.lt)
                  have HBE := Lib.hid (HB2.out.trans (HB.out.mono HB2.out.size))
                  have HOE := Lib.hid (HO.out.less HB2.out.size)
                  have HAE := Lib.hid (show joA low high ts = joK low high ts (hiK ts ts.length) N j by rw [HA.out, HN.out, HNN.out])
                  rw [HW.out.fin, ← HAE.out] at HFF
                  cases bo : finA (joA low high ts) with
                  | true =>
                    rw [bo] at HFF
                    have HE := Lib.hid (show rs = joA low high ts by rw [HAE.out]; exact HW.out.eq (by rw [← HAE.out]; exact bo))
                    have HRB := Lib.hid (show jrB low high ts = true by unfold jrB; rw [HG.out, bo]; rfl)
                    have HRL := Lib.hid (show jrL low high ts = joA low high ts by unfold jrL; rw [HRB.out]; rfl)
                    clear bo
                    go_wp2_with fail
                    with_reducible refine HFF.out.mono ?_
                    rintro e w5 ⟨rfl, n5, rfl⟩
                    go_wp2_with fail
                    go_ret2
                    rw [HRL.out, HRB.out, ← HE.out]
                    exact ⟨_, rfl, HOE.out.drewN _, below_drawn HBE.out _⟩
                  | false =>
                    rw [bo] at HFF
                    have HRB := Lib.hid (show jrB low high ts = false by unfold jrB; rw [bo]; simp)
                    have HRL := Lib.hid (show jrL low high ts = [] by unfold jrL; rw [HRB.out]; rfl)
                    clear bo
                    go_wp2_with fail
                    with_reducible refine HFF.out.mono ?_
                    rintro e w5 ⟨rfl, n5, rfl⟩
                    go_wp2_with fail
                    go_ret2
                    rw [HRL.out, HRB.out]
                    exact ⟨_, rfl, own_nilF _ _, below_drawn HBE.out _⟩
            | false =>
              have hg : jrG low high ts = false := by unfold jrG; rw [bf1]; simp
              rw [bvp] at HHO
              rw [bf0] at HF0
              rw [bf1] at HF1
              have HF1L := HF1
              rw [g3] at HF1L
              have H1L := H1
              rw [g3] at H1L
              have HNO := Lib.hid (jr_no hg)
              clear hg
              have g3b : ((high.length : Int) != (low.length : Int)) = false := by rw [bne_eq_false_iff_eq]; omega
              go_enter Try.func59, Try.ntmps59
              go_wp2_with fail
              with_reducible refine HHO.out.mono ?_
              rintro e wh ⟨vh, rfl, oh, hb⟩
              have HBH := Lib.hid (HB0.out.trans (hb.mono HB0.out.size))
              have HXH := Lib.hid (HX0.out.step hb)
              clear hb oh
              go_wp2_with fail
              with_reducible refine (HF0.out _ HBH.out).mono ?_
              rintro e w1 ⟨rfl, n1, hw⟩
              have HB1 := Lib.hid (show Below w.heap.size w w1 by rw [hw]; exact below_drawn HBH.out _)
              have HX1 := Lib.hid (show Bx w1 w.heap.size [u] by rw [hw]; exact HXH.out)
              clear hw
              go_wp2_with fail
              first | with_reducible refine (HF1.out _ HB1.out).mono ?_ | with_reducible refine (HF1L.out _ HB1.out).mono ?_
              rintro e w2 ⟨rfl, n2, hw⟩
              have HB2 := Lib.hid (show Below w.heap.size w w2 by rw [hw]; exact below_drawn HB1.out _)
              have HX2 := Lib.hid (show Bx w2 w.heap.size [u] by rw [hw]; exact HX1.out)
              clear hw
              go_wp2_with fail
              go_ret2
              rw [HNO.out.1, HNO.out.2]
              exact ⟨_, rfl, own_nilF _ _, HB2.out⟩
          | false =>
            have hg : jrG low high ts = false := by unfold jrG; rw [bf0]; simp
            rw [bvp] at HHO
            rw [bf0] at HF0
            have HNO := Lib.hid (jr_no hg)
            clear hg
            have g3b : ((high.length : Int) != (low.length : Int)) = false := by rw [bne_eq_false_iff_eq]; omega
            go_enter Try.func59, Try.ntmps59
            go_wp2_with fail
            with_reducible refine HHO.out.mono ?_
            rintro e wh ⟨vh, rfl, oh, hb⟩
            have HBH := Lib.hid (HB0.out.trans (hb.mono HB0.out.size))
            have HXH := Lib.hid (HX0.out.step hb)
            clear hb oh
            go_wp2_with fail
            with_reducible refine (HF0.out _ HBH.out).mono ?_
            rintro e w1 ⟨rfl, n1, hw⟩
            have HB1 := Lib.hid (show Below w.heap.size w w1 by rw [hw]; exact below_drawn HBH.out _)
            have HX1 := Lib.hid (show Bx w1 w.heap.size [u] by rw [hw]; exact HXH.out)
            clear hw
            go_wp2_with fail
            go_ret2
            rw [HNO.out.1, HNO.out.2]
            exact ⟨_, rfl, own_nilF _ _, HB1.out⟩
        · have g3n : ((high.length : Int) != (low.length : Int)) = true := bne_iff_ne.2 (by omega)
          have hg : jrG low high ts = false := by unfold jrG; rw [decide_eq_false (by omega)]; rfl
          rw [bvp] at HHO
          have HNO := Lib.hid (jr_no hg)
          clear hg
          go_enter Try.func59, Try.ntmps59
          go_wp2_with fail
          with_reducible refine HHO.out.mono ?_
          rintro e wh ⟨vh, rfl, oh, hb⟩
          have HBH := Lib.hid (HB0.out.trans (hb.mono HB0.out.size))
          have HXH := Lib.hid (HX0.out.step hb)
          clear hb oh
          go_wp2_with fail
          go_ret2
          rw [HNO.out.1, HNO.out.2]
          exact ⟨_, rfl, own_nilF _ _, HBH.out⟩
      · have g2n : 64 < low.length := by omega
        have hg : jrG low high ts = false := by unfold jrG; rw [decide_eq_false (by omega)]; rfl
        rw [bvp] at HHO
        have HNO := Lib.hid (jr_no hg)
        clear hg
        go_enter Try.func59, Try.ntmps59
        go_wp2_with fail
        with_reducible refine HHO.out.mono ?_
        rintro e wh ⟨vh, rfl, oh, hb⟩
        have HBH := Lib.hid (HB0.out.trans (hb.mono HB0.out.size))
        have HXH := Lib.hid (HX0.out.step hb)
        clear hb oh
        go_wp2_with fail
        go_ret2
        rw [HNO.out.1, HNO.out.2]
        exact ⟨_, rfl, own_nilF _ _, HBH.out⟩
    · have g1n : low.length < 1 := by omega
      have hg : jrG low high ts = false := by unfold jrG; rw [decide_eq_false (by omega)]; rfl
      rw [bvp] at HHO
      have HNO := Lib.hid (jr_no hg)
      clear hg
      go_enter Try.func59, Try.ntmps59
      go_wp2_with fail
      with_reducible refine HHO.out.mono ?_
      rintro e wh ⟨vh, rfl, oh, hb⟩
      have HBH := Lib.hid (HB0.out.trans (hb.mono HB0.out.size))
      have HXH := Lib.hid (HX0.out.step hb)
      clear hb oh
      go_wp2_with fail
      go_ret2
      rw [HNO.out.1, HNO.out.2]
      exact ⟨_, rfl, own_nilF _ _, HBH.out⟩
  | false =>
    have hg : jrG low high ts = false := by unfold jrG; rw [bvp]; simp
    rw [bvp] at HHO
    have HNO := Lib.hid (jr_no hg)
    clear hg
    go_enter Try.func59, Try.ntmps59
    go_wp2_with fail
    with_reducible refine HHO.out.mono ?_
    rintro e wh ⟨vh, rfl, oh, hb⟩
    have HBH := Lib.hid (HB0.out.trans (hb.mono HB0.out.size))
    have HXH := Lib.hid (HX0.out.step hb)
    clear hb oh
    go_wp2_with fail
    go_ret2
    rw [HNO.out.1, HNO.out.2]
    exact ⟨_, rfl, own_nilF _ _, HBH.out⟩
end Go.Proofs.Ythkklilfignmpaa
