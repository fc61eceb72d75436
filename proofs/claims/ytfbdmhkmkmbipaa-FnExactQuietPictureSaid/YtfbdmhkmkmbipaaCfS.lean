/-
  Contract: the picture in which pixels that are not coarse are softened, by the program.
-/
import Derived.Test.YtfbdmhkmkmbipaaTxK
import Derived.Test.YtfbdmhkmkmbipaaSof
import Derived.Test.YtfbdmhkmkmbipaaFip
import Derived.Test.YtfbdmhkmkmbipaaDf
import Derived.Test.YtfbdmhkmkmbipaaOwn4
import Derived.Deep.RegionHeld3
namespace Go.Proofs.Ytfbdmhkmkmbipaa
open Go.RowKit Fl
set_option linter.unusedVariables false
set_option maxRecDepth 100000

theorem bx_three {W : World} {g : Nat} {a b c : Value} (h : Bx W g [a, b, c]) : W.cell? ⟨g, 0, none⟩ = some a ∧ W.cell? ⟨g, 1, none⟩ = some b ∧ W.cell? ⟨g, 2, none⟩ = some c ∧ W.frozen? ⟨g, 0, none⟩ = false ∧ W.frozen? ⟨g, 1, none⟩ = false ∧ W.frozen? ⟨g, 2, none⟩ = false :=
  ⟨(h.2 0 _ rfl).1, (h.2 1 _ rfl).1, (h.2 2 _ rfl).1, (h.2 0 _ rfl).2, (h.2 1 _ rfl).2, (h.2 2 _ rfl).2⟩
theorem cloneP_any (a : Addr) (c : Nat) (xs : List Nat) (w : World) (h : Rd w w.heap.size (.slice (some a) xs.length c) (fl xs)) (hm : xs.length ≤ 1048576) (hn : 0 < xs.length) :
    Calls Try.prog 82 #[.slice (some a) xs.length c] w (fun e w' => ∃ b2 o2 c3, e = .returned (.slice (some ⟨b2, o2, none⟩) xs.length c3) ∧ Own w' w.heap.size (.slice (some ⟨b2, o2, none⟩) xs.length c3) (fl xs) ∧ Below w.heap.size w w') := by
  refine (cloneF_any a c xs w h hm).mono ?_
  rintro e w' ⟨v, rfl, ho, hb⟩
  obtain ⟨A3, c3, hv3, _, _, hc3⟩ := id ho
  rw [fl_len] at hv3 hc3
  obtain ⟨b2, o2, rfl, _⟩ := hc3 hn
  subst hv3
  exact ⟨b2, o2, c3, rfl, ho, hb⟩
def ChSR (w5 : World) (lo b2 o2 c3 b : Nat) (xs M : List Nat) (i : Value) (wr : World) : Prop := ∃ j : Nat, j ≤ M.length ∧ i = .int .i64 j ∧ Tx [b2] w5 wr ∧ Own wr lo (.slice (some ⟨b2, o2, none⟩) xs.length c3) (fl (chK (sofF b) xs (M.take j)))
set_option maxHeartbeats 8000000 in
theorem cfS_any (p q : Int) (L k5 b bk off c : Nat) (xs : List Nat) (w : World) (hp : 1 ≤ p ∧ p ≤ 16) (hq : 1 ≤ q ∧ q ≤ 16) (hL : 1 ≤ L ∧ L ≤ 4) (hl : (xs.length : Int) = p * q) (hbd : 1 ≤ p * q ∧ p * q ≤ 256) (h : Rd w w.heap.size (.slice (some ⟨bk, off, none⟩) xs.length c) (fl xs)) (hfin : finA xs = true) (hk5 : k5 < w.heap.size) (hc5 : w.cell? ⟨k5, 0, none⟩ = some (.float .f32 b)) (hbf : finB .f32 b = true) :
    Calls Try.prog 110 #[.agg #[.int .i64 p, .int .i64 q, .slice (some ⟨bk, off, none⟩) xs.length c], .int .i64 (L : Int), .func (.func 113) #[] #[.pointer (some ⟨k5, 0, none⟩)]] w (RetAg p q (chK (sofF b) xs (fiN (csB p q L) xs.length)) w) := by
  obtain ⟨A, c0, hv, hnc, hcm, hcell0⟩ := id h
  rw [fl_len] at hv hnc hcell0
  simp only [Value.slice.injEq] at hv
  obtain ⟨rfl, -, rfl⟩ := hv
  obtain ⟨bk0, off0, hA, hbw, hcells⟩ := hcell0 (by omega)
  cases hA
  clear hcell0
  obtain ⟨w0, hw0⟩ : ∃ w0, (w.alloc (.cells #[.int .i64 p, .int .i64 q, .slice (some ⟨bk, off, none⟩) xs.length c] 50)).alloc (.cells #[.int .i64 0, .int .i64 0, .slice none 0 0] 50) = w0 := ⟨_, rfl⟩
  have hb0 : Below w.heap.size w w0 := by rw [← hw0]; exact ((Below.refl _ _).alloc (Nat.le_refl _) _).alloc (by simp) _
  have hz : w0.heap.size = w.heap.size + 2 := by rw [← hw0]; simp
  have hlt : w.heap.size < w0.heap.size := by omega
  have hltr : w.heap.size + 1 < w0.heap.size := by omega
  clear hz
  have x0 : w0.cell? ⟨w.heap.size, 0, none⟩ = some (.int .i64 p) := by rw [← hw0]; simp [go_sem]
  have x1 : w0.cell? ⟨w.heap.size, 1, none⟩ = some (.int .i64 q) := by rw [← hw0]; simp [go_sem]
  have x2 : w0.cell? ⟨w.heap.size, 2, none⟩ = some (.slice (some ⟨bk, off, none⟩) xs.length c) := by rw [← hw0]; simp [go_sem]
  have r0 : w0.cell? ⟨w.heap.size + 1, 0, none⟩ = some (.int .i64 0) := by rw [← hw0]; simp [go_sem]
  have r1 : w0.cell? ⟨w.heap.size + 1, 1, none⟩ = some (.int .i64 0) := by rw [← hw0]; simp [go_sem]
  have r2 : w0.cell? ⟨w.heap.size + 1, 2, none⟩ = some (.slice none 0 0) := by rw [← hw0]; simp [go_sem]
  have e0 : w0.frozen? ⟨w.heap.size + 1, 0, none⟩ = false := by rw [← hw0]; simp [go_sem]
  have e1 : w0.frozen? ⟨w.heap.size + 1, 1, none⟩ = false := by rw [← hw0]; simp [go_sem]
  have e2 : w0.frozen? ⟨w.heap.size + 1, 2, none⟩ = false := by rw [← hw0]; simp [go_sem]
  have HSRC := Lib.hid (show ∀ (i : Nat) (h : i < xs.length), w.cell? ⟨bk, off + i, none⟩ = some (.float .f32 (xs.getD i 0)) from fun i hi => by have := hcells i _ (fl_get xs i hi); simpa [List.getD, hi] using this)
  have hnn : 0 < xs.length := by omega
  have hx256 : xs.length ≤ 256 := by omega
  obtain ⟨Z, hZ⟩ : ∃ Z, Z = w0.alloc (.cells #[.int .i64 0, .int .i64 0, .slice none 0 0] 50) := ⟨_, rfl⟩
  have hbZ : Below w0.heap.size w0 Z := by rw [hZ]; exact (Below.refl _ _).alloc (Nat.le_refl _) _
  have hBXZ : Bx Z w0.heap.size [.int .i64 0, .int .i64 0, .slice none 0 0] := by rw [hZ]; exact bx_new w0 [.int .i64 0, .int .i64 0, .slice none 0 0] _
  have hZs : Z.heap.size = w0.heap.size + 1 := by rw [hZ]; simp
  have hltZ : w.heap.size < Z.heap.size := by omega
  have y0 := (hbZ.cell (p := ⟨w.heap.size, 0, none⟩) hlt).trans x0
  have y1 := (hbZ.cell (p := ⟨w.heap.size, 1, none⟩) hlt).trans x1
  have y2 := (hbZ.cell (p := ⟨w.heap.size, 2, none⟩) hlt).trans x2
  have z0 := (hBXZ.2 0 _ rfl).1
  have z1 := (hBXZ.2 1 _ rfl).1
  have z2 := (hBXZ.2 2 _ rfl).1
  have zf0 := (hBXZ.2 0 _ rfl).2
  have zf1 := (hBXZ.2 1 _ rfl).2
  have zf2 := (hBXZ.2 2 _ rfl).2
  have hR0 := h.step hb0
  have hRZ := hR0.step hbZ
  have HCA := Lib.hid (show Calls Try.prog 82 #[.slice (some ⟨bk, off, none⟩) xs.length c] (w0.alloc (.cells #[.int .i64 0, .int .i64 0, .slice none 0 0] 50)).drew (fun e w' => ∃ b2 o2 c3, e = .returned (.slice (some ⟨b2, o2, none⟩) xs.length c3) ∧ Own w' (w0.heap.size + 1) (.slice (some ⟨b2, o2, none⟩) xs.length c3) (fl xs) ∧ Below Z.heap.size Z w') from by have := cloneP_any ⟨bk, off, none⟩ c xs Z.drew hRZ (by omega) hnn; rw [← hZ]; refine this.mono ?_; rintro e w' ⟨b2, o2, c3, he, ho, hb⟩; exact ⟨b2, o2, c3, he, by rw [← hZs]; exact ho, below_draw1 hb⟩)
  have HCB2 := Lib.hid (show Calls Try.prog 82 #[.slice (some ⟨bk, off, none⟩) xs.length c] w0.drew (fun e w' => ∃ b2 o2 c3, e = .returned (.slice (some ⟨b2, o2, none⟩) xs.length c3) ∧ Own w' w0.heap.size (.slice (some ⟨b2, o2, none⟩) xs.length c3) (fl xs) ∧ Below w0.heap.size w0 w') from by have := cloneP_any ⟨bk, off, none⟩ c xs w0.drew hR0 (by omega) hnn; refine this.mono ?_; rintro e w' ⟨b2, o2, c3, he, ho, hb⟩; exact ⟨b2, o2, c3, he, ho, below_draw1 hb⟩)
  have HB0 := Lib.hid hb0
  have HBZ := Lib.hid hbZ
  have HBX := Lib.hid hBXZ
  have HZS := Lib.hid hZs
  have HFX := Lib.hid (fun i => getD_finR hfin i)
  have HCC := Lib.hid (show csB p q L = csB p q L from rfl)
  obtain ⟨M, hML⟩ : ∃ M, M = fiN (csB p q L) xs.length := ⟨_, rfl⟩
  have hMl : M.length ≤ xs.length := by rw [hML]; exact fiN_len _ _
  have HMX := Lib.hid (show ∀ i ∈ M, i < xs.length from fun i hi => by rw [hML] at hi; exact List.mem_range.1 (List.mem_filter.1 hi).1)
  have HFI := Lib.hid (fun W => (show Calls Try.prog 115 #[.agg #[.int .i64 p, .int .i64 q], .int .i64 (L : Int)] W (RetJ1 (M.map fun i : Nat => (i : Int)) W) by rw [hML, ← show (p * q).toNat = xs.length by omega]; exact fiI_any p q L W hp hq hL))
  rw [← hML]
  clear hl hML hcells h hR0 hRZ hb0 hfin hbZ hBXZ hZs
  have hsf : ∀ (a : Addr) (x : Nat) (w : World), (store a (.float .f32 x)).run Try.prog w = stored Try.prog w a (.float .f32 x) .plain := fun a x w => run_store _ w a _ _ rfl
  go_enter Try.func110, Try.ntmps110
  go_wp2_with fail
  refine wp_region_held_drew (S := (fun w' => w'.cell? ⟨w.heap.size, 0, none⟩ = some (.int .i64 p) ∧ w'.cell? ⟨w.heap.size, 1, none⟩ = some (.int .i64 q) ∧ w'.cell? ⟨w.heap.size, 2, none⟩ = some (.slice (some ⟨bk, off, none⟩) xs.length c))) (by kernel_rfl) ?_ (fun hHeld => ?_)
  · exact ⟨x0, x1, x2⟩
  refine wpAnyH_take (i := 0) (v := ?v26) rfl (by kernel_rfl) (by kernel_rfl) (by kernel_rfl) (fun _ _ _ h => h) (Or.inl ⟨by rfl, ?y26⟩) (by assumption) ?r26
  case y26 => (intro w hSw; (try dsimp only at hSw); go_simp; try (with_reducible rfl))
  (try simp only [Act.put]); (try simp only [List.setIfInBounds_toArray]); (try simp only [List.set_cons_succ]); (try simp only [List.set_cons_zero])
  refine wpAnyH_take (i := 1) (v := ?v27) rfl (by kernel_rfl) (by kernel_rfl) (by kernel_rfl) (fun _ _ _ h => h) (Or.inl ⟨by rfl, ?y27⟩) (by assumption) ?r27
  case y27 => (intro w hSw; (try dsimp only at hSw); go_simp; try (with_reducible rfl))
  (try simp only [Act.put]); (try simp only [List.setIfInBounds_toArray]); (try simp only [List.set_cons_succ]); (try simp only [List.set_cons_zero])
  refine wpAnyH_take (i := 2) (v := ?v28) rfl (by kernel_rfl) (by kernel_rfl) (by kernel_rfl) (fun _ _ _ h => h) (Or.inl ⟨by rfl, ?y28⟩) (by assumption) ?r28
  case y28 => (intro w hSw; (try dsimp only at hSw); go_simp; try (with_reducible rfl))
  (try simp only [Act.put]); (try simp only [List.setIfInBounds_toArray]); (try simp only [List.set_cons_succ]); (try simp only [List.set_cons_zero])
  refine wpAnyH_take (i := 3) (v := ?v29) rfl (by kernel_rfl) (by kernel_rfl) (by kernel_rfl) (fun _ _ _ h => h) (Or.inl ⟨by rfl, ?y29⟩) (by assumption) ?r29
  case y29 => (intro w hSw; (try dsimp only at hSw); go_simp; try (with_reducible rfl))
  (try simp only [Act.put]); (try simp only [List.setIfInBounds_toArray]); (try simp only [List.set_cons_succ]); (try simp only [List.set_cons_zero])
  refine wpAnyH_take (i := 4) (v := ?v30) rfl (by kernel_rfl) (by kernel_rfl) (by kernel_rfl) (fun _ _ _ h => h) (Or.inl ⟨by rfl, ?y30⟩) (by assumption) ?r30
  case y30 => (intro w hSw; (try dsimp only at hSw); go_simp; try (with_reducible rfl))
  (try simp only [Act.put]); (try simp only [List.setIfInBounds_toArray]); (try simp only [List.set_cons_succ]); (try simp only [List.set_cons_zero])
  refine wpAnyH_take (i := 5) (v := ?v31) rfl (by kernel_rfl) (by kernel_rfl) (by kernel_rfl) (fun _ _ _ h => h) (Or.inl ⟨by rfl, ?y31⟩) (by assumption) ?r31
  case y31 => (intro w hSw; (try dsimp only at hSw); go_simp; try (with_reducible rfl))
  (try simp only [Act.put]); (try simp only [List.setIfInBounds_toArray]); (try simp only [List.set_cons_succ]); (try simp only [List.set_cons_zero])
  refine wpAnyH_ready (rs := [6, 8]) (by kernel_rfl) (by simp) ?_
  refine AllReadyH.cons rfl (fun K hK => ?_) (AllReadyH.cons rfl (fun K hK => ?_) AllReadyH.nil)
  · go_simp
    go_at_call 82
    refine HCB2.out.mono ?_
    rintro e w3 ⟨b2, o2, c3, rfl, ho3, hb3Z⟩
    have c0' := (hb3Z.cell (p := ⟨w.heap.size, 0, none⟩) hlt).trans x0
    have c1' := (hb3Z.cell (p := ⟨w.heap.size, 1, none⟩) hlt).trans x1
    have c2' := (hb3Z.cell (p := ⟨w.heap.size, 2, none⟩) hlt).trans x2
    have HO3 := Lib.hid ho3
    have HBT := Lib.hid hb3Z
    clear ho3 hb3Z
    have hlt3 : w.heap.size < w3.heap.size := Nat.lt_of_lt_of_le hlt HBT.out.size
    refine hK.out _ _ ?_ (fun hHeld => ?_)
    · exact ⟨c0', c1', c2'⟩
    clear hK K
    (try simp only [Act.put]); (try simp only [List.setIfInBounds_toArray]); (try simp only [List.set_cons_succ]); (try simp only [List.set_cons_zero])
    refine wpAnyH_take (i := 7) (v := ?v32) rfl (by kernel_rfl) (by kernel_rfl) (by kernel_rfl) (fun _ _ _ h => h) (Or.inl ⟨by rfl, ?y32⟩) (by assumption) ?r32
    case y32 => (intro w hSw; (try dsimp only at hSw); go_simp; try (with_reducible rfl))
    (try simp only [Act.put]); (try simp only [List.setIfInBounds_toArray]); (try simp only [List.set_cons_succ]); (try simp only [List.set_cons_zero])
    refine wpAnyH_ready (rs := [8]) (by kernel_rfl) (by simp) ?_
    refine AllReadyH.cons rfl (fun K hK => ?_) AllReadyH.nil
    go_simp
    refine hK.out _ _ ?_ (fun hHeld => ?_)
    · exact ⟨(((Below.refl _ w3).alloc (Nat.le_refl _) _).cell (p := ⟨w.heap.size, 0, none⟩) hlt3).trans c0', (((Below.refl _ w3).alloc (Nat.le_refl _) _).cell (p := ⟨w.heap.size, 1, none⟩) hlt3).trans c1', (((Below.refl _ w3).alloc (Nat.le_refl _) _).cell (p := ⟨w.heap.size, 2, none⟩) hlt3).trans c2'⟩
    clear hK K
    (try simp only [Act.put]); (try simp only [List.setIfInBounds_toArray]); (try simp only [List.set_cons_succ]); (try simp only [List.set_cons_zero])
    refine wpAnyH_ready (rs := [9]) (by kernel_rfl) (by simp) ?_
    refine AllReadyH.cons rfl (fun K hK => ?_) AllReadyH.nil
    have hwg : ¬ w.heap.size = w3.heap.size := by omega
    go_simp
    refine hK.out _ _ ?_ (fun hHeld => ?_)
    · first | exact ⟨(((Below.refl _ w3).alloc (Nat.le_refl _) _).cell (p := ⟨w.heap.size, 0, none⟩) hlt3).trans c0', (((Below.refl _ w3).alloc (Nat.le_refl _) _).cell (p := ⟨w.heap.size, 1, none⟩) hlt3).trans c1', (((Below.refl _ w3).alloc (Nat.le_refl _) _).cell (p := ⟨w.heap.size, 2, none⟩) hlt3).trans c2'⟩ | exact ⟨ei_farO hwg (ei_farO hwg (ei_farO hwg ((((Below.refl _ w3).alloc (Nat.le_refl _) _).cell (p := ⟨w.heap.size, 0, none⟩) hlt3).trans c0'))), ei_farO hwg (ei_farO hwg (ei_farO hwg ((((Below.refl _ w3).alloc (Nat.le_refl _) _).cell (p := ⟨w.heap.size, 1, none⟩) hlt3).trans c1'))), ei_farO hwg (ei_farO hwg (ei_farO hwg ((((Below.refl _ w3).alloc (Nat.le_refl _) _).cell (p := ⟨w.heap.size, 2, none⟩) hlt3).trans c2')))⟩
    clear hK K
    (try simp only [Act.put]); (try simp only [List.setIfInBounds_toArray]); (try simp only [List.set_cons_succ]); (try simp only [List.set_cons_zero])
    refine wpAnyH_done (by kernel_rfl) ?_ _
    have HCW := Lib.hid (chb_two (p := p) (q := q) (L := xs) HO3.out hnn HBT.out)
    clear HCA HCB2 z0 z1 z2 zf0 zf1 zf2 y0 y1 y2
    generalize w3.alloc (.cells #[.int .i64 p, .int .i64 q, .slice (some ⟨b2, o2, none⟩) xs.length c3] 50) = W at *
    obtain ⟨g, hgd⟩ : ∃ g, g = w3.heap.size := ⟨_, rfl⟩
    rw [← hgd] at HCW ⊢
    have HGD := Lib.hid hgd
    clear hgd
    clear HO3 HBT c0' c1' c2' hw0
    have hBW := HCW.out.2.2.2.2.2.2
    have HBW := Lib.hid hBW
    obtain ⟨hBXg, hOW, hg0, hb20, hne, hb2W, -⟩ := id HCW.out
    have HBG := Lib.hid hBXg
    have HOW := Lib.hid hOW
    clear hBXg hOW
    replace x0 := (hBW.cell (p := ⟨w.heap.size, 0, none⟩) hlt).trans x0
    replace x1 := (hBW.cell (p := ⟨w.heap.size, 1, none⟩) hlt).trans x1
    replace x2 := (hBW.cell (p := ⟨w.heap.size, 2, none⟩) hlt).trans x2
    replace r0 := (hBW.cell (p := ⟨w.heap.size + 1, 0, none⟩) hltr).trans r0
    replace r1 := (hBW.cell (p := ⟨w.heap.size + 1, 1, none⟩) hltr).trans r1
    replace r2 := (hBW.cell (p := ⟨w.heap.size + 1, 2, none⟩) hltr).trans r2
    replace e0 := (hBW.frozen (p := ⟨w.heap.size + 1, 0, none⟩) hltr).trans e0
    replace e1 := (hBW.frozen (p := ⟨w.heap.size + 1, 1, none⟩) hltr).trans e1
    replace e2 := (hBW.frozen (p := ⟨w.heap.size + 1, 2, none⟩) hltr).trans e2
    replace hlt : w.heap.size < W.heap.size := Nat.lt_of_lt_of_le hlt hBW.size
    have hltW : w.heap.size + 1 < W.heap.size := Nat.lt_of_lt_of_le hltr hBW.size
    clear hBW
    go_wp2_with fail
    with_reducible refine (sid_any p q (some ⟨bk, off, none⟩) xs.length c _).mono ?_
    rintro e w4 ⟨rfl, hb4⟩
    replace x0 := (hb4.cell (p := ⟨w.heap.size, 0, none⟩) hlt).trans x0
    replace x1 := (hb4.cell (p := ⟨w.heap.size, 1, none⟩) hlt).trans x1
    replace x2 := (hb4.cell (p := ⟨w.heap.size, 2, none⟩) hlt).trans x2
    replace r0 := (hb4.cell (p := ⟨w.heap.size + 1, 0, none⟩) hltW).trans r0
    replace r1 := (hb4.cell (p := ⟨w.heap.size + 1, 1, none⟩) hltW).trans r1
    replace r2 := (hb4.cell (p := ⟨w.heap.size + 1, 2, none⟩) hltW).trans r2
    replace e0 := (hb4.frozen (p := ⟨w.heap.size + 1, 0, none⟩) hltW).trans e0
    replace e1 := (hb4.frozen (p := ⟨w.heap.size + 1, 1, none⟩) hltW).trans e1
    replace e2 := (hb4.frozen (p := ⟨w.heap.size + 1, 2, none⟩) hltW).trans e2
    replace hlt : w.heap.size < w4.heap.size := Nat.lt_of_lt_of_le hlt hb4.size
    have hlt4 : w.heap.size + 1 < w4.heap.size := Nat.lt_of_lt_of_le hltW hb4.size
    have HB4 := Lib.hid hb4
    have hz4 := hb4.size
    clear hb4
    go_wp2_with fail
    with_reducible refine (HFI.out _).mono ?_
    rintro e w5 ⟨v5, rfl, ho5, hb5⟩
    replace x0 := (hb5.cell (p := ⟨w.heap.size, 0, none⟩) hlt).trans x0
    replace x1 := (hb5.cell (p := ⟨w.heap.size, 1, none⟩) hlt).trans x1
    replace x2 := (hb5.cell (p := ⟨w.heap.size, 2, none⟩) hlt).trans x2
    replace r0 := (hb5.cell (p := ⟨w.heap.size + 1, 0, none⟩) hlt4).trans r0
    replace r1 := (hb5.cell (p := ⟨w.heap.size + 1, 1, none⟩) hlt4).trans r1
    replace r2 := (hb5.cell (p := ⟨w.heap.size + 1, 2, none⟩) hlt4).trans r2
    replace e0 := (hb5.frozen (p := ⟨w.heap.size + 1, 0, none⟩) hlt4).trans e0
    replace e1 := (hb5.frozen (p := ⟨w.heap.size + 1, 1, none⟩) hlt4).trans e1
    replace e2 := (hb5.frozen (p := ⟨w.heap.size + 1, 2, none⟩) hlt4).trans e2
    replace hlt : w.heap.size < w5.heap.size := Nat.lt_of_lt_of_le hlt hb5.size
    have hlt5 : w.heap.size + 1 < w5.heap.size := Nat.lt_of_lt_of_le hlt4 hb5.size
    have hz5 := hb5.size
    have HBWW := Lib.hid (HB4.out.trans (hb5.mono HB4.out.size))
    have HO5 := Lib.hid (HOW.out.below HBWW.out)
    have HG5 := Lib.hid (HBG.out.step HBWW.out)
    have HB5 := Lib.hid (HB0.out.trans ((HBW.out.trans (HBWW.out.mono HBW.out.size)).mono HB0.out.size))
    clear hb5
    obtain ⟨A5, c5, hv5, hn5, hm5, hcell5⟩ := id ho5
    rw [show (il (M.map fun i : Nat => (i : Int))).length = M.length by simp [il]] at hv5 hn5 hcell5
    subst hv5
    have HMC := Lib.hid (show ∀ (j : Nat) (h : j < M.length), ∃ b5 o5, A5 = some ⟨b5, o5, none⟩ ∧ w4.heap.size ≤ b5 ∧ b5 < w5.heap.size ∧ w5.cell? ⟨b5, o5 + j, none⟩ = some (.int .i64 ((M[j] : Nat) : Int)) from fun j h => by
      obtain ⟨b5, o5, hA5, hlo5, hbw5, hcc5, hff5⟩ := hcell5 (by omega)
      exact ⟨b5, o5, hA5, hlo5, hbw5, hcc5 j _ (by simp [il, h])⟩)
    clear hcell5 ho5
    have hMi : M.length ≤ 256 := by omega
    have hgW := HG5.out.1
    have hbk5 : bk < w5.heap.size := Nat.lt_of_lt_of_le hbw HB5.out.size
    have hgb : ¬ g = b2 := fun e => hne e.symm
    have hbb : ¬ bk = b2 := by have := HB0.out.size; omega
    have hwb : ¬ w.heap.size = b2 := by omega
    have hwr1 : ¬ w.heap.size + 1 = b2 := by omega
    have K5 := Lib.hid ((HB5.out.cell (p := ⟨k5, 0, none⟩) hk5).trans hc5)
    have hk5b : ¬ k5 = b2 := by have := HB0.out.size; omega
    have hk5w : k5 < w5.heap.size := Nat.lt_of_lt_of_le hk5 HB5.out.size
    have X2 := Lib.hid x2
    have R0 := Lib.hid r0
    have R1 := Lib.hid r1
    have R2 := Lib.hid r2
    have E0 := Lib.hid e0
    have E1 := Lib.hid e1
    have E2 := Lib.hid e2
    clear hc5 x0 x1 x2 r0 r1 r2 e0 e1 e2
    go_wp2_with fail
    go_loopw [23] (ChSR w5 w0.heap.size b2 o2 c3 b xs M) (fun i _ => M.length - (intOf i).toNat)
    case atStart => exact ⟨0, Nat.zero_le _, rfl, Tx.refl _ _, HO5.out⟩
    case round =>
      obtain ⟨j, hj, rfl, htx, ho⟩ := hrel
      have g2 : wr.cell? ⟨g, 2, none⟩ = some (.slice (some ⟨b2, o2, none⟩) xs.length c3) := (htx.cell hgW (by simp; exact hgb)).trans (HG5.out.2 2 _ rfl).1
      have x2 : wr.cell? ⟨w.heap.size, 2, none⟩ = some (.slice (some ⟨bk, off, none⟩) xs.length c) := (htx.cell hlt (by simp; exact hwb)).trans X2.out
      by_cases hjm : j < M.length
      · obtain ⟨b5, o5, rfl, hlo5, hbw5, hcc5⟩ := HMC.out j hjm
        have hmc : wr.cell? ⟨b5, o5 + j, none⟩ = some (.int .i64 ((M[j] : Nat) : Int)) := (htx.cell hbw5 (by simp; omega)).trans hcc5
        have hiM := HMX.out _ (List.getElem_mem hjm)
        have hs : wr.cell? ⟨bk, off + M[j], none⟩ = some (.float .f32 (xs.getD M[j] 0)) := (htx.cell hbk5 (by simp; exact hbb)).trans ((HB5.out.cell (p := ⟨bk, off + M[j], none⟩) hbw).trans (HSRC.out _ hiM))
        have hk5c : wr.cell? ⟨k5, 0, none⟩ = some (.float .f32 b) := (htx.cell hk5w (by simp; exact hk5b)).trans K5.out
        obtain ⟨hlo, hbw2, hcc, hff⟩ := ho.cells' (by omega)
        have hcl : (chK (sofF b) xs (M.take j)).length = xs.length := chK_len _ _ _
        have hdst : wr.cell? ⟨b2, o2 + M[j], none⟩ = some (.float .f32 ((chK (sofF b) xs (M.take j)).getD M[j] 0)) := by rw [hcc M[j] _ (fl_get _ M[j] (by omega))]; simp [List.getD, show M[j] < (chK (sofF b) xs (M.take j)).length by omega]
        have hfz := hff M[j] hiM
        have HT := Lib.hid (chK_take (sofF b) xs M j hjm)
        have HF := Lib.hid (HFX.out M[j])
        have HO := Lib.hid ho
        have HTX := Lib.hid htx
        generalize chK (sofF b) xs (M.take j) = cur at *
        generalize M[j] = i at *
        generalize cur.getD i 0 = old at *
        generalize xs.getD i 0 = u at *
        have hii : (i : Int) < (xs.length : Int) := by omega
        have hi0 : (0 : Int) ≤ (i : Int) := by omega
        have hji : (j : Int) < (M.length : Int) := by omega
        clear hcc hff htx ho hcl hcc5
        have HQ := Lib.hid (fun (W : World) (hW : W.cell? ⟨k5, 0, none⟩ = some (.float .f32 b)) => sofC_any k5 b u W hW HF.out hbf)
        go_wp2_with fail
        refine wp_region_held_drew (S := (fun w' => w'.cell? ⟨g, 2, none⟩ = some (.slice (some ⟨b2, o2, none⟩) xs.length c3) ∧ w'.cell? ⟨w.heap.size, 2, none⟩ = some (.slice (some ⟨bk, off, none⟩) xs.length c) ∧ w'.cell? ⟨bk, off + i, none⟩ = some (.float .f32 u))) (by kernel_rfl) ?_ (fun hHeld => ?_)
        · exact ⟨g2, x2, hs⟩
        refine wpAnyH_take (i := 0) (v := ?v34) rfl (by kernel_rfl) (by kernel_rfl) (by kernel_rfl) (fun _ _ _ h => h) (Or.inl ⟨by rfl, ?y34⟩) (by assumption) ?r34
        case y34 => (intro w hSw; (try dsimp only at hSw); go_simp; try (with_reducible rfl))
        (try simp only [Act.put]); (try simp only [List.setIfInBounds_toArray]); (try simp only [List.set_cons_succ]); (try simp only [List.set_cons_zero])
        refine wpAnyH_take (i := 1) (v := ?v35) rfl (by kernel_rfl) (by kernel_rfl) (by kernel_rfl) (fun _ _ _ h => h) (Or.inl ⟨by rfl, ?y35⟩) (by assumption) ?r35
        case y35 => (intro w hSw; (try dsimp only at hSw); go_simp; try (with_reducible rfl))
        (try simp only [Act.put]); (try simp only [List.setIfInBounds_toArray]); (try simp only [List.set_cons_succ]); (try simp only [List.set_cons_zero])
        refine wpAnyH_take (i := 2) (v := ?v36) rfl (by kernel_rfl) (by kernel_rfl) (by kernel_rfl) (fun _ _ _ h => h) (Or.inl ⟨by rfl, ?y36⟩) (by assumption) ?r36
        case y36 => (intro w hSw; (try dsimp only at hSw); go_simp; try (with_reducible rfl))
        (try simp only [Act.put]); (try simp only [List.setIfInBounds_toArray]); (try simp only [List.set_cons_succ]); (try simp only [List.set_cons_zero])
        refine wpAnyH_take (i := 3) (v := ?v37) rfl (by kernel_rfl) (by kernel_rfl) (by kernel_rfl) (fun _ _ _ h => h) (Or.inl ⟨by rfl, ?y37⟩) (by assumption) ?r37
        case y37 => (intro w hSw; (try dsimp only at hSw); go_simp; try (with_reducible rfl))
        (try simp only [Act.put]); (try simp only [List.setIfInBounds_toArray]); (try simp only [List.set_cons_succ]); (try simp only [List.set_cons_zero])
        refine wpAnyH_take (i := 4) (v := ?v38) rfl (by kernel_rfl) (by kernel_rfl) (by kernel_rfl) (fun _ _ _ h => h) (Or.inl ⟨by rfl, ?y38⟩) (by assumption) ?r38
        case y38 => (intro w hSw; (try dsimp only at hSw); go_simp; try (with_reducible rfl))
        (try simp only [Act.put]); (try simp only [List.setIfInBounds_toArray]); (try simp only [List.set_cons_succ]); (try simp only [List.set_cons_zero])
        refine wpAnyH_take (i := 5) (v := ?v39) rfl (by kernel_rfl) (by kernel_rfl) (by kernel_rfl) (fun _ _ _ h => h) (Or.inl ⟨by rfl, ?y39⟩) (by assumption) ?r39
        case y39 => (intro w hSw; (try dsimp only at hSw); go_simp; try (with_reducible rfl))
        (try simp only [Act.put]); (try simp only [List.setIfInBounds_toArray]); (try simp only [List.set_cons_succ]); (try simp only [List.set_cons_zero])
        refine wpAnyH_take (i := 6) (v := ?v40) rfl (by kernel_rfl) (by kernel_rfl) (by kernel_rfl) (fun _ _ _ h => h) (Or.inl ⟨by rfl, ?y40⟩) (by assumption) ?r40
        case y40 => (intro w hSw; (try dsimp only at hSw); go_simp; try (with_reducible rfl))
        (try simp only [Act.put]); (try simp only [List.setIfInBounds_toArray]); (try simp only [List.set_cons_succ]); (try simp only [List.set_cons_zero])
        refine wpAnyH_take (i := 7) (v := ?v41) rfl (by kernel_rfl) (by kernel_rfl) (by kernel_rfl) (fun _ _ _ h => h) (Or.inl ⟨by rfl, ?y41⟩) (by assumption) ?r41
        case y41 => (intro w hSw; (try dsimp only at hSw); go_simp; try (with_reducible rfl))
        (try simp only [Act.put]); (try simp only [List.setIfInBounds_toArray]); (try simp only [List.set_cons_succ]); (try simp only [List.set_cons_zero])
        refine wpAnyH_take (i := 8) (v := ?v42) rfl (by kernel_rfl) (by kernel_rfl) (by kernel_rfl) (fun _ _ _ h => h) (Or.inl ⟨by rfl, ?y42⟩) (by assumption) ?r42
        case y42 => (intro w hSw; (try dsimp only at hSw); go_simp; try (with_reducible rfl))
        (try simp only [Act.put]); (try simp only [List.setIfInBounds_toArray]); (try simp only [List.set_cons_succ]); (try simp only [List.set_cons_zero])
        refine wpAnyH_ready (rs := [9]) (by kernel_rfl) (by simp) ?_
        refine AllReadyH.cons rfl (fun K hK => ?_) AllReadyH.nil
        go_simp
        go_at_call 113
        refine (HQ.out wr.drew hk5c).mono ?_
        rintro e w6 ⟨rfl, N6, rfl⟩
        refine hK.out _ _ ?_ (fun hHeld => ?_)
        · exact ⟨g2, x2, hs⟩
        clear hK K
        (try simp only [Act.put]); (try simp only [List.setIfInBounds_toArray]); (try simp only [List.set_cons_succ]); (try simp only [List.set_cons_zero])
        refine wpAnyH_take (i := 10) (v := ?v43) rfl (by kernel_rfl) (by kernel_rfl) (by kernel_rfl) (fun _ _ _ h => h) (Or.inl ⟨by rfl, ?y43⟩) (by assumption) ?r43
        case y43 => (intro w hSw; (try dsimp only at hSw); go_simp; try (with_reducible rfl))
        (try simp only [Act.put]); (try simp only [List.setIfInBounds_toArray]); (try simp only [List.set_cons_succ]); (try simp only [List.set_cons_zero])
        refine wpAnyH_ready (rs := [11]) (by kernel_rfl) (by simp) ?_
        refine AllReadyH.cons rfl (fun K hK => ?_) AllReadyH.nil
        go_simp
        refine hK.out _ _ ?_ (fun hHeld => ?_)
        · exact ⟨ei_farO hgb g2, ei_farO hwb x2, ei_farO hbb hs⟩
        clear hK K
        (try simp only [Act.put]); (try simp only [List.setIfInBounds_toArray]); (try simp only [List.set_cons_succ]); (try simp only [List.set_cons_zero])
        refine wpAnyH_done (by kernel_rfl) ?_ _
        go_wp2_with fail
        go_roundw
        case rel => exact ⟨j + 1, by omega, by go_num, Tx.set (g := b2) (HTX.out.drewN _) (by simp) _, by rw [HT.out, ← fl_set]; exact Own.putT (w := _) (HO.out.drewN _) i hiM _⟩
        case measure => simp [intOf]; omega
      · obtain rfl : j = M.length := by omega
        rw [List.take_length] at ho
        have r0 := (htx.cell hlt5 (by simp; exact hwr1)).trans R0.out
        have r1 := (htx.cell hlt5 (by simp; exact hwr1)).trans R1.out
        have r2 := (htx.cell hlt5 (by simp; exact hwr1)).trans R2.out
        have e0 := (htx.frozen hlt5 (by simp; exact hwr1)).trans E0.out
        have e1 := (htx.frozen hlt5 (by simp; exact hwr1)).trans E1.out
        have e2 := (htx.frozen hlt5 (by simp; exact hwr1)).trans E2.out
        have g0' : wr.cell? ⟨g, 0, none⟩ = some (.int .i64 p) := (htx.cell hgW (by simp; exact hgb)).trans (HG5.out.2 0 _ rfl).1
        have g1' : wr.cell? ⟨g, 1, none⟩ = some (.int .i64 q) := (htx.cell hgW (by simp; exact hgb)).trans (HG5.out.2 1 _ rfl).1
        have HOF := Lib.hid ((((ho.setLess (a := ⟨w.heap.size + 1, 0, none⟩) hltr (.int .i64 p)).setLess (a := ⟨w.heap.size + 1, 1, none⟩) hltr (.int .i64 q)).setLess (a := ⟨w.heap.size + 1, 2, none⟩) hltr (.slice (some ⟨b2, o2, none⟩) xs.length c3)).less (lo' := w.heap.size) HB0.out.size)
        have HBE := Lib.hid (HB5.out.trans (htx.below HB5.out.size (fun k hk => by simp at hk; subst hk; exact Nat.le_trans HB0.out.size hb20)))
        have HB := Lib.hid (((HBE.out.setCell (p := ⟨w.heap.size + 1, 0, none⟩) (by show w.heap.size ≤ w.heap.size + 1; omega) (.int .i64 p)).setCell (p := ⟨w.heap.size + 1, 1, none⟩) (by show w.heap.size ≤ w.heap.size + 1; omega) (.int .i64 q)).setCell (p := ⟨w.heap.size + 1, 2, none⟩) (by show w.heap.size ≤ w.heap.size + 1; omega) (.slice (some ⟨b2, o2, none⟩) xs.length c3))
        clear ho htx
        go_wp2_with fail
        exact bodyPost_ret (v := .agg #[.int .i64 p, .int .i64 q, .slice (some ⟨b2, o2, none⟩) xs.length c3]) (by simp [results, Try.results110, go_sem, r0, r1, r2]) rfl ⟨_, rfl, HOF.out, HB.out⟩
  · go_simp
    refine hK.out _ _ ?_ (fun hHeld => ?_)
    · rw [hZ] at y0 y1 y2; exact ⟨y0, y1, y2⟩
    clear hK K
    (try simp only [Act.put]); (try simp only [List.setIfInBounds_toArray]); (try simp only [List.set_cons_succ]); (try simp only [List.set_cons_zero])
    refine wpAnyH_ready (rs := [6]) (by kernel_rfl) (by simp) ?_
    refine AllReadyH.cons rfl (fun K hK => ?_) AllReadyH.nil
    go_simp
    go_at_call 82
    refine HCA.out.mono ?_
    rintro e w3 ⟨b2, o2, c3, rfl, ho3, hb3Z⟩
    have c0' := (hb3Z.cell (p := ⟨w.heap.size, 0, none⟩) hltZ).trans y0
    have c1' := (hb3Z.cell (p := ⟨w.heap.size, 1, none⟩) hltZ).trans y1
    have c2' := (hb3Z.cell (p := ⟨w.heap.size, 2, none⟩) hltZ).trans y2
    have HX3 := Lib.hid (HBX.out.step hb3Z)
    have ⟨d0, d1, d2, f0, f1, f2⟩ := bx_three HX3.out
    have HO3 := Lib.hid ho3
    have HBT := Lib.hid (HBZ.out.trans (hb3Z.mono HBZ.out.size))
    clear ho3 hb3Z
    refine hK.out _ _ ?_ (fun hHeld => ?_)
    · exact ⟨c0', c1', c2'⟩
    clear hK K
    (try simp only [Act.put]); (try simp only [List.setIfInBounds_toArray]); (try simp only [List.set_cons_succ]); (try simp only [List.set_cons_zero])
    refine wpAnyH_take (i := 7) (v := ?v33) rfl (by kernel_rfl) (by kernel_rfl) (by kernel_rfl) (fun _ _ _ h => h) (Or.inl ⟨by rfl, ?y33⟩) (by assumption) ?r33
    case y33 => (intro w hSw; (try dsimp only at hSw); go_simp; try (with_reducible rfl))
    (try simp only [Act.put]); (try simp only [List.setIfInBounds_toArray]); (try simp only [List.set_cons_succ]); (try simp only [List.set_cons_zero])
    refine wpAnyH_ready (rs := [9]) (by kernel_rfl) (by simp) ?_
    refine AllReadyH.cons rfl (fun K hK => ?_) AllReadyH.nil
    have hwg : ¬ w.heap.size = w0.heap.size := by omega
    go_simp
    refine hK.out _ _ ?_ (fun hHeld => ?_)
    · exact ⟨ei_farO hwg (ei_farO hwg (ei_farO hwg c0')), ei_farO hwg (ei_farO hwg (ei_farO hwg c1')), ei_farO hwg (ei_farO hwg (ei_farO hwg c2'))⟩
    clear hK K
    (try simp only [Act.put]); (try simp only [List.setIfInBounds_toArray]); (try simp only [List.set_cons_succ]); (try simp only [List.set_cons_zero])
    refine wpAnyH_done (by kernel_rfl) ?_ _
    have HCW := Lib.hid (chb_one (p := p) (q := q) (L := xs) HX3.out (Nat.le_refl _) HO3.out hnn HBT.out)
    clear d0 d1 d2 f0 f1 f2 HX3 HCA HCB2 z0 z1 z2 zf0 zf1 zf2 y0 y1 y2
    generalize ((w3.setCell ⟨w0.heap.size, 0, none⟩ (.int .i64 p)).setCell ⟨w0.heap.size, 1, none⟩ (.int .i64 q)).setCell ⟨w0.heap.size, 2, none⟩ (.slice (some ⟨b2, o2, none⟩) xs.length c3) = W at *
    obtain ⟨g, hgd⟩ : ∃ g, g = w0.heap.size := ⟨_, rfl⟩
    rw [← hgd] at HCW ⊢
    have HGD := Lib.hid hgd
    clear hgd
    clear HO3 HBT c0' c1' c2' hw0
    have hBW := HCW.out.2.2.2.2.2.2
    have HBW := Lib.hid hBW
    obtain ⟨hBXg, hOW, hg0, hb20, hne, hb2W, -⟩ := id HCW.out
    have HBG := Lib.hid hBXg
    have HOW := Lib.hid hOW
    clear hBXg hOW
    replace x0 := (hBW.cell (p := ⟨w.heap.size, 0, none⟩) hlt).trans x0
    replace x1 := (hBW.cell (p := ⟨w.heap.size, 1, none⟩) hlt).trans x1
    replace x2 := (hBW.cell (p := ⟨w.heap.size, 2, none⟩) hlt).trans x2
    replace r0 := (hBW.cell (p := ⟨w.heap.size + 1, 0, none⟩) hltr).trans r0
    replace r1 := (hBW.cell (p := ⟨w.heap.size + 1, 1, none⟩) hltr).trans r1
    replace r2 := (hBW.cell (p := ⟨w.heap.size + 1, 2, none⟩) hltr).trans r2
    replace e0 := (hBW.frozen (p := ⟨w.heap.size + 1, 0, none⟩) hltr).trans e0
    replace e1 := (hBW.frozen (p := ⟨w.heap.size + 1, 1, none⟩) hltr).trans e1
    replace e2 := (hBW.frozen (p := ⟨w.heap.size + 1, 2, none⟩) hltr).trans e2
    replace hlt : w.heap.size < W.heap.size := Nat.lt_of_lt_of_le hlt hBW.size
    have hltW : w.heap.size + 1 < W.heap.size := Nat.lt_of_lt_of_le hltr hBW.size
    clear hBW
    go_wp2_with fail
    with_reducible refine (sid_any p q (some ⟨bk, off, none⟩) xs.length c _).mono ?_
    rintro e w4 ⟨rfl, hb4⟩
    replace x0 := (hb4.cell (p := ⟨w.heap.size, 0, none⟩) hlt).trans x0
    replace x1 := (hb4.cell (p := ⟨w.heap.size, 1, none⟩) hlt).trans x1
    replace x2 := (hb4.cell (p := ⟨w.heap.size, 2, none⟩) hlt).trans x2
    replace r0 := (hb4.cell (p := ⟨w.heap.size + 1, 0, none⟩) hltW).trans r0
    replace r1 := (hb4.cell (p := ⟨w.heap.size + 1, 1, none⟩) hltW).trans r1
    replace r2 := (hb4.cell (p := ⟨w.heap.size + 1, 2, none⟩) hltW).trans r2
    replace e0 := (hb4.frozen (p := ⟨w.heap.size + 1, 0, none⟩) hltW).trans e0
    replace e1 := (hb4.frozen (p := ⟨w.heap.size + 1, 1, none⟩) hltW).trans e1
    replace e2 := (hb4.frozen (p := ⟨w.heap.size + 1, 2, none⟩) hltW).trans e2
    replace hlt : w.heap.size < w4.heap.size := Nat.lt_of_lt_of_le hlt hb4.size
    have hlt4 : w.heap.size + 1 < w4.heap.size := Nat.lt_of_lt_of_le hltW hb4.size
    have HB4 := Lib.hid hb4
    have hz4 := hb4.size
    clear hb4
    go_wp2_with fail
    with_reducible refine (HFI.out _).mono ?_
    rintro e w5 ⟨v5, rfl, ho5, hb5⟩
    replace x0 := (hb5.cell (p := ⟨w.heap.size, 0, none⟩) hlt).trans x0
    replace x1 := (hb5.cell (p := ⟨w.heap.size, 1, none⟩) hlt).trans x1
    replace x2 := (hb5.cell (p := ⟨w.heap.size, 2, none⟩) hlt).trans x2
    replace r0 := (hb5.cell (p := ⟨w.heap.size + 1, 0, none⟩) hlt4).trans r0
    replace r1 := (hb5.cell (p := ⟨w.heap.size + 1, 1, none⟩) hlt4).trans r1
    replace r2 := (hb5.cell (p := ⟨w.heap.size + 1, 2, none⟩) hlt4).trans r2
    replace e0 := (hb5.frozen (p := ⟨w.heap.size + 1, 0, none⟩) hlt4).trans e0
    replace e1 := (hb5.frozen (p := ⟨w.heap.size + 1, 1, none⟩) hlt4).trans e1
    replace e2 := (hb5.frozen (p := ⟨w.heap.size + 1, 2, none⟩) hlt4).trans e2
    replace hlt : w.heap.size < w5.heap.size := Nat.lt_of_lt_of_le hlt hb5.size
    have hlt5 : w.heap.size + 1 < w5.heap.size := Nat.lt_of_lt_of_le hlt4 hb5.size
    have hz5 := hb5.size
    have HBWW := Lib.hid (HB4.out.trans (hb5.mono HB4.out.size))
    have HO5 := Lib.hid (HOW.out.below HBWW.out)
    have HG5 := Lib.hid (HBG.out.step HBWW.out)
    have HB5 := Lib.hid (HB0.out.trans ((HBW.out.trans (HBWW.out.mono HBW.out.size)).mono HB0.out.size))
    clear hb5
    obtain ⟨A5, c5, hv5, hn5, hm5, hcell5⟩ := id ho5
    rw [show (il (M.map fun i : Nat => (i : Int))).length = M.length by simp [il]] at hv5 hn5 hcell5
    subst hv5
    have HMC := Lib.hid (show ∀ (j : Nat) (h : j < M.length), ∃ b5 o5, A5 = some ⟨b5, o5, none⟩ ∧ w4.heap.size ≤ b5 ∧ b5 < w5.heap.size ∧ w5.cell? ⟨b5, o5 + j, none⟩ = some (.int .i64 ((M[j] : Nat) : Int)) from fun j h => by
      obtain ⟨b5, o5, hA5, hlo5, hbw5, hcc5, hff5⟩ := hcell5 (by omega)
      exact ⟨b5, o5, hA5, hlo5, hbw5, hcc5 j _ (by simp [il, h])⟩)
    clear hcell5 ho5
    have hMi : M.length ≤ 256 := by omega
    have hgW := HG5.out.1
    have hbk5 : bk < w5.heap.size := Nat.lt_of_lt_of_le hbw HB5.out.size
    have hgb : ¬ g = b2 := fun e => hne e.symm
    have hbb : ¬ bk = b2 := by have := HB0.out.size; omega
    have hwb : ¬ w.heap.size = b2 := by omega
    have hwr1 : ¬ w.heap.size + 1 = b2 := by omega
    have K5 := Lib.hid ((HB5.out.cell (p := ⟨k5, 0, none⟩) hk5).trans hc5)
    have hk5b : ¬ k5 = b2 := by have := HB0.out.size; omega
    have hk5w : k5 < w5.heap.size := Nat.lt_of_lt_of_le hk5 HB5.out.size
    have X2 := Lib.hid x2
    have R0 := Lib.hid r0
    have R1 := Lib.hid r1
    have R2 := Lib.hid r2
    have E0 := Lib.hid e0
    have E1 := Lib.hid e1
    have E2 := Lib.hid e2
    clear hc5 x0 x1 x2 r0 r1 r2 e0 e1 e2
    go_wp2_with fail
    go_loopw [23] (ChSR w5 w0.heap.size b2 o2 c3 b xs M) (fun i _ => M.length - (intOf i).toNat)
    case atStart => exact ⟨0, Nat.zero_le _, rfl, Tx.refl _ _, HO5.out⟩
    case round =>
      obtain ⟨j, hj, rfl, htx, ho⟩ := hrel
      have g2 : wr.cell? ⟨g, 2, none⟩ = some (.slice (some ⟨b2, o2, none⟩) xs.length c3) := (htx.cell hgW (by simp; exact hgb)).trans (HG5.out.2 2 _ rfl).1
      have x2 : wr.cell? ⟨w.heap.size, 2, none⟩ = some (.slice (some ⟨bk, off, none⟩) xs.length c) := (htx.cell hlt (by simp; exact hwb)).trans X2.out
      by_cases hjm : j < M.length
      · obtain ⟨b5, o5, rfl, hlo5, hbw5, hcc5⟩ := HMC.out j hjm
        have hmc : wr.cell? ⟨b5, o5 + j, none⟩ = some (.int .i64 ((M[j] : Nat) : Int)) := (htx.cell hbw5 (by simp; omega)).trans hcc5
        have hiM := HMX.out _ (List.getElem_mem hjm)
        have hs : wr.cell? ⟨bk, off + M[j], none⟩ = some (.float .f32 (xs.getD M[j] 0)) := (htx.cell hbk5 (by simp; exact hbb)).trans ((HB5.out.cell (p := ⟨bk, off + M[j], none⟩) hbw).trans (HSRC.out _ hiM))
        have hk5c : wr.cell? ⟨k5, 0, none⟩ = some (.float .f32 b) := (htx.cell hk5w (by simp; exact hk5b)).trans K5.out
        obtain ⟨hlo, hbw2, hcc, hff⟩ := ho.cells' (by omega)
        have hcl : (chK (sofF b) xs (M.take j)).length = xs.length := chK_len _ _ _
        have hdst : wr.cell? ⟨b2, o2 + M[j], none⟩ = some (.float .f32 ((chK (sofF b) xs (M.take j)).getD M[j] 0)) := by rw [hcc M[j] _ (fl_get _ M[j] (by omega))]; simp [List.getD, show M[j] < (chK (sofF b) xs (M.take j)).length by omega]
        have hfz := hff M[j] hiM
        have HT := Lib.hid (chK_take (sofF b) xs M j hjm)
        have HF := Lib.hid (HFX.out M[j])
        have HO := Lib.hid ho
        have HTX := Lib.hid htx
        generalize chK (sofF b) xs (M.take j) = cur at *
        generalize M[j] = i at *
        generalize cur.getD i 0 = old at *
        generalize xs.getD i 0 = u at *
        have hii : (i : Int) < (xs.length : Int) := by omega
        have hi0 : (0 : Int) ≤ (i : Int) := by omega
        have hji : (j : Int) < (M.length : Int) := by omega
        clear hcc hff htx ho hcl hcc5
        have HQ := Lib.hid (fun (W : World) (hW : W.cell? ⟨k5, 0, none⟩ = some (.float .f32 b)) => sofC_any k5 b u W hW HF.out hbf)
        go_wp2_with fail
        refine wp_region_held_drew (S := (fun w' => w'.cell? ⟨g, 2, none⟩ = some (.slice (some ⟨b2, o2, none⟩) xs.length c3) ∧ w'.cell? ⟨w.heap.size, 2, none⟩ = some (.slice (some ⟨bk, off, none⟩) xs.length c) ∧ w'.cell? ⟨bk, off + i, none⟩ = some (.float .f32 u))) (by kernel_rfl) ?_ (fun hHeld => ?_)
        · exact ⟨g2, x2, hs⟩
        refine wpAnyH_take (i := 0) (v := ?v44) rfl (by kernel_rfl) (by kernel_rfl) (by kernel_rfl) (fun _ _ _ h => h) (Or.inl ⟨by rfl, ?y44⟩) (by assumption) ?r44
        case y44 => (intro w hSw; (try dsimp only at hSw); go_simp; try (with_reducible rfl))
        (try simp only [Act.put]); (try simp only [List.setIfInBounds_toArray]); (try simp only [List.set_cons_succ]); (try simp only [List.set_cons_zero])
        refine wpAnyH_take (i := 1) (v := ?v45) rfl (by kernel_rfl) (by kernel_rfl) (by kernel_rfl) (fun _ _ _ h => h) (Or.inl ⟨by rfl, ?y45⟩) (by assumption) ?r45
        case y45 => (intro w hSw; (try dsimp only at hSw); go_simp; try (with_reducible rfl))
        (try simp only [Act.put]); (try simp only [List.setIfInBounds_toArray]); (try simp only [List.set_cons_succ]); (try simp only [List.set_cons_zero])
        refine wpAnyH_take (i := 2) (v := ?v46) rfl (by kernel_rfl) (by kernel_rfl) (by kernel_rfl) (fun _ _ _ h => h) (Or.inl ⟨by rfl, ?y46⟩) (by assumption) ?r46
        case y46 => (intro w hSw; (try dsimp only at hSw); go_simp; try (with_reducible rfl))
        (try simp only [Act.put]); (try simp only [List.setIfInBounds_toArray]); (try simp only [List.set_cons_succ]); (try simp only [List.set_cons_zero])
        refine wpAnyH_take (i := 3) (v := ?v47) rfl (by kernel_rfl) (by kernel_rfl) (by kernel_rfl) (fun _ _ _ h => h) (Or.inl ⟨by rfl, ?y47⟩) (by assumption) ?r47
        case y47 => (intro w hSw; (try dsimp only at hSw); go_simp; try (with_reducible rfl))
        (try simp only [Act.put]); (try simp only [List.setIfInBounds_toArray]); (try simp only [List.set_cons_succ]); (try simp only [List.set_cons_zero])
        refine wpAnyH_take (i := 4) (v := ?v48) rfl (by kernel_rfl) (by kernel_rfl) (by kernel_rfl) (fun _ _ _ h => h) (Or.inl ⟨by rfl, ?y48⟩) (by assumption) ?r48
        case y48 => (intro w hSw; (try dsimp only at hSw); go_simp; try (with_reducible rfl))
        (try simp only [Act.put]); (try simp only [List.setIfInBounds_toArray]); (try simp only [List.set_cons_succ]); (try simp only [List.set_cons_zero])
        refine wpAnyH_take (i := 5) (v := ?v49) rfl (by kernel_rfl) (by kernel_rfl) (by kernel_rfl) (fun _ _ _ h => h) (Or.inl ⟨by rfl, ?y49⟩) (by assumption) ?r49
        case y49 => (intro w hSw; (try dsimp only at hSw); go_simp; try (with_reducible rfl))
        (try simp only [Act.put]); (try simp only [List.setIfInBounds_toArray]); (try simp only [List.set_cons_succ]); (try simp only [List.set_cons_zero])
        refine wpAnyH_take (i := 6) (v := ?v50) rfl (by kernel_rfl) (by kernel_rfl) (by kernel_rfl) (fun _ _ _ h => h) (Or.inl ⟨by rfl, ?y50⟩) (by assumption) ?r50
        case y50 => (intro w hSw; (try dsimp only at hSw); go_simp; try (with_reducible rfl))
        (try simp only [Act.put]); (try simp only [List.setIfInBounds_toArray]); (try simp only [List.set_cons_succ]); (try simp only [List.set_cons_zero])
        refine wpAnyH_take (i := 7) (v := ?v51) rfl (by kernel_rfl) (by kernel_rfl) (by kernel_rfl) (fun _ _ _ h => h) (Or.inl ⟨by rfl, ?y51⟩) (by assumption) ?r51
        case y51 => (intro w hSw; (try dsimp only at hSw); go_simp; try (with_reducible rfl))
        (try simp only [Act.put]); (try simp only [List.setIfInBounds_toArray]); (try simp only [List.set_cons_succ]); (try simp only [List.set_cons_zero])
        refine wpAnyH_take (i := 8) (v := ?v52) rfl (by kernel_rfl) (by kernel_rfl) (by kernel_rfl) (fun _ _ _ h => h) (Or.inl ⟨by rfl, ?y52⟩) (by assumption) ?r52
        case y52 => (intro w hSw; (try dsimp only at hSw); go_simp; try (with_reducible rfl))
        (try simp only [Act.put]); (try simp only [List.setIfInBounds_toArray]); (try simp only [List.set_cons_succ]); (try simp only [List.set_cons_zero])
        refine wpAnyH_ready (rs := [9]) (by kernel_rfl) (by simp) ?_
        refine AllReadyH.cons rfl (fun K hK => ?_) AllReadyH.nil
        go_simp
        go_at_call 113
        refine (HQ.out wr.drew hk5c).mono ?_
        rintro e w6 ⟨rfl, N6, rfl⟩
        refine hK.out _ _ ?_ (fun hHeld => ?_)
        · exact ⟨g2, x2, hs⟩
        clear hK K
        (try simp only [Act.put]); (try simp only [List.setIfInBounds_toArray]); (try simp only [List.set_cons_succ]); (try simp only [List.set_cons_zero])
        refine wpAnyH_take (i := 10) (v := ?v53) rfl (by kernel_rfl) (by kernel_rfl) (by kernel_rfl) (fun _ _ _ h => h) (Or.inl ⟨by rfl, ?y53⟩) (by assumption) ?r53
        case y53 => (intro w hSw; (try dsimp only at hSw); go_simp; try (with_reducible rfl))
        (try simp only [Act.put]); (try simp only [List.setIfInBounds_toArray]); (try simp only [List.set_cons_succ]); (try simp only [List.set_cons_zero])
        refine wpAnyH_ready (rs := [11]) (by kernel_rfl) (by simp) ?_
        refine AllReadyH.cons rfl (fun K hK => ?_) AllReadyH.nil
        go_simp
        refine hK.out _ _ ?_ (fun hHeld => ?_)
        · exact ⟨ei_farO hgb g2, ei_farO hwb x2, ei_farO hbb hs⟩
        clear hK K
        (try simp only [Act.put]); (try simp only [List.setIfInBounds_toArray]); (try simp only [List.set_cons_succ]); (try simp only [List.set_cons_zero])
        refine wpAnyH_done (by kernel_rfl) ?_ _
        go_wp2_with fail
        go_roundw
        case rel => exact ⟨j + 1, by omega, by go_num, Tx.set (g := b2) (HTX.out.drewN _) (by simp) _, by rw [HT.out, ← fl_set]; exact Own.putT (w := _) (HO.out.drewN _) i hiM _⟩
        case measure => simp [intOf]; omega
      · obtain rfl : j = M.length := by omega
        rw [List.take_length] at ho
        have r0 := (htx.cell hlt5 (by simp; exact hwr1)).trans R0.out
        have r1 := (htx.cell hlt5 (by simp; exact hwr1)).trans R1.out
        have r2 := (htx.cell hlt5 (by simp; exact hwr1)).trans R2.out
        have e0 := (htx.frozen hlt5 (by simp; exact hwr1)).trans E0.out
        have e1 := (htx.frozen hlt5 (by simp; exact hwr1)).trans E1.out
        have e2 := (htx.frozen hlt5 (by simp; exact hwr1)).trans E2.out
        have g0' : wr.cell? ⟨g, 0, none⟩ = some (.int .i64 p) := (htx.cell hgW (by simp; exact hgb)).trans (HG5.out.2 0 _ rfl).1
        have g1' : wr.cell? ⟨g, 1, none⟩ = some (.int .i64 q) := (htx.cell hgW (by simp; exact hgb)).trans (HG5.out.2 1 _ rfl).1
        have HOF := Lib.hid ((((ho.setLess (a := ⟨w.heap.size + 1, 0, none⟩) hltr (.int .i64 p)).setLess (a := ⟨w.heap.size + 1, 1, none⟩) hltr (.int .i64 q)).setLess (a := ⟨w.heap.size + 1, 2, none⟩) hltr (.slice (some ⟨b2, o2, none⟩) xs.length c3)).less (lo' := w.heap.size) HB0.out.size)
        have HBE := Lib.hid (HB5.out.trans (htx.below HB5.out.size (fun k hk => by simp at hk; subst hk; exact Nat.le_trans HB0.out.size hb20)))
        have HB := Lib.hid (((HBE.out.setCell (p := ⟨w.heap.size + 1, 0, none⟩) (by show w.heap.size ≤ w.heap.size + 1; omega) (.int .i64 p)).setCell (p := ⟨w.heap.size + 1, 1, none⟩) (by show w.heap.size ≤ w.heap.size + 1; omega) (.int .i64 q)).setCell (p := ⟨w.heap.size + 1, 2, none⟩) (by show w.heap.size ≤ w.heap.size + 1; omega) (.slice (some ⟨b2, o2, none⟩) xs.length c3))
        clear ho htx
        go_wp2_with fail
        exact bodyPost_ret (v := .agg #[.int .i64 p, .int .i64 q, .slice (some ⟨b2, o2, none⟩) xs.length c3]) (by simp [results, Try.results110, go_sem, r0, r1, r2]) rfl ⟨_, rfl, HOF.out, HB.out⟩
end Go.Proofs.Ytfbdmhkmkmbipaa
