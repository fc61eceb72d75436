/-
  Lights that are small: what is left, how many there are (closure of the program too).
  Contract: the picture in which small pixels that are not coarse are nothing, by the program.
-/
import Derived.Test.YtfbdmhkmkmbipaaTxK
import Derived.Test.YtfbdmhkmkmbipaaSfK
import Derived.Test.YtfbdmhkmkmbipaaAbs
import Derived.Deep.QuietTactic
import Derived.BigQuiet
import Derived.Test.YtfbdmhkmkmbipaaCfS
namespace Go.Proofs.Ytfbdmhkmkmbipaa
open Go.RowKit Fl
set_option linter.unusedVariables false
set_option maxRecDepth 100000

theorem Tx.setFar {bs : List Nat} {a b : World} (h : Tx bs a b) {g o : Nat} (hg : a.heap.size ≤ g) (x : Value) : Tx bs a (b.setCell ⟨g, o, none⟩ x) :=
  ⟨h.os, h.tape, h.output, by simpa [World.setCell] using h.size, fun k hk hh => (Below.heap_setCell _ _ _ _ (by show k ≠ g; omega)).trans (h.block k hk hh)⟩
theorem tx_out {w w5 wr : World} {b2 k9 : Nat} (hb : Below w.heap.size w w5) (ht : Tx [b2, k9] w5 wr) (h2 : w.heap.size ≤ b2) : Tx [k9] w wr :=
  ⟨ht.os.trans hb.os, ht.tape.trans hb.tape, ht.output.trans hb.output, Nat.le_trans hb.size ht.size, fun k hk hh => (ht.block k (Nat.lt_of_lt_of_le hk hb.size) (by simp at hh ⊢; exact ⟨by omega, hh⟩)).trans (hb.block k hk)⟩
theorem tx_set3 {bs : List Nat} {a b : World} (h : Tx bs a b) {g o0 o1 o2 : Nat} (hg : a.heap.size ≤ g) (x y z : Value) : Tx bs a (((b.setCell ⟨g, o0, none⟩ x).setCell ⟨g, o1, none⟩ y).setCell ⟨g, o2, none⟩ z) := ((h.setFar hg x).setFar hg y).setFar hg z
def quiF (b x : Nat) : Nat := if gt32 (x % 2 ^ 31) b then x else 0
theorem quiF_gt {b x : Nat} (h : gt32 (x % 2 ^ 31) b = true) : quiF b x = x := by unfold quiF; rw [h]; rfl
theorem quiF_le {b x : Nat} (h : gt32 (x % 2 ^ 31) b = false) : quiF b x = 0 := by unfold quiF; rw [h]; rfl
def quN (b : Nat) (xs M : List Nat) : Nat := (M.filter fun i => !gt32 (xs.getD i 0 % 2 ^ 31) b).length
theorem quN_app (b : Nat) (xs M : List Nat) (i : Nat) : quN b xs (M ++ [i]) = quN b xs M + if gt32 (xs.getD i 0 % 2 ^ 31) b then 0 else 1 := by
  unfold quN
  rw [List.filter_append, List.length_append]
  congr 1
  cases h : gt32 (xs.getD i 0 % 2 ^ 31) b with
  | true => simp only [List.filter, h, Bool.not_true]; rfl
  | false => simp only [List.filter, h, Bool.not_false]; rfl
theorem quN_take (b : Nat) (xs M : List Nat) (j : Nat) (h : j < M.length) : quN b xs (M.take (j + 1)) = quN b xs (M.take j) + if gt32 (xs.getD M[j] 0 % 2 ^ 31) b then 0 else 1 := by
  rw [List.take_succ_eq_append_getElem h, quN_app]
theorem quN_le (b : Nat) (xs M : List Nat) : quN b xs M ≤ M.length := List.length_filter_le _ _
theorem quN_gt {b u n : Nat} (h : gt32 (u % 2 ^ 31) b = true) : (n + if gt32 (u % 2 ^ 31) b then 0 else 1) = n := by rw [h]; rfl
theorem quN_le1 {b u n : Nat} (h : gt32 (u % 2 ^ 31) b = false) : (n + if gt32 (u % 2 ^ 31) b then 0 else 1) = n + 1 := by rw [h]; rfl
theorem le_notgt {x b : Nat} (hx : finB .f32 x = true) (hb : finB .f32 b = true) : leB x b = !gt32 x b := by
  obtain ⟨s, m, e, hr⟩ := fin_num hx
  obtain ⟨t, n, j, hl⟩ := fin_num hb
  unfold leB gt32
  rw [order_num hr hl, cmp_lt_iff, cmp_eq_iff, cmp_gt_iff, ← Bool.decide_or, ← decide_not]
  congr 1
  apply propext
  omega
set_option maxHeartbeats 1000000 in
theorem quiC_gt (k5 k9 b u : Nat) (w : World) (h5 : w.cell? ⟨k5, 0, none⟩ = some (.float .f32 b)) (hf : finB .f32 u = true) (hg : gt32 (u % 2 ^ 31) b = true) :
    Calls Try.prog 111 #[.float .f32 u, .pointer (some ⟨k5, 0, none⟩), .pointer (some ⟨k9, 0, none⟩)] w (fun e w' => e = .returned (.float .f32 u) ∧ ∃ N, w' = w.drewN N) := by
  have HQ := Lib.hid (fun a => (absI_fin u (w.drewN a) hf).mono (R' := fun e w'' => e = .returned (.float .f32 (u % 2 ^ 31)) ∧ ∃ q, w'' = w.drewN q) fun e w' ⟨he, n, hw⟩ => ⟨he, a + n, by rw [hw, World.drewN_drewN]⟩)
  generalize u % 2 ^ 31 = X at *
  have hg' : (FloatKind.f32.format.order X b == some .gt) = true := hg
  clear hg hf
  go_enter Try.func111, Try.ntmps111
  go_wp2_with fail
  go_quiet (exact HQ.out _)
  go_wp2
  go_ret
  exact ⟨rfl, _, rfl⟩
set_option maxHeartbeats 1000000 in
theorem quiC_le (k5 k9 b u cn m : Nat) (w : World) (h5 : w.cell? ⟨k5, 0, none⟩ = some (.float .f32 b)) (h9 : w.cell? ⟨k9, 0, none⟩ = some (.int .i64 (cn : Int))) (h9f : w.frozen? ⟨k9, 0, none⟩ = false) (hf : finB .f32 u = true) (hcn : cn ≤ 256) (hm : m = cn + 1) (hg : gt32 (u % 2 ^ 31) b = false) :
    Calls Try.prog 111 #[.float .f32 u, .pointer (some ⟨k5, 0, none⟩), .pointer (some ⟨k9, 0, none⟩)] w (fun e w' => e = .returned (.float .f32 0) ∧ ∃ N, w' = (w.drewN N).setCell ⟨k9, 0, none⟩ (.int .i64 (m : Int))) := by
  have HQ := Lib.hid (fun a => (absI_fin u (w.drewN a) hf).mono (R' := fun e w'' => e = .returned (.float .f32 (u % 2 ^ 31)) ∧ ∃ q, w'' = w.drewN q) fun e w' ⟨he, n, hw⟩ => ⟨he, a + n, by rw [hw, World.drewN_drewN]⟩)
  generalize u % 2 ^ 31 = X at *
  have hg' : (FloatKind.f32.format.order X b == some .gt) = false := hg
  have hwr : IntKind.i64.wrap ((cn : Int) + 1) = (m : Int) := by rw [IntKind.wrap_i64]; omega
  clear hg hf hm
  go_enter Try.func111, Try.ntmps111
  go_wp2_with fail
  go_quiet (exact HQ.out _)
  go_wp2
  go_ret
  exact ⟨rfl, _, rfl⟩
def RetAgQ (P Q : Int) (L : List Nat) (k9 : Nat) (n : Int) (w : World) (e : Ending) (w' : World) : Prop := ∃ v, e = .returned (.agg #[.int .i64 P, .int .i64 Q, v]) ∧ Own w' w.heap.size v (fl L) ∧ Tx [k9] w w' ∧ w'.cell? ⟨k9, 0, none⟩ = some (.int .i64 n)
def RetPcN (P Q : Int) (L : List Nat) (n : Int) (b : Bool) (w : World) (e : Ending) (w' : World) : Prop := ∃ v, e = .returned (.tuple #[.agg #[.int .i64 P, .int .i64 Q, v], .int .i64 n, .bool b]) ∧ Own w' w.heap.size v (fl L) ∧ Below w.heap.size w w'
theorem retPcN_no (w w' : World) (h : Below w.heap.size w w') : RetPcN 0 0 [] 0 false w (.returned (.tuple #[.agg #[.int .i64 0, .int .i64 0, .slice none 0 0], .int .i64 0, .bool false])) w' := ⟨_, rfl, own_none _ _, h⟩
def RetPsN (P Q : Int) (L : List Nat) (n : Int) (b : Bool) (w : World) (e : Ending) (w' : World) : Prop :=
  ∃ A c, e = .returned (.tuple #[.agg #[.int .i64 P, .int .i64 Q, .slice A L.length c], .int .i64 n, .bool b]) ∧ Own w' w.heap.size (.slice A L.length c) (fl L) ∧ Below w.heap.size w w'
theorem retPsN {P Q : Int} {L : List Nat} {n : Int} {b : Bool} {w w' : World} {e : Ending} (h : RetPcN P Q L n b w e w') : RetPsN P Q L n b w e w' := by
  obtain ⟨v, he, ho, hb⟩ := h
  obtain ⟨A, c, hv, _, _, _⟩ := id ho
  rw [fl_len] at hv
  subst hv
  exact ⟨A, c, he, ho, hb⟩
def quV (p q : Int) (xs : List Nat) (l : Int) (b : Nat) : List Nat := if sfB p q xs l b then chK (quiF b) xs (rpL p q l) else []
def quC (p q : Int) (xs : List Nat) (l : Int) (b : Nat) : Int := if sfB p q xs l b then ((quN b xs (rpL p q l) : Nat) : Int) else 0
def RetQu (p q : Int) (xs : List Nat) (l : Int) (b : Nat) (w : World) : Ending → World → Prop := RetPcN (crP (sfB p q xs l b) p) (crP (sfB p q xs l b) q) (quV p q xs l b) (quC p q xs l b) (sfB p q xs l b) w
theorem retQu_no {p q l : Int} {xs : List Nat} {b : Nat} {w : World} (h : sfB p q xs l b = false) : RetQu p q xs l b w = RetPcN 0 0 [] 0 false w := by
  unfold RetQu quV quC crP; rw [h]; rfl
theorem retQu_yes {p q l : Int} {xs : List Nat} {b : Nat} {w : World} (h : sfB p q xs l b = true) : RetQu p q xs l b w = RetPcN p q (chK (quiF b) xs (rpL p q l)) ((quN b xs (rpL p q l) : Nat) : Int) true w := by
  unfold RetQu quV quC crP; rw [h]; rfl
theorem quV_len (p q : Int) (xs : List Nat) (l : Int) (b : Nat) : (quV p q xs l b).length ≤ 1048576 := by
  unfold quV
  split
  · rename_i h
    unfold sfB at h
    rw [Bool.and_eq_true, Bool.and_eq_true] at h
    obtain ⟨b1, b2, hl, -⟩ := vpcB_out h.1.1
    have := mul_bd b1 b2
    rw [chK_len]; omega
  · simp
end Go.Proofs.Ytfbdmhkmkmbipaa
namespace Go.Proofs.Ytfbdmhkmkmbipaa
open Go.RowKit Fl
set_option linter.unusedVariables false
set_option maxRecDepth 100000

def ChQR (w5 : World) (lo b2 o2 c3 k9 b : Nat) (xs M : List Nat) (i : Value) (wr : World) : Prop := ∃ j : Nat, j ≤ M.length ∧ i = .int .i64 j ∧ Tx [b2, k9] w5 wr ∧ Own wr lo (.slice (some ⟨b2, o2, none⟩) xs.length c3) (fl (chK (quiF b) xs (M.take j))) ∧ wr.cell? ⟨k9, 0, none⟩ = some (.int .i64 ((quN b xs (M.take j) : Nat) : Int)) ∧ wr.frozen? ⟨k9, 0, none⟩ = false
theorem own_farQ {w : World} {lo b2 o2 n c : Nat} {xs : List Value} (h : Own w lo (.slice (some ⟨b2, o2, none⟩) n c) xs) {k9 : Nat} (hk : ¬ k9 = b2) (x : Value) : Own (w.setCell ⟨k9, 0, none⟩ x) lo (.slice (some ⟨b2, o2, none⟩) n c) xs := by
  obtain ⟨A, c', hv, h1, h2, h3⟩ := h
  simp only [Value.slice.injEq] at hv
  obtain ⟨rfl, rfl, rfl⟩ := hv
  refine ⟨_, _, rfl, h1, h2, fun hp => ?_⟩
  obtain ⟨b', off', e, hlo, hb, hc, hf⟩ := h3 hp
  cases e
  exact ⟨b2, o2, rfl, hlo, by simpa [World.setCell] using hb, fun i y hy => ei_farO (fun e => hk e.symm) (hc i y hy), fun i hi => by rw [World.frozen?_setCell]; exact hf i hi⟩
set_option maxHeartbeats 16000000 in
theorem cfQ_any (p q : Int) (L k5 b bk off c : Nat) (xs : List Nat) (w : World) (hp : 1 ≤ p ∧ p ≤ 16) (hq : 1 ≤ q ∧ q ≤ 16) (hL : 1 ≤ L ∧ L ≤ 4) (hl : (xs.length : Int) = p * q) (hbd : 1 ≤ p * q ∧ p * q ≤ 256) (h : Rd w w.heap.size (.slice (some ⟨bk, off, none⟩) xs.length c) (fl xs)) (hfin : finA xs = true) (hk5 : k5 < w.heap.size) (hc5 : w.cell? ⟨k5, 0, none⟩ = some (.float .f32 b)) (hbf : finB .f32 b = true) (k9 : Nat) (hk9 : k9 < w.heap.size) (hc9 : w.cell? ⟨k9, 0, none⟩ = some (.int .i64 0)) (hc9f : w.frozen? ⟨k9, 0, none⟩ = false) (hbn : ¬ bk = k9) (hk59 : ¬ k5 = k9) :
    Calls Try.prog 110 #[.agg #[.int .i64 p, .int .i64 q, .slice (some ⟨bk, off, none⟩) xs.length c], .int .i64 (L : Int), .func (.func 111) #[] #[.pointer (some ⟨k5, 0, none⟩), .pointer (some ⟨k9, 0, none⟩)]] w (RetAgQ p q (chK (quiF b) xs (fiN (csB p q L) xs.length)) k9 ((quN b xs (fiN (csB p q L) xs.length) : Nat) : Int) w) := by
  obtain ⟨A, c0, hv, hnc, hcm, hcell0⟩ := id h
  rw [fl_len] at hv hnc hcell0
  simp only [Value.slice.injEq] at hv
  obtain ⟨rfl, -, rfl⟩ := hv
  obtain ⟨bk0, off0, hA, hbw, hcells⟩ := hcell0 (by omega)
  cases hA
  clear hcell0
  obtain ⟨w0, hw0⟩ : ∃ w0, (w.alloc (.cells #[.int .i64 p, .int .i64 q, .slice (some ⟨bk, off, none⟩) xs.length c] 50)).alloc (.cells #[.int .i64 0, .int .i64 0, .slice none 0 0] 50) = w0 := ⟨_, rfl⟩
  have hb0 : Below w.heap.size w w0 := by rw [← hw0]; exact ((Below.refl _ _).alloc (Nat.le_refl _) _).alloc (by simp) _
  have hz : w0.heap.size = w.heap.size + 2 := by rw [← hw0]; simp
  have hlt : w.heap.size < w0.heap.size := by omega
  have hltr : w.heap.size + 1 < w0.heap.size := by omega
  clear hz
  have x0 : w0.cell? ⟨w.heap.size, 0, none⟩ = some (.int .i64 p) := by rw [← hw0]; simp [go_sem]
  have x1 : w0.cell? ⟨w.heap.size, 1, none⟩ = some (.int .i64 q) := by rw [← hw0]; simp [go_sem]
  have x2 : w0.cell? ⟨w.heap.size, 2, none⟩ = some (.slice (some ⟨bk, off, none⟩) xs.length c) := by rw [← hw0]; simp [go_sem]
  have r0 : w0.cell? ⟨w.heap.size + 1, 0, none⟩ = some (.int .i64 0) := by rw [← hw0]; simp [go_sem]
  have r1 : w0.cell? ⟨w.heap.size + 1, 1, none⟩ = some (.int .i64 0) := by rw [← hw0]; simp [go_sem]
  have r2 : w0.cell? ⟨w.heap.size + 1, 2, none⟩ = some (.slice none 0 0) := by rw [← hw0]; simp [go_sem]
  have e0 : w0.frozen? ⟨w.heap.size + 1, 0, none⟩ = false := by rw [← hw0]; simp [go_sem]
  have e1 : w0.frozen? ⟨w.heap.size + 1, 1, none⟩ = false := by rw [← hw0]; simp [go_sem]
  have e2 : w0.frozen? ⟨w.heap.size + 1, 2, none⟩ = false := by rw [← hw0]; simp [go_sem]
  have HSRC := Lib.hid (show ∀ (i : Nat) (h : i < xs.length), w.cell? ⟨bk, off + i, none⟩ = some (.float .f32 (xs.getD i 0)) from fun i hi => by have := hcells i _ (fl_get xs i hi); simpa [List.getD, hi] using this)
  have hnn : 0 < xs.length := by omega
  have hx256 : xs.length ≤ 256 := by omega
  obtain ⟨Z, hZ⟩ : ∃ Z, Z = w0.alloc (.cells #[.int .i64 0, .int .i64 0, .slice none 0 0] 50) := ⟨_, rfl⟩
  have hbZ : Below w0.heap.size w0 Z := by rw [hZ]; exact (Below.refl _ _).alloc (Nat.le_refl _) _
  have hBXZ : Bx Z w0.heap.size [.int .i64 0, .int .i64 0, .slice none 0 0] := by rw [hZ]; exact bx_new w0 [.int .i64 0, .int .i64 0, .slice none 0 0] _
  have hZs : Z.heap.size = w0.heap.size + 1 := by rw [hZ]; simp
  have hltZ : w.heap.size < Z.heap.size := by omega
  have y0 := (hbZ.cell (p := ⟨w.heap.size, 0, none⟩) hlt).trans x0
  have y1 := (hbZ.cell (p := ⟨w.heap.size, 1, none⟩) hlt).trans x1
  have y2 := (hbZ.cell (p := ⟨w.heap.size, 2, none⟩) hlt).trans x2
  have z0 := (hBXZ.2 0 _ rfl).1
  have z1 := (hBXZ.2 1 _ rfl).1
  have z2 := (hBXZ.2 2 _ rfl).1
  have zf0 := (hBXZ.2 0 _ rfl).2
  have zf1 := (hBXZ.2 1 _ rfl).2
  have zf2 := (hBXZ.2 2 _ rfl).2
  have hR0 := h.step hb0
  have hRZ := hR0.step hbZ
  have HCA := Lib.hid (show Calls Try.prog 82 #[.slice (some ⟨bk, off, none⟩) xs.length c] (w0.alloc (.cells #[.int .i64 0, .int .i64 0, .slice none 0 0] 50)).drew (fun e w' => ∃ b2 o2 c3, e = .returned (.slice (some ⟨b2, o2, none⟩) xs.length c3) ∧ Own w' (w0.heap.size + 1) (.slice (some ⟨b2, o2, none⟩) xs.length c3) (fl xs) ∧ Below Z.heap.size Z w') from by have := cloneP_any ⟨bk, off, none⟩ c xs Z.drew hRZ (by omega) hnn; rw [← hZ]; refine this.mono ?_; rintro e w' ⟨b2, o2, c3, he, ho, hb⟩; exact ⟨b2, o2, c3, he, by rw [← hZs]; exact ho, below_draw1 hb⟩)
  have HCB2 := Lib.hid (show Calls Try.prog 82 #[.slice (some ⟨bk, off, none⟩) xs.length c] w0.drew (fun e w' => ∃ b2 o2 c3, e = .returned (.slice (some ⟨b2, o2, none⟩) xs.length c3) ∧ Own w' w0.heap.size (.slice (some ⟨b2, o2, none⟩) xs.length c3) (fl xs) ∧ Below w0.heap.size w0 w') from by have := cloneP_any ⟨bk, off, none⟩ c xs w0.drew hR0 (by omega) hnn; refine this.mono ?_; rintro e w' ⟨b2, o2, c3, he, ho, hb⟩; exact ⟨b2, o2, c3, he, ho, below_draw1 hb⟩)
  have HB0 := Lib.hid hb0
  have HBZ := Lib.hid hbZ
  have HBX := Lib.hid hBXZ
  have HZS := Lib.hid hZs
  have HFX := Lib.hid (fun i => getD_finR hfin i)
  have HCC := Lib.hid (show csB p q L = csB p q L from rfl)
  obtain ⟨M, hML⟩ : ∃ M, M = fiN (csB p q L) xs.length := ⟨_, rfl⟩
  have hMl : M.length ≤ xs.length := by rw [hML]; exact fiN_len _ _
  have HMX := Lib.hid (show ∀ i ∈ M, i < xs.length from fun i hi => by rw [hML] at hi; exact List.mem_range.1 (List.mem_filter.1 hi).1)
  have HFI := Lib.hid (fun W => (show Calls Try.prog 115 #[.agg #[.int .i64 p, .int .i64 q], .int .i64 (L : Int)] W (RetJ1 (M.map fun i : Nat => (i : Int)) W) by rw [hML, ← show (p * q).toNat = xs.length by omega]; exact fiI_any p q L W hp hq hL))
  rw [← hML]
  clear hl hML hcells h hR0 hRZ hb0 hfin hbZ hBXZ hZs
  have hsf : ∀ (a : Addr) (x : Nat) (w : World), (store a (.float .f32 x)).run Try.prog w = stored Try.prog w a (.float .f32 x) .plain := fun a x w => run_store _ w a _ _ rfl
  go_enter Try.func110, Try.ntmps110
  go_wp2_with fail
  refine wp_region_held_drew (S := (fun w' => w'.cell? ⟨w.heap.size, 0, none⟩ = some (.int .i64 p) ∧ w'.cell? ⟨w.heap.size, 1, none⟩ = some (.int .i64 q) ∧ w'.cell? ⟨w.heap.size, 2, none⟩ = some (.slice (some ⟨bk, off, none⟩) xs.length c))) (by kernel_rfl) ?_ (fun hHeld => ?_)
  · exact ⟨x0, x1, x2⟩
  refine wpAnyH_take (i := 0) (v := ?v54) rfl (by kernel_rfl) (by kernel_rfl) (by kernel_rfl) (fun _ _ _ h => h) (Or.inl ⟨by rfl, ?y54⟩) (by assumption) ?r54
  case y54 => (intro w hSw; (try dsimp only at hSw); go_simp; try (with_reducible rfl))
  (try simp only [Act.put]); (try simp only [List.setIfInBounds_toArray]); (try simp only [List.set_cons_succ]); (try simp only [List.set_cons_zero])
  refine wpAnyH_take (i := 1) (v := ?v55) rfl (by kernel_rfl) (by kernel_rfl) (by kernel_rfl) (fun _ _ _ h => h) (Or.inl ⟨by rfl, ?y55⟩) (by assumption) ?r55
  case y55 => (intro w hSw; (try dsimp only at hSw); go_simp; try (with_reducible rfl))
  (try simp only [Act.put]); (try simp only [List.setIfInBounds_toArray]); (try simp only [List.set_cons_succ]); (try simp only [List.set_cons_zero])
  refine wpAnyH_take (i := 2) (v := ?v56) rfl (by kernel_rfl) (by kernel_rfl) (by kernel_rfl) (fun _ _ _ h => h) (Or.inl ⟨by rfl, ?y56⟩) (by assumption) ?r56
  case y56 => (intro w hSw; (try dsimp only at hSw); go_simp; try (with_reducible rfl))
  (try simp only [Act.put]); (try simp only [List.setIfInBounds_toArray]); (try simp only [List.set_cons_succ]); (try simp only [List.set_cons_zero])
  refine wpAnyH_take (i := 3) (v := ?v57) rfl (by kernel_rfl) (by kernel_rfl) (by kernel_rfl) (fun _ _ _ h => h) (Or.inl ⟨by rfl, ?y57⟩) (by assumption) ?r57
  case y57 => (intro w hSw; (try dsimp only at hSw); go_simp; try (with_reducible rfl))
  (try simp only [Act.put]); (try simp only [List.setIfInBounds_toArray]); (try simp only [List.set_cons_succ]); (try simp only [List.set_cons_zero])
  refine wpAnyH_take (i := 4) (v := ?v58) rfl (by kernel_rfl) (by kernel_rfl) (by kernel_rfl) (fun _ _ _ h => h) (Or.inl ⟨by rfl, ?y58⟩) (by assumption) ?r58
  case y58 => (intro w hSw; (try dsimp only at hSw); go_simp; try (with_reducible rfl))
  (try simp only [Act.put]); (try simp only [List.setIfInBounds_toArray]); (try simp only [List.set_cons_succ]); (try simp only [List.set_cons_zero])
  refine wpAnyH_take (i := 5) (v := ?v59) rfl (by kernel_rfl) (by kernel_rfl) (by kernel_rfl) (fun _ _ _ h => h) (Or.inl ⟨by rfl, ?y59⟩) (by assumption) ?r59
  case y59 => (intro w hSw; (try dsimp only at hSw); go_simp; try (with_reducible rfl))
  (try simp only [Act.put]); (try simp only [List.setIfInBounds_toArray]); (try simp only [List.set_cons_succ]); (try simp only [List.set_cons_zero])
  refine wpAnyH_ready (rs := [6, 8]) (by kernel_rfl) (by simp) ?_
  refine AllReadyH.cons rfl (fun K hK => ?_) (AllReadyH.cons rfl (fun K hK => ?_) AllReadyH.nil)
  · go_simp
    go_at_call 82
    refine HCB2.out.mono ?_
    rintro e w3 ⟨b2, o2, c3, rfl, ho3, hb3Z⟩
    have c0' := (hb3Z.cell (p := ⟨w.heap.size, 0, none⟩) hlt).trans x0
    have c1' := (hb3Z.cell (p := ⟨w.heap.size, 1, none⟩) hlt).trans x1
    have c2' := (hb3Z.cell (p := ⟨w.heap.size, 2, none⟩) hlt).trans x2
    have HO3 := Lib.hid ho3
    have HBT := Lib.hid hb3Z
    clear ho3 hb3Z
    have hlt3 : w.heap.size < w3.heap.size := Nat.lt_of_lt_of_le hlt HBT.out.size
    refine hK.out _ _ ?_ (fun hHeld => ?_)
    · exact ⟨c0', c1', c2'⟩
    clear hK K
    (try simp only [Act.put]); (try simp only [List.setIfInBounds_toArray]); (try simp only [List.set_cons_succ]); (try simp only [List.set_cons_zero])
    refine wpAnyH_take (i := 7) (v := ?v60) rfl (by kernel_rfl) (by kernel_rfl) (by kernel_rfl) (fun _ _ _ h => h) (Or.inl ⟨by rfl, ?y60⟩) (by assumption) ?r60
    case y60 => (intro w hSw; (try dsimp only at hSw); go_simp; try (with_reducible rfl))
    (try simp only [Act.put]); (try simp only [List.setIfInBounds_toArray]); (try simp only [List.set_cons_succ]); (try simp only [List.set_cons_zero])
    refine wpAnyH_ready (rs := [8]) (by kernel_rfl) (by simp) ?_
    refine AllReadyH.cons rfl (fun K hK => ?_) AllReadyH.nil
    go_simp
    refine hK.out _ _ ?_ (fun hHeld => ?_)
    · exact ⟨(((Below.refl _ w3).alloc (Nat.le_refl _) _).cell (p := ⟨w.heap.size, 0, none⟩) hlt3).trans c0', (((Below.refl _ w3).alloc (Nat.le_refl _) _).cell (p := ⟨w.heap.size, 1, none⟩) hlt3).trans c1', (((Below.refl _ w3).alloc (Nat.le_refl _) _).cell (p := ⟨w.heap.size, 2, none⟩) hlt3).trans c2'⟩
    clear hK K
    (try simp only [Act.put]); (try simp only [List.setIfInBounds_toArray]); (try simp only [List.set_cons_succ]); (try simp only [List.set_cons_zero])
    refine wpAnyH_ready (rs := [9]) (by kernel_rfl) (by simp) ?_
    refine AllReadyH.cons rfl (fun K hK => ?_) AllReadyH.nil
    have hwg : ¬ w.heap.size = w3.heap.size := by omega
    go_simp
    refine hK.out _ _ ?_ (fun hHeld => ?_)
    · first | exact ⟨(((Below.refl _ w3).alloc (Nat.le_refl _) _).cell (p := ⟨w.heap.size, 0, none⟩) hlt3).trans c0', (((Below.refl _ w3).alloc (Nat.le_refl _) _).cell (p := ⟨w.heap.size, 1, none⟩) hlt3).trans c1', (((Below.refl _ w3).alloc (Nat.le_refl _) _).cell (p := ⟨w.heap.size, 2, none⟩) hlt3).trans c2'⟩ | exact ⟨ei_farO hwg (ei_farO hwg (ei_farO hwg ((((Below.refl _ w3).alloc (Nat.le_refl _) _).cell (p := ⟨w.heap.size, 0, none⟩) hlt3).trans c0'))), ei_farO hwg (ei_farO hwg (ei_farO hwg ((((Below.refl _ w3).alloc (Nat.le_refl _) _).cell (p := ⟨w.heap.size, 1, none⟩) hlt3).trans c1'))), ei_farO hwg (ei_farO hwg (ei_farO hwg ((((Below.refl _ w3).alloc (Nat.le_refl _) _).cell (p := ⟨w.heap.size, 2, none⟩) hlt3).trans c2')))⟩
    clear hK K
    (try simp only [Act.put]); (try simp only [List.setIfInBounds_toArray]); (try simp only [List.set_cons_succ]); (try simp only [List.set_cons_zero])
    refine wpAnyH_done (by kernel_rfl) ?_ _
    have HCW := Lib.hid (chb_two (p := p) (q := q) (L := xs) HO3.out hnn HBT.out)
    clear HCA HCB2 z0 z1 z2 zf0 zf1 zf2 y0 y1 y2
    generalize w3.alloc (.cells #[.int .i64 p, .int .i64 q, .slice (some ⟨b2, o2, none⟩) xs.length c3] 50) = W at *
    obtain ⟨g, hgd⟩ : ∃ g, g = w3.heap.size := ⟨_, rfl⟩
    rw [← hgd] at HCW ⊢
    have HGD := Lib.hid hgd
    clear hgd
    clear HO3 HBT c0' c1' c2' hw0
    have hBW := HCW.out.2.2.2.2.2.2
    have HBW := Lib.hid hBW
    obtain ⟨hBXg, hOW, hg0, hb20, hne, hb2W, -⟩ := id HCW.out
    have HBG := Lib.hid hBXg
    have HOW := Lib.hid hOW
    clear hBXg hOW
    replace x0 := (hBW.cell (p := ⟨w.heap.size, 0, none⟩) hlt).trans x0
    replace x1 := (hBW.cell (p := ⟨w.heap.size, 1, none⟩) hlt).trans x1
    replace x2 := (hBW.cell (p := ⟨w.heap.size, 2, none⟩) hlt).trans x2
    replace r0 := (hBW.cell (p := ⟨w.heap.size + 1, 0, none⟩) hltr).trans r0
    replace r1 := (hBW.cell (p := ⟨w.heap.size + 1, 1, none⟩) hltr).trans r1
    replace r2 := (hBW.cell (p := ⟨w.heap.size + 1, 2, none⟩) hltr).trans r2
    replace e0 := (hBW.frozen (p := ⟨w.heap.size + 1, 0, none⟩) hltr).trans e0
    replace e1 := (hBW.frozen (p := ⟨w.heap.size + 1, 1, none⟩) hltr).trans e1
    replace e2 := (hBW.frozen (p := ⟨w.heap.size + 1, 2, none⟩) hltr).trans e2
    replace hlt : w.heap.size < W.heap.size := Nat.lt_of_lt_of_le hlt hBW.size
    have hltW : w.heap.size + 1 < W.heap.size := Nat.lt_of_lt_of_le hltr hBW.size
    clear hBW
    go_wp2_with fail
    with_reducible refine (sid_any p q (some ⟨bk, off, none⟩) xs.length c _).mono ?_
    rintro e w4 ⟨rfl, hb4⟩
    replace x0 := (hb4.cell (p := ⟨w.heap.size, 0, none⟩) hlt).trans x0
    replace x1 := (hb4.cell (p := ⟨w.heap.size, 1, none⟩) hlt).trans x1
    replace x2 := (hb4.cell (p := ⟨w.heap.size, 2, none⟩) hlt).trans x2
    replace r0 := (hb4.cell (p := ⟨w.heap.size + 1, 0, none⟩) hltW).trans r0
    replace r1 := (hb4.cell (p := ⟨w.heap.size + 1, 1, none⟩) hltW).trans r1
    replace r2 := (hb4.cell (p := ⟨w.heap.size + 1, 2, none⟩) hltW).trans r2
    replace e0 := (hb4.frozen (p := ⟨w.heap.size + 1, 0, none⟩) hltW).trans e0
    replace e1 := (hb4.frozen (p := ⟨w.heap.size + 1, 1, none⟩) hltW).trans e1
    replace e2 := (hb4.frozen (p := ⟨w.heap.size + 1, 2, none⟩) hltW).trans e2
    replace hlt : w.heap.size < w4.heap.size := Nat.lt_of_lt_of_le hlt hb4.size
    have hlt4 : w.heap.size + 1 < w4.heap.size := Nat.lt_of_lt_of_le hltW hb4.size
    have HB4 := Lib.hid hb4
    have hz4 := hb4.size
    clear hb4
    go_wp2_with fail
    with_reducible refine (HFI.out _).mono ?_
    rintro e w5 ⟨v5, rfl, ho5, hb5⟩
    replace x0 := (hb5.cell (p := ⟨w.heap.size, 0, none⟩) hlt).trans x0
    replace x1 := (hb5.cell (p := ⟨w.heap.size, 1, none⟩) hlt).trans x1
    replace x2 := (hb5.cell (p := ⟨w.heap.size, 2, none⟩) hlt).trans x2
    replace r0 := (hb5.cell (p := ⟨w.heap.size + 1, 0, none⟩) hlt4).trans r0
    replace r1 := (hb5.cell (p := ⟨w.heap.size + 1, 1, none⟩) hlt4).trans r1
    replace r2 := (hb5.cell (p := ⟨w.heap.size + 1, 2, none⟩) hlt4).trans r2
    replace e0 := (hb5.frozen (p := ⟨w.heap.size + 1, 0, none⟩) hlt4).trans e0
    replace e1 := (hb5.frozen (p := ⟨w.heap.size + 1, 1, none⟩) hlt4).trans e1
    replace e2 := (hb5.frozen (p := ⟨w.heap.size + 1, 2, none⟩) hlt4).trans e2
    replace hlt : w.heap.size < w5.heap.size := Nat.lt_of_lt_of_le hlt hb5.size
    have hlt5 : w.heap.size + 1 < w5.heap.size := Nat.lt_of_lt_of_le hlt4 hb5.size
    have hz5 := hb5.size
    have HBWW := Lib.hid (HB4.out.trans (hb5.mono HB4.out.size))
    have HO5 := Lib.hid (HOW.out.below HBWW.out)
    have HG5 := Lib.hid (HBG.out.step HBWW.out)
    have HB5 := Lib.hid (HB0.out.trans ((HBW.out.trans (HBWW.out.mono HBW.out.size)).mono HB0.out.size))
    clear hb5
    obtain ⟨A5, c5, hv5, hn5, hm5, hcell5⟩ := id ho5
    rw [show (il (M.map fun i : Nat => (i : Int))).length = M.length by simp [il]] at hv5 hn5 hcell5
    subst hv5
    have HMC := Lib.hid (show ∀ (j : Nat) (h : j < M.length), ∃ b5 o5, A5 = some ⟨b5, o5, none⟩ ∧ w4.heap.size ≤ b5 ∧ b5 < w5.heap.size ∧ w5.cell? ⟨b5, o5 + j, none⟩ = some (.int .i64 ((M[j] : Nat) : Int)) from fun j h => by
      obtain ⟨b5, o5, hA5, hlo5, hbw5, hcc5, hff5⟩ := hcell5 (by omega)
      exact ⟨b5, o5, hA5, hlo5, hbw5, hcc5 j _ (by simp [il, h])⟩)
    clear hcell5 ho5
    have hMi : M.length ≤ 256 := by omega
    have hgW := HG5.out.1
    have hbk5 : bk < w5.heap.size := Nat.lt_of_lt_of_le hbw HB5.out.size
    have hgb : ¬ g = b2 := fun e => hne e.symm
    have hbb : ¬ bk = b2 := by have := HB0.out.size; omega
    have hwb : ¬ w.heap.size = b2 := by omega
    have hwr1 : ¬ w.heap.size + 1 = b2 := by omega
    have hk9n : ¬ k9 = b2 := by have := HB0.out.size; omega
    have hgk : ¬ g = k9 := by have := HB0.out.size; omega
    have hwk : ¬ w.heap.size = k9 := by omega
    have hwr9 : ¬ w.heap.size + 1 = k9 := by omega
    have hbk9 : ¬ bk = k9 := hbn
    have hk5b : ¬ k5 = b2 := by have := HB0.out.size; omega
    have K5 := Lib.hid ((HB5.out.cell (p := ⟨k5, 0, none⟩) hk5).trans hc5)
    have K9 := Lib.hid ((HB5.out.cell (p := ⟨k9, 0, none⟩) hk9).trans hc9)
    have K9F := Lib.hid ((HB5.out.frozen (p := ⟨k9, 0, none⟩) hk9).trans hc9f)
    have hk5w : k5 < w5.heap.size := Nat.lt_of_lt_of_le hk5 HB5.out.size
    have hk9w : k9 < w5.heap.size := Nat.lt_of_lt_of_le hk9 HB5.out.size
    have X2 := Lib.hid x2
    have R0 := Lib.hid r0
    have R1 := Lib.hid r1
    have R2 := Lib.hid r2
    have E0 := Lib.hid e0
    have E1 := Lib.hid e1
    have E2 := Lib.hid e2
    clear hc5 x0 x1 x2 r0 r1 r2 e0 e1 e2 hc9 hc9f
    go_wp2_with fail
    go_loopw [23] (ChQR w5 w0.heap.size b2 o2 c3 k9 b xs M) (fun i _ => M.length - (intOf i).toNat)
    case atStart => exact ⟨0, Nat.zero_le _, rfl, Tx.refl _ _, HO5.out, K9.out, K9F.out⟩
    case round =>
      obtain ⟨j, hj, rfl, htx, ho, hk, hkf⟩ := hrel
      have g2 : wr.cell? ⟨g, 2, none⟩ = some (.slice (some ⟨b2, o2, none⟩) xs.length c3) := (htx.cell hgW (by simp; exact ⟨hgb, hgk⟩)).trans (HG5.out.2 2 _ rfl).1
      have x2 : wr.cell? ⟨w.heap.size, 2, none⟩ = some (.slice (some ⟨bk, off, none⟩) xs.length c) := (htx.cell hlt (by simp; exact ⟨hwb, hwk⟩)).trans X2.out
      by_cases hjm : j < M.length
      · obtain ⟨b5, o5, rfl, hlo5, hbw5, hcc5⟩ := HMC.out j hjm
        have hmc : wr.cell? ⟨b5, o5 + j, none⟩ = some (.int .i64 ((M[j] : Nat) : Int)) := (htx.cell hbw5 (by simp; omega)).trans hcc5
        have hiM := HMX.out _ (List.getElem_mem hjm)
        have hs : wr.cell? ⟨bk, off + M[j], none⟩ = some (.float .f32 (xs.getD M[j] 0)) := (htx.cell hbk5 (by simp; exact ⟨hbb, hbk9⟩)).trans ((HB5.out.cell (p := ⟨bk, off + M[j], none⟩) hbw).trans (HSRC.out _ hiM))
        have hk5c : wr.cell? ⟨k5, 0, none⟩ = some (.float .f32 b) := (htx.cell hk5w (by simp; exact ⟨hk5b, hk59⟩)).trans K5.out
        obtain ⟨hlo, hbw2, hcc, hff⟩ := ho.cells' (by omega)
        have hcl : (chK (quiF b) xs (M.take j)).length = xs.length := chK_len _ _ _
        have hdst : wr.cell? ⟨b2, o2 + M[j], none⟩ = some (.float .f32 ((chK (quiF b) xs (M.take j)).getD M[j] 0)) := by rw [hcc M[j] _ (fl_get _ M[j] (by omega))]; simp [List.getD, show M[j] < (chK (quiF b) xs (M.take j)).length by omega]
        have hfz := hff M[j] hiM
        have HT := Lib.hid (chK_take (quiF b) xs M j hjm)
        have HF := Lib.hid (HFX.out M[j])
        have HO := Lib.hid ho
        have HTX := Lib.hid htx
        have HCT := Lib.hid (quN_take b xs M j hjm)
        have hNb := quN_le b xs (M.take j)
        have hMt : (M.take j).length ≤ 256 := by rw [List.length_take]; omega
        generalize quN b xs (M.take j) = cn at *
        generalize chK (quiF b) xs (M.take j) = cur at *
        generalize M[j] = i at *
        generalize cur.getD i 0 = old at *
        generalize xs.getD i 0 = u at *
        have hii : (i : Int) < (xs.length : Int) := by omega
        have hi0 : (0 : Int) ≤ (i : Int) := by omega
        have hji : (j : Int) < (M.length : Int) := by omega
        clear hcc hff htx ho hcl hcc5
        cases hg : gt32 (u % 2 ^ 31) b with
        | true =>
          have HQQ := Lib.hid (fun (W : World) (h5 : W.cell? ⟨k5, 0, none⟩ = some (.float .f32 b)) (h9 : W.cell? ⟨k9, 0, none⟩ = some (.int .i64 (cn : Int))) (h9f : W.frozen? ⟨k9, 0, none⟩ = false) => quiC_gt k5 k9 b u W h5 HF.out hg)
          have HGE := Lib.hid hg
          clear hg
          go_wp2_with fail
          refine wp_region_held_drew (S := (fun w' => w'.cell? ⟨g, 2, none⟩ = some (.slice (some ⟨b2, o2, none⟩) xs.length c3) ∧ w'.cell? ⟨w.heap.size, 2, none⟩ = some (.slice (some ⟨bk, off, none⟩) xs.length c) ∧ w'.cell? ⟨bk, off + i, none⟩ = some (.float .f32 u))) (by kernel_rfl) ?_ (fun hHeld => ?_)
          · exact ⟨g2, x2, hs⟩
          refine wpAnyH_take (i := 0) (v := ?v62) rfl (by kernel_rfl) (by kernel_rfl) (by kernel_rfl) (fun _ _ _ h => h) (Or.inl ⟨by rfl, ?y62⟩) (by assumption) ?r62
          case y62 => (intro w hSw; (try dsimp only at hSw); go_simp; try (with_reducible rfl))
          (try simp only [Act.put]); (try simp only [List.setIfInBounds_toArray]); (try simp only [List.set_cons_succ]); (try simp only [List.set_cons_zero])
          refine wpAnyH_take (i := 1) (v := ?v63) rfl (by kernel_rfl) (by kernel_rfl) (by kernel_rfl) (fun _ _ _ h => h) (Or.inl ⟨by rfl, ?y63⟩) (by assumption) ?r63
          case y63 => (intro w hSw; (try dsimp only at hSw); go_simp; try (with_reducible rfl))
          (try simp only [Act.put]); (try simp only [List.setIfInBounds_toArray]); (try simp only [List.set_cons_succ]); (try simp only [List.set_cons_zero])
          refine wpAnyH_take (i := 2) (v := ?v64) rfl (by kernel_rfl) (by kernel_rfl) (by kernel_rfl) (fun _ _ _ h => h) (Or.inl ⟨by rfl, ?y64⟩) (by assumption) ?r64
          case y64 => (intro w hSw; (try dsimp only at hSw); go_simp; try (with_reducible rfl))
          (try simp only [Act.put]); (try simp only [List.setIfInBounds_toArray]); (try simp only [List.set_cons_succ]); (try simp only [List.set_cons_zero])
          refine wpAnyH_take (i := 3) (v := ?v65) rfl (by kernel_rfl) (by kernel_rfl) (by kernel_rfl) (fun _ _ _ h => h) (Or.inl ⟨by rfl, ?y65⟩) (by assumption) ?r65
          case y65 => (intro w hSw; (try dsimp only at hSw); go_simp; try (with_reducible rfl))
          (try simp only [Act.put]); (try simp only [List.setIfInBounds_toArray]); (try simp only [List.set_cons_succ]); (try simp only [List.set_cons_zero])
          refine wpAnyH_take (i := 4) (v := ?v66) rfl (by kernel_rfl) (by kernel_rfl) (by kernel_rfl) (fun _ _ _ h => h) (Or.inl ⟨by rfl, ?y66⟩) (by assumption) ?r66
          case y66 => (intro w hSw; (try dsimp only at hSw); go_simp; try (with_reducible rfl))
          (try simp only [Act.put]); (try simp only [List.setIfInBounds_toArray]); (try simp only [List.set_cons_succ]); (try simp only [List.set_cons_zero])
          refine wpAnyH_take (i := 5) (v := ?v67) rfl (by kernel_rfl) (by kernel_rfl) (by kernel_rfl) (fun _ _ _ h => h) (Or.inl ⟨by rfl, ?y67⟩) (by assumption) ?r67
          case y67 => (intro w hSw; (try dsimp only at hSw); go_simp; try (with_reducible rfl))
          (try simp only [Act.put]); (try simp only [List.setIfInBounds_toArray]); (try simp only [List.set_cons_succ]); (try simp only [List.set_cons_zero])
          refine wpAnyH_take (i := 6) (v := ?v68) rfl (by kernel_rfl) (by kernel_rfl) (by kernel_rfl) (fun _ _ _ h => h) (Or.inl ⟨by rfl, ?y68⟩) (by assumption) ?r68
          case y68 => (intro w hSw; (try dsimp only at hSw); go_simp; try (with_reducible rfl))
          (try simp only [Act.put]); (try simp only [List.setIfInBounds_toArray]); (try simp only [List.set_cons_succ]); (try simp only [List.set_cons_zero])
          refine wpAnyH_take (i := 7) (v := ?v69) rfl (by kernel_rfl) (by kernel_rfl) (by kernel_rfl) (fun _ _ _ h => h) (Or.inl ⟨by rfl, ?y69⟩) (by assumption) ?r69
          case y69 => (intro w hSw; (try dsimp only at hSw); go_simp; try (with_reducible rfl))
          (try simp only [Act.put]); (try simp only [List.setIfInBounds_toArray]); (try simp only [List.set_cons_succ]); (try simp only [List.set_cons_zero])
          refine wpAnyH_take (i := 8) (v := ?v70) rfl (by kernel_rfl) (by kernel_rfl) (by kernel_rfl) (fun _ _ _ h => h) (Or.inl ⟨by rfl, ?y70⟩) (by assumption) ?r70
          case y70 => (intro w hSw; (try dsimp only at hSw); go_simp; try (with_reducible rfl))
          (try simp only [Act.put]); (try simp only [List.setIfInBounds_toArray]); (try simp only [List.set_cons_succ]); (try simp only [List.set_cons_zero])
          refine wpAnyH_ready (rs := [9]) (by kernel_rfl) (by simp) ?_
          refine AllReadyH.cons rfl (fun K hK => ?_) AllReadyH.nil
          go_simp
          go_at_call 111
          refine (HQQ.out wr.drew hk5c hk hkf).mono ?_
          rintro e w6 ⟨rfl, N6, rfl⟩
          refine hK.out _ _ ?_ (fun hHeld => ?_)
          · exact ⟨g2, x2, hs⟩
          clear hK K
          (try simp only [Act.put]); (try simp only [List.setIfInBounds_toArray]); (try simp only [List.set_cons_succ]); (try simp only [List.set_cons_zero])
          refine wpAnyH_take (i := 10) (v := ?v71) rfl (by kernel_rfl) (by kernel_rfl) (by kernel_rfl) (fun _ _ _ h => h) (Or.inl ⟨by rfl, ?y71⟩) (by assumption) ?r71
          case y71 => (intro w hSw; (try dsimp only at hSw); go_simp; try (with_reducible rfl))
          (try simp only [Act.put]); (try simp only [List.setIfInBounds_toArray]); (try simp only [List.set_cons_succ]); (try simp only [List.set_cons_zero])
          refine wpAnyH_ready (rs := [11]) (by kernel_rfl) (by simp) ?_
          refine AllReadyH.cons rfl (fun K hK => ?_) AllReadyH.nil
          go_simp
          refine hK.out _ _ ?_ (fun hHeld => ?_)
          · exact ⟨ei_farO hgb g2, ei_farO hwb x2, ei_farO hbb hs⟩
          clear hK K
          (try simp only [Act.put]); (try simp only [List.setIfInBounds_toArray]); (try simp only [List.set_cons_succ]); (try simp only [List.set_cons_zero])
          refine wpAnyH_done (by kernel_rfl) ?_ _
          go_wp2_with fail
          go_roundw
          case rel => exact ⟨j + 1, by omega, by go_num, Tx.set (g := b2) (HTX.out.drewN _) (by simp) _, by rw [HT.out, quiF_gt HGE.out, ← fl_set]; exact Own.putT (w := _) (HO.out.drewN _) i hiM _, by rw [HCT.out, quN_gt HGE.out]; exact ei_farO hk9n hk, by rw [World.frozen?_setCell]; exact hkf⟩
          case measure => simp [intOf]; omega
        | false =>
          have HQQ := Lib.hid (fun (W : World) (h5 : W.cell? ⟨k5, 0, none⟩ = some (.float .f32 b)) (h9 : W.cell? ⟨k9, 0, none⟩ = some (.int .i64 (cn : Int))) (h9f : W.frozen? ⟨k9, 0, none⟩ = false) => quiC_le k5 k9 b u cn (cn + 1) W h5 h9 h9f HF.out (by omega) rfl hg)
          have HGE := Lib.hid hg
          clear hg
          go_wp2_with fail
          refine wp_region_held_drew (S := (fun w' => w'.cell? ⟨g, 2, none⟩ = some (.slice (some ⟨b2, o2, none⟩) xs.length c3) ∧ w'.cell? ⟨w.heap.size, 2, none⟩ = some (.slice (some ⟨bk, off, none⟩) xs.length c) ∧ w'.cell? ⟨bk, off + i, none⟩ = some (.float .f32 u))) (by kernel_rfl) ?_ (fun hHeld => ?_)
          · exact ⟨g2, x2, hs⟩
          refine wpAnyH_take (i := 0) (v := ?v72) rfl (by kernel_rfl) (by kernel_rfl) (by kernel_rfl) (fun _ _ _ h => h) (Or.inl ⟨by rfl, ?y72⟩) (by assumption) ?r72
          case y72 => (intro w hSw; (try dsimp only at hSw); go_simp; try (with_reducible rfl))
          (try simp only [Act.put]); (try simp only [List.setIfInBounds_toArray]); (try simp only [List.set_cons_succ]); (try simp only [List.set_cons_zero])
          refine wpAnyH_take (i := 1) (v := ?v73) rfl (by kernel_rfl) (by kernel_rfl) (by kernel_rfl) (fun _ _ _ h => h) (Or.inl ⟨by rfl, ?y73⟩) (by assumption) ?r73
          case y73 => (intro w hSw; (try dsimp only at hSw); go_simp; try (with_reducible rfl))
          (try simp only [Act.put]); (try simp only [List.setIfInBounds_toArray]); (try simp only [List.set_cons_succ]); (try simp only [List.set_cons_zero])
          refine wpAnyH_take (i := 2) (v := ?v74) rfl (by kernel_rfl) (by kernel_rfl) (by kernel_rfl) (fun _ _ _ h => h) (Or.inl ⟨by rfl, ?y74⟩) (by assumption) ?r74
          case y74 => (intro w hSw; (try dsimp only at hSw); go_simp; try (with_reducible rfl))
          (try simp only [Act.put]); (try simp only [List.setIfInBounds_toArray]); (try simp only [List.set_cons_succ]); (try simp only [List.set_cons_zero])
          refine wpAnyH_take (i := 3) (v := ?v75) rfl (by kernel_rfl) (by kernel_rfl) (by kernel_rfl) (fun _ _ _ h => h) (Or.inl ⟨by rfl, ?y75⟩) (by assumption) ?r75
          case y75 => (intro w hSw; (try dsimp only at hSw); go_simp; try (with_reducible rfl))
          (try simp only [Act.put]); (try simp only [List.setIfInBounds_toArray]); (try simp only [List.set_cons_succ]); (try simp only [List.set_cons_zero])
          refine wpAnyH_take (i := 4) (v := ?v76) rfl (by kernel_rfl) (by kernel_rfl) (by kernel_rfl) (fun _ _ _ h => h) (Or.inl ⟨by rfl, ?y76⟩) (by assumption) ?r76
          case y76 => (intro w hSw; (try dsimp only at hSw); go_simp; try (with_reducible rfl))
          (try simp only [Act.put]); (try simp only [List.setIfInBounds_toArray]); (try simp only [List.set_cons_succ]); (try simp only [List.set_cons_zero])
          refine wpAnyH_take (i := 5) (v := ?v77) rfl (by kernel_rfl) (by kernel_rfl) (by kernel_rfl) (fun _ _ _ h => h) (Or.inl ⟨by rfl, ?y77⟩) (by assumption) ?r77
          case y77 => (intro w hSw; (try dsimp only at hSw); go_simp; try (with_reducible rfl))
          (try simp only [Act.put]); (try simp only [List.setIfInBounds_toArray]); (try simp only [List.set_cons_succ]); (try simp only [List.set_cons_zero])
          refine wpAnyH_take (i := 6) (v := ?v78) rfl (by kernel_rfl) (by kernel_rfl) (by kernel_rfl) (fun _ _ _ h => h) (Or.inl ⟨by rfl, ?y78⟩) (by assumption) ?r78
          case y78 => (intro w hSw; (try dsimp only at hSw); go_simp; try (with_reducible rfl))
          (try simp only [Act.put]); (try simp only [List.setIfInBounds_toArray]); (try simp only [List.set_cons_succ]); (try simp only [List.set_cons_zero])
          refine wpAnyH_take (i := 7) (v := ?v79) rfl (by kernel_rfl) (by kernel_rfl) (by kernel_rfl) (fun _ _ _ h => h) (Or.inl ⟨by rfl, ?y79⟩) (by assumption) ?r79
          case y79 => (intro w hSw; (try dsimp only at hSw); go_simp; try (with_reducible rfl))
          (try simp only [Act.put]); (try simp only [List.setIfInBounds_toArray]); (try simp only [List.set_cons_succ]); (try simp only [List.set_cons_zero])
          refine wpAnyH_take (i := 8) (v := ?v80) rfl (by kernel_rfl) (by kernel_rfl) (by kernel_rfl) (fun _ _ _ h => h) (Or.inl ⟨by rfl, ?y80⟩) (by assumption) ?r80
          case y80 => (intro w hSw; (try dsimp only at hSw); go_simp; try (with_reducible rfl))
          (try simp only [Act.put]); (try simp only [List.setIfInBounds_toArray]); (try simp only [List.set_cons_succ]); (try simp only [List.set_cons_zero])
          refine wpAnyH_ready (rs := [9]) (by kernel_rfl) (by simp) ?_
          refine AllReadyH.cons rfl (fun K hK => ?_) AllReadyH.nil
          go_simp
          go_at_call 111
          refine (HQQ.out wr.drew hk5c hk hkf).mono ?_
          rintro e w6 ⟨rfl, N6, rfl⟩
          refine hK.out _ _ ?_ (fun hHeld => ?_)
          · exact ⟨ei_farO hgk g2, ei_farO hwk x2, ei_farO hbk9 hs⟩
          clear hK K
          (try simp only [Act.put]); (try simp only [List.setIfInBounds_toArray]); (try simp only [List.set_cons_succ]); (try simp only [List.set_cons_zero])
          refine wpAnyH_take (i := 10) (v := ?v81) rfl (by kernel_rfl) (by kernel_rfl) (by kernel_rfl) (fun _ _ _ h => h) (Or.inl ⟨by rfl, ?y81⟩) (by assumption) ?r81
          case y81 => (intro w hSw; (try dsimp only at hSw); go_simp; try (with_reducible rfl))
          (try simp only [Act.put]); (try simp only [List.setIfInBounds_toArray]); (try simp only [List.set_cons_succ]); (try simp only [List.set_cons_zero])
          refine wpAnyH_ready (rs := [11]) (by kernel_rfl) (by simp) ?_
          refine AllReadyH.cons rfl (fun K hK => ?_) AllReadyH.nil
          go_simp
          refine hK.out _ _ ?_ (fun hHeld => ?_)
          · exact ⟨ei_farO hgb (ei_farO hgk g2), ei_farO hwb (ei_farO hwk x2), ei_farO hbb (ei_farO hbk9 hs)⟩
          clear hK K
          (try simp only [Act.put]); (try simp only [List.setIfInBounds_toArray]); (try simp only [List.set_cons_succ]); (try simp only [List.set_cons_zero])
          refine wpAnyH_done (by kernel_rfl) ?_ _
          go_wp2_with fail
          go_roundw
          case rel => exact ⟨j + 1, by omega, by go_num, Tx.set (g := b2) (Tx.set (g := k9) (HTX.out.drewN _) (by simp) _) (by simp) _, by rw [HT.out, quiF_le HGE.out, ← fl_set]; exact Own.putT (w := _) (own_farQ (HO.out.drewN _) hk9n _) i hiM _, by rw [HCT.out, quN_le1 HGE.out]; exact ei_farO hk9n (World.cell?_setCell_same _ _ _ hk), by rw [World.frozen?_setCell, World.frozen?_setCell]; exact hkf⟩
          case measure => simp [intOf]; omega
      · obtain rfl : j = M.length := by omega
        rw [List.take_length] at ho hk
        have r0 := (htx.cell hlt5 (by simp; exact ⟨hwr1, hwr9⟩)).trans R0.out
        have r1 := (htx.cell hlt5 (by simp; exact ⟨hwr1, hwr9⟩)).trans R1.out
        have r2 := (htx.cell hlt5 (by simp; exact ⟨hwr1, hwr9⟩)).trans R2.out
        have e0 := (htx.frozen hlt5 (by simp; exact ⟨hwr1, hwr9⟩)).trans E0.out
        have e1 := (htx.frozen hlt5 (by simp; exact ⟨hwr1, hwr9⟩)).trans E1.out
        have e2 := (htx.frozen hlt5 (by simp; exact ⟨hwr1, hwr9⟩)).trans E2.out
        have g0' : wr.cell? ⟨g, 0, none⟩ = some (.int .i64 p) := (htx.cell hgW (by simp; exact ⟨hgb, hgk⟩)).trans (HG5.out.2 0 _ rfl).1
        have g1' : wr.cell? ⟨g, 1, none⟩ = some (.int .i64 q) := (htx.cell hgW (by simp; exact ⟨hgb, hgk⟩)).trans (HG5.out.2 1 _ rfl).1
        have HOF := Lib.hid ((((ho.setLess (a := ⟨w.heap.size + 1, 0, none⟩) hltr (.int .i64 p)).setLess (a := ⟨w.heap.size + 1, 1, none⟩) hltr (.int .i64 q)).setLess (a := ⟨w.heap.size + 1, 2, none⟩) hltr (.slice (some ⟨b2, o2, none⟩) xs.length c3)).less (lo' := w.heap.size) HB0.out.size)
        have HTE := Lib.hid (tx_out HB5.out htx (Nat.le_trans HB0.out.size hb20))
        have HTF := Lib.hid (tx_set3 HTE.out (o0 := 0) (o1 := 1) (o2 := 2) (show w.heap.size ≤ w.heap.size + 1 by omega) (.int .i64 p) (.int .i64 q) (.slice (some ⟨b2, o2, none⟩) xs.length c3))
        have HK := Lib.hid (show ((( wr.setCell ⟨w.heap.size + 1, 0, none⟩ (.int .i64 p)).setCell ⟨w.heap.size + 1, 1, none⟩ (.int .i64 q)).setCell ⟨w.heap.size + 1, 2, none⟩ (.slice (some ⟨b2, o2, none⟩) xs.length c3)).cell? ⟨k9, 0, none⟩ = some (.int .i64 ((quN b xs M : Nat) : Int)) from ei_farO (fun e => hwr9 e.symm) (ei_farO (fun e => hwr9 e.symm) (ei_farO (fun e => hwr9 e.symm) hk)))
        clear ho htx hk hkf
        go_wp2_with fail
        exact bodyPost_ret (v := .agg #[.int .i64 p, .int .i64 q, .slice (some ⟨b2, o2, none⟩) xs.length c3]) (by simp [results, Try.results110, go_sem, r0, r1, r2]) rfl ⟨_, rfl, HOF.out, HTF.out, HK.out⟩
  · go_simp
    refine hK.out _ _ ?_ (fun hHeld => ?_)
    · rw [hZ] at y0 y1 y2; exact ⟨y0, y1, y2⟩
    clear hK K
    (try simp only [Act.put]); (try simp only [List.setIfInBounds_toArray]); (try simp only [List.set_cons_succ]); (try simp only [List.set_cons_zero])
    refine wpAnyH_ready (rs := [6]) (by kernel_rfl) (by simp) ?_
    refine AllReadyH.cons rfl (fun K hK => ?_) AllReadyH.nil
    go_simp
    go_at_call 82
    refine HCA.out.mono ?_
    rintro e w3 ⟨b2, o2, c3, rfl, ho3, hb3Z⟩
    have c0' := (hb3Z.cell (p := ⟨w.heap.size, 0, none⟩) hltZ).trans y0
    have c1' := (hb3Z.cell (p := ⟨w.heap.size, 1, none⟩) hltZ).trans y1
    have c2' := (hb3Z.cell (p := ⟨w.heap.size, 2, none⟩) hltZ).trans y2
    have HX3 := Lib.hid (HBX.out.step hb3Z)
    have ⟨d0, d1, d2, f0, f1, f2⟩ := bx_three HX3.out
    have HO3 := Lib.hid ho3
    have HBT := Lib.hid (HBZ.out.trans (hb3Z.mono HBZ.out.size))
    clear ho3 hb3Z
    refine hK.out _ _ ?_ (fun hHeld => ?_)
    · exact ⟨c0', c1', c2'⟩
    clear hK K
    (try simp only [Act.put]); (try simp only [List.setIfInBounds_toArray]); (try simp only [List.set_cons_succ]); (try simp only [List.set_cons_zero])
    refine wpAnyH_take (i := 7) (v := ?v61) rfl (by kernel_rfl) (by kernel_rfl) (by kernel_rfl) (fun _ _ _ h => h) (Or.inl ⟨by rfl, ?y61⟩) (by assumption) ?r61
    case y61 => (intro w hSw; (try dsimp only at hSw); go_simp; try (with_reducible rfl))
    (try simp only [Act.put]); (try simp only [List.setIfInBounds_toArray]); (try simp only [List.set_cons_succ]); (try simp only [List.set_cons_zero])
    refine wpAnyH_ready (rs := [9]) (by kernel_rfl) (by simp) ?_
    refine AllReadyH.cons rfl (fun K hK => ?_) AllReadyH.nil
    have hwg : ¬ w.heap.size = w0.heap.size := by omega
    go_simp
    refine hK.out _ _ ?_ (fun hHeld => ?_)
    · exact ⟨ei_farO hwg (ei_farO hwg (ei_farO hwg c0')), ei_farO hwg (ei_farO hwg (ei_farO hwg c1')), ei_farO hwg (ei_farO hwg (ei_farO hwg c2'))⟩
    clear hK K
    (try simp only [Act.put]); (try simp only [List.setIfInBounds_toArray]); (try simp only [List.set_cons_succ]); (try simp only [List.set_cons_zero])
    refine wpAnyH_done (by kernel_rfl) ?_ _
    have HCW := Lib.hid (chb_one (p := p) (q := q) (L := xs) HX3.out (Nat.le_refl _) HO3.out hnn HBT.out)
    clear d0 d1 d2 f0 f1 f2 HX3 HCA HCB2 z0 z1 z2 zf0 zf1 zf2 y0 y1 y2
    generalize ((w3.setCell ⟨w0.heap.size, 0, none⟩ (.int .i64 p)).setCell ⟨w0.heap.size, 1, none⟩ (.int .i64 q)).setCell ⟨w0.heap.size, 2, none⟩ (.slice (some ⟨b2, o2, none⟩) xs.length c3) = W at *
    obtain ⟨g, hgd⟩ : ∃ g, g = w0.heap.size := ⟨_, rfl⟩
    rw [← hgd] at HCW ⊢
    have HGD := Lib.hid hgd
    clear hgd
    clear HO3 HBT c0' c1' c2' hw0
    have hBW := HCW.out.2.2.2.2.2.2
    have HBW := Lib.hid hBW
    obtain ⟨hBXg, hOW, hg0, hb20, hne, hb2W, -⟩ := id HCW.out
    have HBG := Lib.hid hBXg
    have HOW := Lib.hid hOW
    clear hBXg hOW
    replace x0 := (hBW.cell (p := ⟨w.heap.size, 0, none⟩) hlt).trans x0
    replace x1 := (hBW.cell (p := ⟨w.heap.size, 1, none⟩) hlt).trans x1
    replace x2 := (hBW.cell (p := ⟨w.heap.size, 2, none⟩) hlt).trans x2
    replace r0 := (hBW.cell (p := ⟨w.heap.size + 1, 0, none⟩) hltr).trans r0
    replace r1 := (hBW.cell (p := ⟨w.heap.size + 1, 1, none⟩) hltr).trans r1
    replace r2 := (hBW.cell (p := ⟨w.heap.size + 1, 2, none⟩) hltr).trans r2
    replace e0 := (hBW.frozen (p := ⟨w.heap.size + 1, 0, none⟩) hltr).trans e0
    replace e1 := (hBW.frozen (p := ⟨w.heap.size + 1, 1, none⟩) hltr).trans e1
    replace e2 := (hBW.frozen (p := ⟨w.heap.size + 1, 2, none⟩) hltr).trans e2
    replace hlt : w.heap.size < W.heap.size := Nat.lt_of_lt_of_le hlt hBW.size
    have hltW : w.heap.size + 1 < W.heap.size := Nat.lt_of_lt_of_le hltr hBW.size
    clear hBW
    go_wp2_with fail
    with_reducible refine (sid_any p q (some ⟨bk, off, none⟩) xs.length c _).mono ?_
    rintro e w4 ⟨rfl, hb4⟩
    replace x0 := (hb4.cell (p := ⟨w.heap.size, 0, none⟩) hlt).trans x0
    replace x1 := (hb4.cell (p := ⟨w.heap.size, 1, none⟩) hlt).trans x1
    replace x2 := (hb4.cell (p := ⟨w.heap.size, 2, none⟩) hlt).trans x2
    replace r0 := (hb4.cell (p := ⟨w.heap.size + 1, 0, none⟩) hltW).trans r0
    replace r1 := (hb4.cell (p := ⟨w.heap.size + 1, 1, none⟩) hltW).trans r1
    replace r2 := (hb4.cell (p := ⟨w.heap.size + 1, 2, none⟩) hltW).trans r2
    replace e0 := (hb4.frozen (p := ⟨w.heap.size + 1, 0, none⟩) hltW).trans e0
    replace e1 := (hb4.frozen (p := ⟨w.heap.size + 1, 1, none⟩) hltW).trans e1
    replace e2 := (hb4.frozen (p := ⟨w.heap.size + 1, 2, none⟩) hltW).trans e2
    replace hlt : w.heap.size < w4.heap.size := Nat.lt_of_lt_of_le hlt hb4.size
    have hlt4 : w.heap.size + 1 < w4.heap.size := Nat.lt_of_lt_of_le hltW hb4.size
    have HB4 := Lib.hid hb4
    have hz4 := hb4.size
    clear hb4
    go_wp2_with fail
    with_reducible refine (HFI.out _).mono ?_
    rintro e w5 ⟨v5, rfl, ho5, hb5⟩
    replace x0 := (hb5.cell (p := ⟨w.heap.size, 0, none⟩) hlt).trans x0
    replace x1 := (hb5.cell (p := ⟨w.heap.size, 1, none⟩) hlt).trans x1
    replace x2 := (hb5.cell (p := ⟨w.heap.size, 2, none⟩) hlt).trans x2
    replace r0 := (hb5.cell (p := ⟨w.heap.size + 1, 0, none⟩) hlt4).trans r0
    replace r1 := (hb5.cell (p := ⟨w.heap.size + 1, 1, none⟩) hlt4).trans r1
    replace r2 := (hb5.cell (p := ⟨w.heap.size + 1, 2, none⟩) hlt4).trans r2
    replace e0 := (hb5.frozen (p := ⟨w.heap.size + 1, 0, none⟩) hlt4).trans e0
    replace e1 := (hb5.frozen (p := ⟨w.heap.size + 1, 1, none⟩) hlt4).trans e1
    replace e2 := (hb5.frozen (p := ⟨w.heap.size + 1, 2, none⟩) hlt4).trans e2
    replace hlt : w.heap.size < w5.heap.size := Nat.lt_of_lt_of_le hlt hb5.size
    have hlt5 : w.heap.size + 1 < w5.heap.size := Nat.lt_of_lt_of_le hlt4 hb5.size
    have hz5 := hb5.size
    have HBWW := Lib.hid (HB4.out.trans (hb5.mono HB4.out.size))
    have HO5 := Lib.hid (HOW.out.below HBWW.out)
    have HG5 := Lib.hid (HBG.out.step HBWW.out)
    have HB5 := Lib.hid (HB0.out.trans ((HBW.out.trans (HBWW.out.mono HBW.out.size)).mono HB0.out.size))
    clear hb5
    obtain ⟨A5, c5, hv5, hn5, hm5, hcell5⟩ := id ho5
    rw [show (il (M.map fun i : Nat => (i : Int))).length = M.length by simp [il]] at hv5 hn5 hcell5
    subst hv5
    have HMC := Lib.hid (show ∀ (j : Nat) (h : j < M.length), ∃ b5 o5, A5 = some ⟨b5, o5, none⟩ ∧ w4.heap.size ≤ b5 ∧ b5 < w5.heap.size ∧ w5.cell? ⟨b5, o5 + j, none⟩ = some (.int .i64 ((M[j] : Nat) : Int)) from fun j h => by
      obtain ⟨b5, o5, hA5, hlo5, hbw5, hcc5, hff5⟩ := hcell5 (by omega)
      exact ⟨b5, o5, hA5, hlo5, hbw5, hcc5 j _ (by simp [il, h])⟩)
    clear hcell5 ho5
    have hMi : M.length ≤ 256 := by omega
    have hgW := HG5.out.1
    have hbk5 : bk < w5.heap.size := Nat.lt_of_lt_of_le hbw HB5.out.size
    have hgb : ¬ g = b2 := fun e => hne e.symm
    have hbb : ¬ bk = b2 := by have := HB0.out.size; omega
    have hwb : ¬ w.heap.size = b2 := by omega
    have hwr1 : ¬ w.heap.size + 1 = b2 := by omega
    have hk9n : ¬ k9 = b2 := by have := HB0.out.size; omega
    have hgk : ¬ g = k9 := by have := HB0.out.size; omega
    have hwk : ¬ w.heap.size = k9 := by omega
    have hwr9 : ¬ w.heap.size + 1 = k9 := by omega
    have hbk9 : ¬ bk = k9 := hbn
    have hk5b : ¬ k5 = b2 := by have := HB0.out.size; omega
    have K5 := Lib.hid ((HB5.out.cell (p := ⟨k5, 0, none⟩) hk5).trans hc5)
    have K9 := Lib.hid ((HB5.out.cell (p := ⟨k9, 0, none⟩) hk9).trans hc9)
    have K9F := Lib.hid ((HB5.out.frozen (p := ⟨k9, 0, none⟩) hk9).trans hc9f)
    have hk5w : k5 < w5.heap.size := Nat.lt_of_lt_of_le hk5 HB5.out.size
    have hk9w : k9 < w5.heap.size := Nat.lt_of_lt_of_le hk9 HB5.out.size
    have X2 := Lib.hid x2
    have R0 := Lib.hid r0
    have R1 := Lib.hid r1
    have R2 := Lib.hid r2
    have E0 := Lib.hid e0
    have E1 := Lib.hid e1
    have E2 := Lib.hid e2
    clear hc5 x0 x1 x2 r0 r1 r2 e0 e1 e2 hc9 hc9f
    go_wp2_with fail
    go_loopw [23] (ChQR w5 w0.heap.size b2 o2 c3 k9 b xs M) (fun i _ => M.length - (intOf i).toNat)
    case atStart => exact ⟨0, Nat.zero_le _, rfl, Tx.refl _ _, HO5.out, K9.out, K9F.out⟩
    case round =>
      obtain ⟨j, hj, rfl, htx, ho, hk, hkf⟩ := hrel
      have g2 : wr.cell? ⟨g, 2, none⟩ = some (.slice (some ⟨b2, o2, none⟩) xs.length c3) := (htx.cell hgW (by simp; exact ⟨hgb, hgk⟩)).trans (HG5.out.2 2 _ rfl).1
      have x2 : wr.cell? ⟨w.heap.size, 2, none⟩ = some (.slice (some ⟨bk, off, none⟩) xs.length c) := (htx.cell hlt (by simp; exact ⟨hwb, hwk⟩)).trans X2.out
      by_cases hjm : j < M.length
      · obtain ⟨b5, o5, rfl, hlo5, hbw5, hcc5⟩ := HMC.out j hjm
        have hmc : wr.cell? ⟨b5, o5 + j, none⟩ = some (.int .i64 ((M[j] : Nat) : Int)) := (htx.cell hbw5 (by simp; omega)).trans hcc5
        have hiM := HMX.out _ (List.getElem_mem hjm)
        have hs : wr.cell? ⟨bk, off + M[j], none⟩ = some (.float .f32 (xs.getD M[j] 0)) := (htx.cell hbk5 (by simp; exact ⟨hbb, hbk9⟩)).trans ((HB5.out.cell (p := ⟨bk, off + M[j], none⟩) hbw).trans (HSRC.out _ hiM))
        have hk5c : wr.cell? ⟨k5, 0, none⟩ = some (.float .f32 b) := (htx.cell hk5w (by simp; exact ⟨hk5b, hk59⟩)).trans K5.out
        obtain ⟨hlo, hbw2, hcc, hff⟩ := ho.cells' (by omega)
        have hcl : (chK (quiF b) xs (M.take j)).length = xs.length := chK_len _ _ _
        have hdst : wr.cell? ⟨b2, o2 + M[j], none⟩ = some (.float .f32 ((chK (quiF b) xs (M.take j)).getD M[j] 0)) := by rw [hcc M[j] _ (fl_get _ M[j] (by omega))]; simp [List.getD, show M[j] < (chK (quiF b) xs (M.take j)).length by omega]
        have hfz := hff M[j] hiM
        have HT := Lib.hid (chK_take (quiF b) xs M j hjm)
        have HF := Lib.hid (HFX.out M[j])
        have HO := Lib.hid ho
        have HTX := Lib.hid htx
        have HCT := Lib.hid (quN_take b xs M j hjm)
        have hNb := quN_le b xs (M.take j)
        have hMt : (M.take j).length ≤ 256 := by rw [List.length_take]; omega
        generalize quN b xs (M.take j) = cn at *
        generalize chK (quiF b) xs (M.take j) = cur at *
        generalize M[j] = i at *
        generalize cur.getD i 0 = old at *
        generalize xs.getD i 0 = u at *
        have hii : (i : Int) < (xs.length : Int) := by omega
        have hi0 : (0 : Int) ≤ (i : Int) := by omega
        have hji : (j : Int) < (M.length : Int) := by omega
        clear hcc hff htx ho hcl hcc5
        cases hg : gt32 (u % 2 ^ 31) b with
        | true =>
          have HQQ := Lib.hid (fun (W : World) (h5 : W.cell? ⟨k5, 0, none⟩ = some (.float .f32 b)) (h9 : W.cell? ⟨k9, 0, none⟩ = some (.int .i64 (cn : Int))) (h9f : W.frozen? ⟨k9, 0, none⟩ = false) => quiC_gt k5 k9 b u W h5 HF.out hg)
          have HGE := Lib.hid hg
          clear hg
          go_wp2_with fail
          refine wp_region_held_drew (S := (fun w' => w'.cell? ⟨g, 2, none⟩ = some (.slice (some ⟨b2, o2, none⟩) xs.length c3) ∧ w'.cell? ⟨w.heap.size, 2, none⟩ = some (.slice (some ⟨bk, off, none⟩) xs.length c) ∧ w'.cell? ⟨bk, off + i, none⟩ = some (.float .f32 u))) (by kernel_rfl) ?_ (fun hHeld => ?_)
          · exact ⟨g2, x2, hs⟩
          refine wpAnyH_take (i := 0) (v := ?v82) rfl (by kernel_rfl) (by kernel_rfl) (by kernel_rfl) (fun _ _ _ h => h) (Or.inl ⟨by rfl, ?y82⟩) (by assumption) ?r82
          case y82 => (intro w hSw; (try dsimp only at hSw); go_simp; try (with_reducible rfl))
          (try simp only [Act.put]); (try simp only [List.setIfInBounds_toArray]); (try simp only [List.set_cons_succ]); (try simp only [List.set_cons_zero])
          refine wpAnyH_take (i := 1) (v := ?v83) rfl (by kernel_rfl) (by kernel_rfl) (by kernel_rfl) (fun _ _ _ h => h) (Or.inl ⟨by rfl, ?y83⟩) (by assumption) ?r83
          case y83 => (intro w hSw; (try dsimp only at hSw); go_simp; try (with_reducible rfl))
          (try simp only [Act.put]); (try simp only [List.setIfInBounds_toArray]); (try simp only [List.set_cons_succ]); (try simp only [List.set_cons_zero])
          refine wpAnyH_take (i := 2) (v := ?v84) rfl (by kernel_rfl) (by kernel_rfl) (by kernel_rfl) (fun _ _ _ h => h) (Or.inl ⟨by rfl, ?y84⟩) (by assumption) ?r84
          case y84 => (intro w hSw; (try dsimp only at hSw); go_simp; try (with_reducible rfl))
          (try simp only [Act.put]); (try simp only [List.setIfInBounds_toArray]); (try simp only [List.set_cons_succ]); (try simp only [List.set_cons_zero])
          refine wpAnyH_take (i := 3) (v := ?v85) rfl (by kernel_rfl) (by kernel_rfl) (by kernel_rfl) (fun _ _ _ h => h) (Or.inl ⟨by rfl, ?y85⟩) (by assumption) ?r85
          case y85 => (intro w hSw; (try dsimp only at hSw); go_simp; try (with_reducible rfl))
          (try simp only [Act.put]); (try simp only [List.setIfInBounds_toArray]); (try simp only [List.set_cons_succ]); (try simp only [List.set_cons_zero])
          refine wpAnyH_take (i := 4) (v := ?v86) rfl (by kernel_rfl) (by kernel_rfl) (by kernel_rfl) (fun _ _ _ h => h) (Or.inl ⟨by rfl, ?y86⟩) (by assumption) ?r86
          case y86 => (intro w hSw; (try dsimp only at hSw); go_simp; try (with_reducible rfl))
          (try simp only [Act.put]); (try simp only [List.setIfInBounds_toArray]); (try simp only [List.set_cons_succ]); (try simp only [List.set_cons_zero])
          refine wpAnyH_take (i := 5) (v := ?v87) rfl (by kernel_rfl) (by kernel_rfl) (by kernel_rfl) (fun _ _ _ h => h) (Or.inl ⟨by rfl, ?y87⟩) (by assumption) ?r87
          case y87 => (intro w hSw; (try dsimp only at hSw); go_simp; try (with_reducible rfl))
          (try simp only [Act.put]); (try simp only [List.setIfInBounds_toArray]); (try simp only [List.set_cons_succ]); (try simp only [List.set_cons_zero])
          refine wpAnyH_take (i := 6) (v := ?v88) rfl (by kernel_rfl) (by kernel_rfl) (by kernel_rfl) (fun _ _ _ h => h) (Or.inl ⟨by rfl, ?y88⟩) (by assumption) ?r88
          case y88 => (intro w hSw; (try dsimp only at hSw); go_simp; try (with_reducible rfl))
          (try simp only [Act.put]); (try simp only [List.setIfInBounds_toArray]); (try simp only [List.set_cons_succ]); (try simp only [List.set_cons_zero])
          refine wpAnyH_take (i := 7) (v := ?v89) rfl (by kernel_rfl) (by kernel_rfl) (by kernel_rfl) (fun _ _ _ h => h) (Or.inl ⟨by rfl, ?y89⟩) (by assumption) ?r89
          case y89 => (intro w hSw; (try dsimp only at hSw); go_simp; try (with_reducible rfl))
          (try simp only [Act.put]); (try simp only [List.setIfInBounds_toArray]); (try simp only [List.set_cons_succ]); (try simp only [List.set_cons_zero])
          refine wpAnyH_take (i := 8) (v := ?v90) rfl (by kernel_rfl) (by kernel_rfl) (by kernel_rfl) (fun _ _ _ h => h) (Or.inl ⟨by rfl, ?y90⟩) (by assumption) ?r90
          case y90 => (intro w hSw; (try dsimp only at hSw); go_simp; try (with_reducible rfl))
          (try simp only [Act.put]); (try simp only [List.setIfInBounds_toArray]); (try simp only [List.set_cons_succ]); (try simp only [List.set_cons_zero])
          refine wpAnyH_ready (rs := [9]) (by kernel_rfl) (by simp) ?_
          refine AllReadyH.cons rfl (fun K hK => ?_) AllReadyH.nil
          go_simp
          go_at_call 111
          refine (HQQ.out wr.drew hk5c hk hkf).mono ?_
          rintro e w6 ⟨rfl, N6, rfl⟩
          refine hK.out _ _ ?_ (fun hHeld => ?_)
          · exact ⟨g2, x2, hs⟩
          clear hK K
          (try simp only [Act.put]); (try simp only [List.setIfInBounds_toArray]); (try simp only [List.set_cons_succ]); (try simp only [List.set_cons_zero])
          refine wpAnyH_take (i := 10) (v := ?v91) rfl (by kernel_rfl) (by kernel_rfl) (by kernel_rfl) (fun _ _ _ h => h) (Or.inl ⟨by rfl, ?y91⟩) (by assumption) ?r91
          case y91 => (intro w hSw; (try dsimp only at hSw); go_simp; try (with_reducible rfl))
          (try simp only [Act.put]); (try simp only [List.setIfInBounds_toArray]); (try simp only [List.set_cons_succ]); (try simp only [List.set_cons_zero])
          refine wpAnyH_ready (rs := [11]) (by kernel_rfl) (by simp) ?_
          refine AllReadyH.cons rfl (fun K hK => ?_) AllReadyH.nil
          go_simp
          refine hK.out _ _ ?_ (fun hHeld => ?_)
          · exact ⟨ei_farO hgb g2, ei_farO hwb x2, ei_farO hbb hs⟩
          clear hK K
          (try simp only [Act.put]); (try simp only [List.setIfInBounds_toArray]); (try simp only [List.set_cons_succ]); (try simp only [List.set_cons_zero])
          refine wpAnyH_done (by kernel_rfl) ?_ _
          go_wp2_with fail
          go_roundw
          case rel => exact ⟨j + 1, by omega, by go_num, Tx.set (g := b2) (HTX.out.drewN _) (by simp) _, by rw [HT.out, quiF_gt HGE.out, ← fl_set]; exact Own.putT (w := _) (HO.out.drewN _) i hiM _, by rw [HCT.out, quN_gt HGE.out]; exact ei_farO hk9n hk, by rw [World.frozen?_setCell]; exact hkf⟩
          case measure => simp [intOf]; omega
        | false =>
          have HQQ := Lib.hid (fun (W : World) (h5 : W.cell? ⟨k5, 0, none⟩ = some (.float .f32 b)) (h9 : W.cell? ⟨k9, 0, none⟩ = some (.int .i64 (cn : Int))) (h9f : W.frozen? ⟨k9, 0, none⟩ = false) => quiC_le k5 k9 b u cn (cn + 1) W h5 h9 h9f HF.out (by omega) rfl hg)
          have HGE := Lib.hid hg
          clear hg
          go_wp2_with fail
          refine wp_region_held_drew (S := (fun w' => w'.cell? ⟨g, 2, none⟩ = some (.slice (some ⟨b2, o2, none⟩) xs.length c3) ∧ w'.cell? ⟨w.heap.size, 2, none⟩ = some (.slice (some ⟨bk, off, none⟩) xs.length c) ∧ w'.cell? ⟨bk, off + i, none⟩ = some (.float .f32 u))) (by kernel_rfl) ?_ (fun hHeld => ?_)
          · exact ⟨g2, x2, hs⟩
          refine wpAnyH_take (i := 0) (v := ?v92) rfl (by kernel_rfl) (by kernel_rfl) (by kernel_rfl) (fun _ _ _ h => h) (Or.inl ⟨by rfl, ?y92⟩) (by assumption) ?r92
          case y92 => (intro w hSw; (try dsimp only at hSw); go_simp; try (with_reducible rfl))
          (try simp only [Act.put]); (try simp only [List.setIfInBounds_toArray]); (try simp only [List.set_cons_succ]); (try simp only [List.set_cons_zero])
          refine wpAnyH_take (i := 1) (v := ?v93) rfl (by kernel_rfl) (by kernel_rfl) (by kernel_rfl) (fun _ _ _ h => h) (Or.inl ⟨by rfl, ?y93⟩) (by assumption) ?r93
          case y93 => (intro w hSw; (try dsimp only at hSw); go_simp; try (with_reducible rfl))
          (try simp only [Act.put]); (try simp only [List.setIfInBounds_toArray]); (try simp only [List.set_cons_succ]); (try simp only [List.set_cons_zero])
          refine wpAnyH_take (i := 2) (v := ?v94) rfl (by kernel_rfl) (by kernel_rfl) (by kernel_rfl) (fun _ _ _ h => h) (Or.inl ⟨by rfl, ?y94⟩) (by assumption) ?r94
          case y94 => (intro w hSw; (try dsimp only at hSw); go_simp; try (with_reducible rfl))
          (try simp only [Act.put]); (try simp only [List.setIfInBounds_toArray]); (try simp only [List.set_cons_succ]); (try simp only [List.set_cons_zero])
          refine wpAnyH_take (i := 3) (v := ?v95) rfl (by kernel_rfl) (by kernel_rfl) (by kernel_rfl) (fun _ _ _ h => h) (Or.inl ⟨by rfl, ?y95⟩) (by assumption) ?r95
          case y95 => (intro w hSw; (try dsimp only at hSw); go_simp; try (with_reducible rfl))
          (try simp only [Act.put]); (try simp only [List.setIfInBounds_toArray]); (try simp only [List.set_cons_succ]); (try simp only [List.set_cons_zero])
          refine wpAnyH_take (i := 4) (v := ?v96) rfl (by kernel_rfl) (by kernel_rfl) (by kernel_rfl) (fun _ _ _ h => h) (Or.inl ⟨by rfl, ?y96⟩) (by assumption) ?r96
          case y96 => (intro w hSw; (try dsimp only at hSw); go_simp; try (with_reducible rfl))
          (try simp only [Act.put]); (try simp only [List.setIfInBounds_toArray]); (try simp only [List.set_cons_succ]); (try simp only [List.set_cons_zero])
          refine wpAnyH_take (i := 5) (v := ?v97) rfl (by kernel_rfl) (by kernel_rfl) (by kernel_rfl) (fun _ _ _ h => h) (Or.inl ⟨by rfl, ?y97⟩) (by assumption) ?r97
          case y97 => (intro w hSw; (try dsimp only at hSw); go_simp; try (with_reducible rfl))
          (try simp only [Act.put]); (try simp only [List.setIfInBounds_toArray]); (try simp only [List.set_cons_succ]); (try simp only [List.set_cons_zero])
          refine wpAnyH_take (i := 6) (v := ?v98) rfl (by kernel_rfl) (by kernel_rfl) (by kernel_rfl) (fun _ _ _ h => h) (Or.inl ⟨by rfl, ?y98⟩) (by assumption) ?r98
          case y98 => (intro w hSw; (try dsimp only at hSw); go_simp; try (with_reducible rfl))
          (try simp only [Act.put]); (try simp only [List.setIfInBounds_toArray]); (try simp only [List.set_cons_succ]); (try simp only [List.set_cons_zero])
          refine wpAnyH_take (i := 7) (v := ?v99) rfl (by kernel_rfl) (by kernel_rfl) (by kernel_rfl) (fun _ _ _ h => h) (Or.inl ⟨by rfl, ?y99⟩) (by assumption) ?r99
          case y99 => (intro w hSw; (try dsimp only at hSw); go_simp; try (with_reducible rfl))
          (try simp only [Act.put]); (try simp only [List.setIfInBounds_toArray]); (try simp only [List.set_cons_succ]); (try simp only [List.set_cons_zero])
          refine wpAnyH_take (i := 8) (v := ?v100) rfl (by kernel_rfl) (by kernel_rfl) (by kernel_rfl) (fun _ _ _ h => h) (Or.inl ⟨by rfl, ?y100⟩) (by assumption) ?r100
          case y100 => (intro w hSw; (try dsimp only at hSw); go_simp; try (with_reducible rfl))
          (try simp only [Act.put]); (try simp only [List.setIfInBounds_toArray]); (try simp only [List.set_cons_succ]); (try simp only [List.set_cons_zero])
          refine wpAnyH_ready (rs := [9]) (by kernel_rfl) (by simp) ?_
          refine AllReadyH.cons rfl (fun K hK => ?_) AllReadyH.nil
          go_simp
          go_at_call 111
          refine (HQQ.out wr.drew hk5c hk hkf).mono ?_
          rintro e w6 ⟨rfl, N6, rfl⟩
          refine hK.out _ _ ?_ (fun hHeld => ?_)
          · exact ⟨ei_farO hgk g2, ei_farO hwk x2, ei_farO hbk9 hs⟩
          clear hK K
          (try simp only [Act.put]); (try simp only [List.setIfInBounds_toArray]); (try simp only [List.set_cons_succ]); (try simp only [List.set_cons_zero])
          refine wpAnyH_take (i := 10) (v := ?v101) rfl (by kernel_rfl) (by kernel_rfl) (by kernel_rfl) (fun _ _ _ h => h) (Or.inl ⟨by rfl, ?y101⟩) (by assumption) ?r101
          case y101 => (intro w hSw; (try dsimp only at hSw); go_simp; try (with_reducible rfl))
          (try simp only [Act.put]); (try simp only [List.setIfInBounds_toArray]); (try simp only [List.set_cons_succ]); (try simp only [List.set_cons_zero])
          refine wpAnyH_ready (rs := [11]) (by kernel_rfl) (by simp) ?_
          refine AllReadyH.cons rfl (fun K hK => ?_) AllReadyH.nil
          go_simp
          refine hK.out _ _ ?_ (fun hHeld => ?_)
          · exact ⟨ei_farO hgb (ei_farO hgk g2), ei_farO hwb (ei_farO hwk x2), ei_farO hbb (ei_farO hbk9 hs)⟩
          clear hK K
          (try simp only [Act.put]); (try simp only [List.setIfInBounds_toArray]); (try simp only [List.set_cons_succ]); (try simp only [List.set_cons_zero])
          refine wpAnyH_done (by kernel_rfl) ?_ _
          go_wp2_with fail
          go_roundw
          case rel => exact ⟨j + 1, by omega, by go_num, Tx.set (g := b2) (Tx.set (g := k9) (HTX.out.drewN _) (by simp) _) (by simp) _, by rw [HT.out, quiF_le HGE.out, ← fl_set]; exact Own.putT (w := _) (own_farQ (HO.out.drewN _) hk9n _) i hiM _, by rw [HCT.out, quN_le1 HGE.out]; exact ei_farO hk9n (World.cell?_setCell_same _ _ _ hk), by rw [World.frozen?_setCell, World.frozen?_setCell]; exact hkf⟩
          case measure => simp [intOf]; omega
      · obtain rfl : j = M.length := by omega
        rw [List.take_length] at ho hk
        have r0 := (htx.cell hlt5 (by simp; exact ⟨hwr1, hwr9⟩)).trans R0.out
        have r1 := (htx.cell hlt5 (by simp; exact ⟨hwr1, hwr9⟩)).trans R1.out
        have r2 := (htx.cell hlt5 (by simp; exact ⟨hwr1, hwr9⟩)).trans R2.out
        have e0 := (htx.frozen hlt5 (by simp; exact ⟨hwr1, hwr9⟩)).trans E0.out
        have e1 := (htx.frozen hlt5 (by simp; exact ⟨hwr1, hwr9⟩)).trans E1.out
        have e2 := (htx.frozen hlt5 (by simp; exact ⟨hwr1, hwr9⟩)).trans E2.out
        have g0' : wr.cell? ⟨g, 0, none⟩ = some (.int .i64 p) := (htx.cell hgW (by simp; exact ⟨hgb, hgk⟩)).trans (HG5.out.2 0 _ rfl).1
        have g1' : wr.cell? ⟨g, 1, none⟩ = some (.int .i64 q) := (htx.cell hgW (by simp; exact ⟨hgb, hgk⟩)).trans (HG5.out.2 1 _ rfl).1
        have HOF := Lib.hid ((((ho.setLess (a := ⟨w.heap.size + 1, 0, none⟩) hltr (.int .i64 p)).setLess (a := ⟨w.heap.size + 1, 1, none⟩) hltr (.int .i64 q)).setLess (a := ⟨w.heap.size + 1, 2, none⟩) hltr (.slice (some ⟨b2, o2, none⟩) xs.length c3)).less (lo' := w.heap.size) HB0.out.size)
        have HTE := Lib.hid (tx_out HB5.out htx (Nat.le_trans HB0.out.size hb20))
        have HTF := Lib.hid (tx_set3 HTE.out (o0 := 0) (o1 := 1) (o2 := 2) (show w.heap.size ≤ w.heap.size + 1 by omega) (.int .i64 p) (.int .i64 q) (.slice (some ⟨b2, o2, none⟩) xs.length c3))
        have HK := Lib.hid (show ((( wr.setCell ⟨w.heap.size + 1, 0, none⟩ (.int .i64 p)).setCell ⟨w.heap.size + 1, 1, none⟩ (.int .i64 q)).setCell ⟨w.heap.size + 1, 2, none⟩ (.slice (some ⟨b2, o2, none⟩) xs.length c3)).cell? ⟨k9, 0, none⟩ = some (.int .i64 ((quN b xs M : Nat) : Int)) from ei_farO (fun e => hwr9 e.symm) (ei_farO (fun e => hwr9 e.symm) (ei_farO (fun e => hwr9 e.symm) hk)))
        clear ho htx hk hkf
        go_wp2_with fail
        exact bodyPost_ret (v := .agg #[.int .i64 p, .int .i64 q, .slice (some ⟨b2, o2, none⟩) xs.length c3]) (by simp [results, Try.results110, go_sem, r0, r1, r2]) rfl ⟨_, rfl, HOF.out, HTF.out, HK.out⟩
end Go.Proofs.Ytfbdmhkmkmbipaa
