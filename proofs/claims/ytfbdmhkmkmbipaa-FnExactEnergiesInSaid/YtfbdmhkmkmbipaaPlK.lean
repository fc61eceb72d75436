/-
  Contracts: what a model's giver answers, and what two lights make.
-/
import Derived.Test.YtfbdmhkmkmbipaaPoK
namespace Go.Proofs.Ytfbdmhkmkmbipaa
open Go.RowKit Fl
set_option linter.unusedVariables false

theorem retGr_or {p q : Int} {g : Nat → Nat → Nat} {w w' : World} {e : Ending} (h : RetGr p q g w e w') :
    (pcB p q g = true ∧ RetPc p q (grd p q g) true w e w') ∨ (pcB p q g = false ∧ RetPc 0 0 [] false w e w') := by
  unfold RetGr at h
  cases hp : pcB p q g with
  | true => rw [hp] at h; exact .inl ⟨rfl, h⟩
  | false => rw [hp] at h; exact .inr ⟨rfl, h⟩
def gP (p q : Int) (g : Nat → Nat → Nat) (x : Int) : Int := if pcB p q g then x else 0
def gL (p q : Int) (g : Nat → Nat → Nat) : List Nat := if pcB p q g then grd p q g else []
theorem retGr_pc (p q : Int) (g : Nat → Nat → Nat) (w : World) : RetGr p q g w = RetPc (gP p q g p) (gP p q g q) (gL p q g) (pcB p q g) w := by
  unfold RetGr gP gL
  cases pcB p q g <;> rfl
theorem gL_len (p q : Int) (g : Nat → Nat → Nat) : (gL p q g).length ≤ 1048576 := by
  unfold gL
  split
  · rename_i h
    unfold pcB at h
    rw [Bool.and_eq_true] at h
    obtain ⟨b1, b2⟩ := ssB_out h.1
    have := mul_bd b1 b2
    unfold grd; simp; omega
  · simp
theorem own_any {w : World} {lo : Nat} {v : Value} {L : List Nat} (h : Own w lo v (fl L)) : Own w lo v (fl L) := h
set_option maxHeartbeats 2000000 in
theorem gvS_any (p q : Int) (A : Option Addr) (c : Nat) (xs : List Nat) (w : World) (h : Rd w w.heap.size (.slice A xs.length c) (fl xs)) (hm : xs.length ≤ 1048576) (hx : ∀ x ∈ xs, x < 2 ^ 32) :
    Calls Try.prog 86 #[.agg #[.int .i64 p, .int .i64 q, .slice A xs.length c]] w fun e w' => e = .returned (ivV (vpcB p q xs) p q (.slice A xs.length c)) ∧ Below w.heap.size w w' := by
  have hb2 : Below w.heap.size w ((w.alloc (.cells #[.int .i64 p, .int .i64 q, .slice A xs.length c] 50)).alloc (.cells #[.int .i64 0, .int .i64 0, .slice none 0 0] 50)) := ((Below.refl _ _).alloc (Nat.le_refl _) _).alloc (by simp) _
  have HV := Lib.hid (vpP_any w.heap.size (.slice A xs.length c) p q xs ((w.alloc (.cells #[.int .i64 p, .int .i64 q, .slice A xs.length c] 50)).alloc (.cells #[.int .i64 0, .int .i64 0, .slice none 0 0] 50)) w.heap.size (h.below hb2) (by simp [go_sem]) (by simp [go_sem]) (by simp [go_sem]) hm hx)
  have HB2 := Lib.hid hb2
  clear hb2 h hx
  go_enter Try.func86, Try.ntmps86
  go_wp2_with fail
  refine HV.out.mono ?_
  rintro e w1 ⟨rfl, n, rfl⟩
  cases hs : vpcB p q xs with
  | false =>
    have HB := Lib.hid ((((below_drawn HB2.out n).setCell (p := ⟨w.heap.size + 1, 0, none⟩) (by show _ ≤ w.heap.size + 1; omega) (.int .i64 0)).setCell (p := ⟨w.heap.size + 1, 1, none⟩) (by show _ ≤ w.heap.size + 1; omega) (.int .i64 0)).setCell (p := ⟨w.heap.size + 1, 2, none⟩) (by show _ ≤ w.heap.size + 1; omega) (.slice none 0 0))
    have HS := Lib.hid hs
    clear hs
    go_wp2_with fail
    exact bodyPost_ret (v := .tuple #[.agg #[.int .i64 0, .int .i64 0, .slice none 0 0], .bool false]) (by simp [results, Try.results86, go_sem]) rfl ⟨by rw [HS.out]; rfl, by first | exact HB.out | exact below_drawn HB2.out n⟩
  | true =>
    have HB := Lib.hid ((((below_drawn HB2.out n).setCell (p := ⟨w.heap.size + 1, 0, none⟩) (by show _ ≤ w.heap.size + 1; omega) (.int .i64 p)).setCell (p := ⟨w.heap.size + 1, 1, none⟩) (by show _ ≤ w.heap.size + 1; omega) (.int .i64 q)).setCell (p := ⟨w.heap.size + 1, 2, none⟩) (by show _ ≤ w.heap.size + 1; omega) (.slice A xs.length c))
    have HS := Lib.hid hs
    clear hs
    go_wp2_with fail
    exact bodyPost_ret (v := .tuple #[.agg #[.int .i64 p, .int .i64 q, .slice A xs.length c], .bool true]) (by simp [results, Try.results86, go_sem]) rfl ⟨by rw [HS.out]; rfl, HB.out⟩
def stG (at_ : Int) (l r : Nat) (x y : Nat) : Nat := cn .f32 (if (x : Int) < at_ then l else r)
theorem stF_grd (p q at_ : Int) (l r : Nat) (hp : 1 ≤ p) (hl : l < 2 ^ 32) (hr : r < 2 ^ 32) : IsLs ((List.range (p * q).toNat).map (stF p at_ l r)) (grd p q (stG at_ l r)) := by
  refine ⟨by simp [grd], fun i h1 h2 => ?_⟩
  simp only [grd, List.getElem_map, List.getElem_range]
  have hi : ((i % p.toNat : Nat) : Int) = (i : Int) % p := by rw [Int.natCast_emod, Int.toNat_of_nonneg (by omega)]
  unfold stG stF
  rw [hi]
  split
  · exact ⟨rfl, hl⟩
  · exact ⟨rfl, hr⟩
theorem grd_pc {p q : Int} {g : Nat → Nat → Nat} {L : List Nat} (h : IsLs L (grd p q g)) (hs : ssB p q = true) : vpcB p q L = pcB p q g := by
  obtain ⟨b1, b2⟩ := ssB_out hs
  have hl : (L.length : Int) = p * q := by rw [h.1]; unfold grd; rw [List.length_map, List.length_range]; exact (mul_nat b1 b2).symm
  unfold vpcB pcB
  rw [isLs_fin h, decide_eq_true hl, Bool.and_true]
end Go.Proofs.Ytfbdmhkmkmbipaa
