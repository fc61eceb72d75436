/-
  A picture with another part (no walk in it).
-/
import Derived.Test.YtfbdmhkmkmbipaaTxK
import Derived.Test.YtfbdmhkmkmbipaaCrK
import Derived.Laws.CopyOwn
import Derived.Laws.Tables
namespace Go.Proofs.Ytfbdmhkmkmbipaa
open Go.RowKit Fl
set_option linter.unusedVariables false
set_option maxRecDepth 100000

/-- The list xs of a picture with sides of P in which the first k lights of a part ys with sides of W lie at X, Y. -/
def pvI (P X Y W i : Nat) : Nat := (Y + i / W) * P + X + i % W
def pvK (P : Nat) (xs : List Nat) (X Y W : Nat) (ys : List Nat) (k : Nat) : List Nat := (List.range k).foldl (fun L i => L.set (pvI P X Y W i) (ys.getD i 0)) xs
theorem pvK_succ (P : Nat) (xs : List Nat) (X Y W : Nat) (ys : List Nat) (k : Nat) : pvK P xs X Y W ys (k + 1) = (pvK P xs X Y W ys k).set (pvI P X Y W k) (ys.getD k 0) := by
  unfold pvK; rw [List.range_succ, List.foldl_append]; rfl
theorem pvK_len (P : Nat) (xs : List Nat) (X Y W : Nat) (ys : List Nat) : ∀ k, (pvK P xs X Y W ys k).length = xs.length
  | 0 => rfl
  | k + 1 => by rw [pvK_succ, List.length_set]; exact pvK_len P xs X Y W ys k
theorem splice_push (L R : List Nat) (o v : Nat) (h : o + R.length < L.length) : (splice L o R).set (o + R.length) v = splice L o (R ++ [v]) := by
  unfold splice
  have h1 : (L.take o).length = o := by simp; omega
  rw [List.set_append_right _ _ (by omega), h1, Nat.add_sub_cancel_left, List.set_append_right _ _ (Nat.le_refl _), Nat.sub_self, List.drop_eq_getElem_cons h]
  simp [List.append_assoc, Nat.add_assoc]
/-- A row at once. -/
theorem pvK_row (P : Nat) (xs : List Nat) (X Y W : Nat) (ys : List Nat) (r : Nat) (hlen : (Y + r) * P + X + W ≤ xs.length) : ∀ j, j ≤ W → pvK P xs X Y W ys (r * W + j) = splice (pvK P xs X Y W ys (r * W)) ((Y + r) * P + X) ((List.range j).map fun t => ys.getD (r * W + t) 0)
  | 0, _ => by simp [splice]
  | j + 1, hj => by
    have hW : 0 < W := by omega
    have e1 : (r * W + j) / W = r := by rw [Nat.mul_comm r W, Nat.mul_add_div hW, Nat.div_eq_of_lt (by omega), Nat.add_zero]
    have e2 : (r * W + j) % W = j := by rw [Nat.mul_comm r W, Nat.mul_add_mod, Nat.mod_eq_of_lt (by omega)]
    rw [← Nat.add_assoc, pvK_succ, pvK_row P xs X Y W ys r hlen j (by omega)]
    unfold pvI
    rw [e1, e2]
    have hl := pvK_len P xs X Y W ys (r * W)
    have hR : ((List.range j).map fun t => ys.getD (r * W + t) 0).length = j := by simp
    have h := splice_push (pvK P xs X Y W ys (r * W)) ((List.range j).map fun t => ys.getD (r * W + t) 0) ((Y + r) * P + X) (ys.getD (r * W + j) 0) (by rw [hR, hl]; omega)
    rw [hR] at h
    rw [h, List.range_succ, List.map_append]
    rfl
def ptB (p0 q0 : Int) (xs : List Nat) (p1 q1 : Int) (ys : List Nat) (x y : Int) : Bool := vpcB p0 q0 xs && vpcB p1 q1 ys && liB p0 q0 x y p1 q1
def ptV (p0 q0 : Int) (xs : List Nat) (p1 q1 : Int) (ys : List Nat) (x y : Int) : List Nat := if ptB p0 q0 xs p1 q1 ys x y then pvK p0.toNat xs x.toNat y.toNat p1.toNat ys (p1 * q1).toNat else []
def RetPt (p0 q0 : Int) (xs : List Nat) (p1 q1 : Int) (ys : List Nat) (x y : Int) (w : World) : Ending → World → Prop := RetPc (crP (ptB p0 q0 xs p1 q1 ys x y) p0) (crP (ptB p0 q0 xs p1 q1 ys x y) q0) (ptV p0 q0 xs p1 q1 ys x y) (ptB p0 q0 xs p1 q1 ys x y) w
theorem retPt_no {p0 q0 p1 q1 x y : Int} {xs ys : List Nat} {w : World} (h : ptB p0 q0 xs p1 q1 ys x y = false) : RetPt p0 q0 xs p1 q1 ys x y w = RetPc 0 0 [] false w := by
  unfold RetPt ptV crP; rw [h]; rfl
theorem retPt_yes {p0 q0 p1 q1 x y : Int} {xs ys : List Nat} {w : World} (h : ptB p0 q0 xs p1 q1 ys x y = true) : RetPt p0 q0 xs p1 q1 ys x y w = RetPc p0 q0 (pvK p0.toNat xs x.toNat y.toNat p1.toNat ys (p1 * q1).toNat) true w := by
  unfold RetPt ptV crP; rw [h]; rfl
theorem ptV_len (p0 q0 : Int) (xs : List Nat) (p1 q1 : Int) (ys : List Nat) (x y : Int) : (ptV p0 q0 xs p1 q1 ys x y).length ≤ 1048576 := by
  unfold ptV
  split
  · rename_i h
    unfold ptB at h
    rw [Bool.and_eq_true, Bool.and_eq_true] at h
    obtain ⟨b1, b2, hl, -⟩ := vpcB_out h.1.1
    have := mul_bd b1 b2
    rw [pvK_len]; omega
  · simp
theorem Tx.setRow {bs : List Nat} {a b : World} (h : Tx bs a b) {g : Nat} (hg : g ∈ bs) (cs : Array Value) : Tx bs a (b.setRow g cs) :=
  ⟨h.os, h.tape, h.output, by simpa [World.setRow] using h.size, fun k hk hh => (setRow_other _ _ _ _ (fun e => hh (by rw [e]; exact hg))).trans (h.block k hk hh)⟩
theorem row_splice {w : World} {lo g n cap o : Nat} {e : TypeId} {xs cs : List Value} (h : w.ownsRow lo e 1 (.slice (some ⟨g, 0, none⟩) n cap) n xs) (hn : 0 < n) (ho : o + cs.length ≤ n) :
    ∃ cur : Array Value, w.heap[g]? = some (.cells cur e (0, 0)) ∧ n ≤ cur.size ∧ n ≤ cap ∧ cap ≤ maxLen ∧ (w.setRow g (cur.toList.take o ++ (cs ++ cur.toList.drop (o + cs.length))).toArray).ownsRow lo e 1 (.slice (some ⟨g, 0, none⟩) n cap) n (splice xs o cs) := by
  obtain ⟨h1, h2⟩ := h
  rcases h2 with ⟨hv, hz⟩ | ⟨g', cap', cur, hv, hlo, hg, hnc, hcm, hsz, htk⟩
  · omega
  · simp only [Value.slice.injEq, Option.some.injEq, Addr.mk.injEq, and_true] at hv
    obtain ⟨rfl, -, rfl⟩ := hv
    have hcs : cur.toList.length = cap := by simp [hsz]
    refine ⟨cur, hg, by omega, hnc, hcm, by rw [length_splice _ _ _ (by omega)]; exact h1, .inr ⟨g, cap, _, rfl, hlo, setRow_heap w g _ _ _ _ hg, hnc, hcm, ?_, ?_⟩⟩
    · simp; omega
    · have hxn : xs.length = n := by omega
      rw [Nat.mul_one] at htk
      obtain ⟨R, hR⟩ : ∃ R, cur.toList = xs ++ R := ⟨cur.toList.drop n, by rw [← htk, List.take_append_drop]⟩
      rw [hR]
      show (((xs ++ R).take o ++ (cs ++ (xs ++ R).drop (o + cs.length)))).take (n * 1) = _
      have hls : (splice xs o cs).length = n := by rw [length_splice _ _ _ (by omega)]; exact hxn
      have e1 : (xs ++ R).take o = xs.take o := List.take_append_of_le_length (by omega)
      have e2 : (xs ++ R).drop (o + cs.length) = xs.drop (o + cs.length) ++ R := List.drop_append_of_le_length (by omega)
      rw [e1, e2, Nat.mul_one, show xs.take o ++ (cs ++ (xs.drop (o + cs.length) ++ R)) = splice xs o cs ++ R by simp [splice, List.append_assoc], List.take_append_of_le_length (by omega), List.take_of_length_le (by omega)]
end Go.Proofs.Ytfbdmhkmkmbipaa
