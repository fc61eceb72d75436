/-
  Desks that are read: copied, compared, told.
-/
import Derived.Test.YthkklilfignmpaaDv
import Derived.Test.YthkklilfignmpaaVd
import Derived.Test.YthkklilfignmpaaSd
import Derived.Test.YthkklilfignmpaaOpD
namespace Go.Proofs.Ythkklilfignmpaa
open Go.RowKit Fl
set_option linter.unusedVariables false

def DkR (w : World) (v0 v1 v2 v3 : Value) (a0 a1 a2 : List Nat) (a3 : List Bool) : Prop := Rd w w.heap.size v0 (fl a0) ∧ Rd w w.heap.size v1 (fl a1) ∧ Rd w w.heap.size v2 (fl a2) ∧ Rd w w.heap.size v3 (bl a3)
theorem DkR.step {w w' : World} {v0 v1 v2 v3 : Value} {a0 a1 a2 : List Nat} {a3 : List Bool} (h : DkR w v0 v1 v2 v3 a0 a1 a2 a3) (hb : Below w.heap.size w w') : DkR w' v0 v1 v2 v3 a0 a1 a2 a3 :=
  ⟨h.1.step hb, h.2.1.step hb, h.2.2.1.step hb, h.2.2.2.step hb⟩
theorem szD_R (v00 v01 v02 v03 : Value) (x00 x01 x02 : List Nat) (x03 : List Bool) (s0 : Nat) (p0 q0 n0 t0 : Int) (l : Int) (w : World) (h : DkR w v00 v01 v02 v03 x00 x01 x02 x03) (hl0 : 0 ≤ l) (hl1 : l ≤ 1048576) (hm0 : x00.length ≤ 9223372036854775807) (hm1 : x01.length ≤ 9223372036854775807) (hm2 : x02.length ≤ 9223372036854775807) (hm3 : x03.length ≤ 9223372036854775807) :
    Calls Try.prog 15 #[.agg #[v00, v01, .float .f32 s0, .int .i64 p0, .int .i64 q0, v02, .int .i64 n0, .int .i64 t0, v03], .int .i64 l] w fun e w' => e = .returned (.int .i64 (if l < dkN x00 x01 x02 x03 then -1 else l - dkN x00 x01 x02 x03)) ∧ Below w.heap.size w w' :=
  szD_any _ _ _ _ _ _ _ _ _ _ _ _ _ l w h.1 h.2.1 h.2.2.1 h.2.2.2 hl0 hl1 hm0 hm1 hm2 hm3
theorem toD_R (v00 v01 v02 v03 : Value) (x00 x01 x02 : List Nat) (x03 : List Bool) (s0 : Nat) (p0 q0 n0 t0 : Int) (w : World) (h : DkR w v00 v01 v02 v03 x00 x01 x02 x03) (hm0 : x00.length ≤ 1048576) (hm1 : x01.length ≤ 1048576) (hm2 : x02.length ≤ 1048576) (hm3 : x03.length ≤ 1048576) :
    Calls Try.prog 17 #[.agg #[v00, v01, .float .f32 s0, .int .i64 p0, .int .i64 q0, v02, .int .i64 n0, .int .i64 t0, v03]] w fun e w' => ∃ u0 u1 u2 u3, e = .returned (.agg #[u0, u1, .float .f32 s0, .int .i64 p0, .int .i64 q0, u2, .int .i64 n0, .int .i64 t0, u3]) ∧ DkR w' u0 u1 u2 u3 x00 x01 x02 x03 ∧ Below w.heap.size w w' :=
  (toD_any _ _ _ _ _ _ _ _ _ _ _ _ _ w h.1 h.2.1 h.2.2.1 h.2.2.2 hm0 hm1 hm2 hm3).mono fun e w' ⟨u0, u1, u2, u3, he, r0, r1, r2, r3, hb⟩ => ⟨u0, u1, u2, u3, he, ⟨r0, r1, r2, r3⟩, hb⟩
theorem eqD_R (v00 v01 v02 v03 : Value) (x00 x01 x02 : List Nat) (x03 : List Bool) (s0 : Nat) (p0 q0 n0 t0 : Int) (u0 u1 u2 u3 : Value) (w : World) (h : DkR w v00 v01 v02 v03 x00 x01 x02 x03) (k : DkR w u0 u1 u2 u3 x00 x01 x02 x03) (hm0 : x00.length ≤ 1048576) (hm1 : x01.length ≤ 1048576) (hm2 : x02.length ≤ 1048576) (hm3 : x03.length ≤ 1048576) :
    Calls Try.prog 19 #[.agg #[v00, v01, .float .f32 s0, .int .i64 p0, .int .i64 q0, v02, .int .i64 n0, .int .i64 t0, v03], .agg #[u0, u1, .float .f32 s0, .int .i64 p0, .int .i64 q0, u2, .int .i64 n0, .int .i64 t0, u3]] w fun e w' => e = .returned (.bool true) ∧ Below w.heap.size w w' :=
  eqD_any _ _ _ _ _ _ _ _ _ _ _ _ _ u0 u1 u2 u3 w h.1 h.2.1 h.2.2.1 h.2.2.2 k.1 k.2.1 k.2.2.1 k.2.2.2 hm0 hm1 hm2 hm3
end Go.Proofs.Ythkklilfignmpaa
