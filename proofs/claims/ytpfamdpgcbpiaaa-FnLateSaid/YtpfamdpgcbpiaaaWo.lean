import Derived.Test.YtpfamdpgcbpiaaaWc
namespace Go.Proofs.Ytpfamdpgcbpiaaa
open Go.RowKit

/-- what a value may be: its kind, its whole number, its two floats (none: any NaN). -/
abbrev V := Int × Int × Option Nat × Option Nat
def VIs (o : V) (k i : Int) (x y : Nat) : Prop := k = o.1 ∧ i = o.2.1 ∧ Is o.2.2.1 x ∧ Is o.2.2.2 y
def zV : V := (0, 0, some 0, some 0)
def iV (n : Int) : V := (1, n, some 0, some 0)
def rV (o : Option Nat) : V := (2, 0, o, some 0)
def pV (o p : Option Nat) : V := (3, 0, o, p)
def bN (b : Bool) : Int := if b then 1 else 0
def bV (b : Bool) : V := (4, bN b, some 0, some 0)

theorem is_zero : Is (some 0) 0 := ⟨by decide, Or.inl rfl⟩
theorem is_some {x : Nat} (h : x < 18446744073709551616) : Is (some x) x := ⟨h, Or.inl rfl⟩
theorem is_zV : VIs zV 0 0 0 0 := ⟨rfl, rfl, is_zero, is_zero⟩
theorem is_iV (n : Int) : VIs (iV n) 1 n 0 0 := ⟨rfl, rfl, is_zero, is_zero⟩
theorem is_bV (b : Bool) : VIs (bV b) 4 (bN b) 0 0 := ⟨rfl, rfl, is_zero, is_zero⟩
theorem is_rV {o : Option Nat} {x : Nat} (h : Is o x) : VIs (rV o) 2 0 x 0 := ⟨rfl, rfl, h, is_zero⟩
theorem is_pV {o p : Option Nat} {x y : Nat} (h : Is o x) (g : Is p y) : VIs (pV o p) 3 0 x y := ⟨rfl, rfl, h, g⟩

/-- whole numbers: what an op comes to. -/
def intOut (op a b : Int) : V × Int :=
  if op = 1 then (iV (wrap64 (a + b)), 0) else if op = 2 then (iV (wrap64 (a - b)), 0) else if op = 3 then (iV (wrap64 (a * b)), 0)
  else if op = 4 then (if b = 0 then (zV, 2) else (iV (wrap64 (a.tdiv b)), 0)) else if op = 5 then (if b = 0 then (zV, 2) else (iV (a.tmod b), 0))
  else if op = 6 then (bV (decide (a < b)), 0) else if op = 7 then (bV (a == b), 0) else (zV, 1)


/-- what a call of an op leaves: a value that may be what is told, its code; old memory as it was. -/
def Leaves2 (o : V × Int) (w : World) (e : Ending) (w' : World) : Prop :=
  ∃ (k i : Int) (x y : Nat), e = .returned (.tuple #[.agg #[.int .i64 k, .int .i64 i, .float .f64 x, .float .f64 y], .int .i64 o.2]) ∧ VIs o.1 k i x y ∧ Below w.heap.size w w'

theorem leaves_i {o : V × Int} {w : World} {e : Ending} {w' : World} {n : Int} (ho : o = (iV n, 0)) (he : e = .returned (.tuple #[.agg #[.int .i64 1, .int .i64 n, .float .f64 0, .float .f64 0], .int .i64 0])) (hb : Below w.heap.size w w') : Leaves2 o w e w' := by
  subst ho; exact ⟨_, _, _, _, he, is_iV n, hb⟩
theorem leaves_b {o : V × Int} {w : World} {e : Ending} {w' : World} {b : Bool} (ho : o = (bV b, 0)) (he : e = .returned (.tuple #[.agg #[.int .i64 4, .int .i64 (bN b), .float .f64 0, .float .f64 0], .int .i64 0])) (hb : Below w.heap.size w w') : Leaves2 o w e w' := by
  subst ho; exact ⟨_, _, _, _, he, is_bV b, hb⟩
theorem leaves_z {o : V × Int} {w : World} {e : Ending} {w' : World} {c : Int} (ho : o = (zV, c)) (he : e = .returned (.tuple #[.agg #[.int .i64 0, .int .i64 0, .float .f64 0, .float .f64 0], .int .i64 c])) (hb : Below w.heap.size w w') : Leaves2 o w e w' := by
  subst ho; exact ⟨_, _, _, _, he, is_zV, hb⟩
theorem leaves_r {o : V × Int} {w : World} {e : Ending} {w' : World} {q : Option Nat} {x : Nat} (ho : o = (rV q, 0)) (hq : Is q x) (he : e = .returned (.tuple #[.agg #[.int .i64 2, .int .i64 0, .float .f64 x, .float .f64 0], .int .i64 0])) (hb : Below w.heap.size w w') : Leaves2 o w e w' := by
  subst ho; exact ⟨_, _, _, _, he, is_rV hq, hb⟩
theorem leaves_p {o : V × Int} {w : World} {e : Ending} {w' : World} {q r : Option Nat} {x y : Nat} (ho : o = (pV q r, 0)) (hq : Is q x) (hr : Is r y) (he : e = .returned (.tuple #[.agg #[.int .i64 3, .int .i64 0, .float .f64 x, .float .f64 y], .int .i64 0])) (hb : Below w.heap.size w w') : Leaves2 o w e w' := by
  subst ho; exact ⟨_, _, _, _, he, is_pV hq hr, hb⟩

end Go.Proofs.Ytpfamdpgcbpiaaa
