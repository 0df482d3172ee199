import Derived.Test.YtcllkmdlheggkaaDoorRows
import Derived.ProofKit
import Derived.Lib.SmallJoins
import Derived.Laws.Cover2
namespace Go.Proofs.YtcllkmdlheggkaaDoor
open Go.ChangeShapes Go.WideShapes Go.ChangeAt Go.RowKit Go.Joins

theorem Tryd.own : ownKnob Tryd.prog.godebug = none := by kernel_rfl
theorem Tryd.laidOut : laidOutB Tryd.prog = true := by kernel_rfl
theorem Tryd.cellsV : Tryd.prog.cellsOf 36 = 4 := by kernel_rfl

section
variable {H : Type} {enc : TypeId × Value → H} {w : World} {base : Nat} {spare : Nat → Bool} {held : Bool}

theorem trod_float {P : Program} {t : TypeId} {k : FloatKind} {fuel : Nat} {cs : List Value} {x : DataW H × List MemPlace} (ht : P.underlying t = some (.float k)) (h : DataW.trod enc P w base spare held fuel t cs = some x) :
    ∃ n, cs = [.float k n] ∧ x = (.lit (.float k n), []) ∧ (Lit.float k n).wf = true := by
  cases fuel with
  | zero => simp [DataW.trod] at h
  | succ n =>
    unfold DataW.trod at h
    rw [ht] at h
    split at h <;> simp_all

/-- a value that comes in, opened. -/
theorem openVal {r : Reach} {b0 : Nat} {v : Value} {d : DataW H} {p : List MemPlace} (hv : Value.okWide Tryd.prog w r b0 36 v) (h : DataW.Trod enc Tryd.prog w base spare held 36 v d p) :
    ∃ (k i : Int) (x y : Nat), v = .agg #[.int .i64 k, .int .i64 i, .float .f64 x, .float .f64 y] ∧ d = .agg [.lit (.int .i64 k), .lit (.int .i64 i), .lit (.float .f64 x), .lit (.float .f64 y)] ∧ p = [] ∧
      (Lit.int .i64 k).wf = true ∧ (Lit.int .i64 i).wf = true ∧ (Lit.float .f64 x).wf = true ∧ (Lit.float .f64 y).wf = true := by
  obtain ⟨v0, v1, v2, v3, y0, y1, y2, y3, n, rfl, rfl, rfl, h0, h1, h2, h3⟩ := open_agg4 Tryd.underlying36 (by kernel_rfl) Tryd.cellsV hv h
  obtain ⟨k, e0, rfl, w0⟩ := DataW.trod_int Tryd.underlying3 h0
  obtain ⟨i, e1, rfl, w1⟩ := DataW.trod_int Tryd.underlying3 h1
  obtain ⟨x, e2, rfl, w2⟩ := trod_float Tryd.underlying24 h2
  obtain ⟨y, e3, rfl, w3⟩ := trod_float Tryd.underlying24 h3
  simp only [List.cons.injEq, and_true] at e0 e1 e2 e3
  subst e0 e1 e2 e3
  exact ⟨k, i, x, y, rfl, rfl, rfl, w0, w1, w2, w3⟩

/-- .. and shut. -/
theorem shutVal {k i : Int} {x y : Nat} (w0 : (Lit.int .i64 k).wf = true) (w1 : (Lit.int .i64 i).wf = true) (w2 : (Lit.float .f64 x).wf = true) (w3 : (Lit.float .f64 y).wf = true) :
    DataW.Trod enc Tryd.prog w base spare held 36 (.agg #[.int .i64 k, .int .i64 i, .float .f64 x, .float .f64 y]) (.agg [.lit (.int .i64 k), .lit (.int .i64 i), .lit (.float .f64 x), .lit (.float .f64 y)]) [] :=
  shut_agg4 (y0 := (.lit (.int .i64 k), [])) (y1 := (.lit (.int .i64 i), [])) (y2 := (.lit (.float .f64 x), [])) (y3 := (.lit (.float .f64 y), [])) Tryd.underlying36 (by kernel_rfl) Tryd.cellsV
    ⟨1, by simp [DataW.trod, Tryd.underlying3, w0]⟩ ⟨1, by simp [DataW.trod, Tryd.underlying3, w1]⟩ ⟨1, by simp [DataW.trod, Tryd.underlying24, w2]⟩ ⟨1, by simp [DataW.trod, Tryd.underlying24, w3]⟩
end

theorem lt_of_wf {x : Nat} (h : (Lit.float .f64 x).wf = true) : x < 18446744073709551616 := by simpa [Lit.wf] using h
theorem bd_of_wf {n : Int} (h : (Lit.int .i64 n).wf = true) : -9223372036854775808 ≤ n ∧ n ≤ 9223372036854775807 := by
  have e1 : IntKind.i64.min = -9223372036854775808 := by decide +kernel
  have e2 : IntKind.i64.max = 9223372036854775807 := by decide +kernel
  simp only [Lit.wf, Bool.and_eq_true, decide_eq_true_eq, e1, e2] at h
  exact h
end Go.Proofs.YtcllkmdlheggkaaDoor
