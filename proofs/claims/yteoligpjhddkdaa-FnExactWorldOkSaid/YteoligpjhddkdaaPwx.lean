import Derived.Test.YteoligpjhddkdaaPw
import Derived.Test.YteoligpjhddkdaaKd
namespace Go.Proofs.Yteoligpjhddkdaa
open Go.ChangeShapes Go.WideShapes Go.ChangeAt Go.RowKit Go.Joins
set_option linter.unusedVariables false
set_option linter.unusedSimpArgs false
set_option maxRecDepth 100000
section
variable {H : Type} {enc : TypeId × Value → H} {w : World} {base : Nat} {spare : Nat → Bool} {held : Bool}

theorem oneEntB (m : Nat) (cs : List Value) (y : DataW H × List MemPlace) (h : DataW.trod enc Try.prog w base spare held m 53 cs = some y) : ∃ a, cEnt w 0 cs a ∧ bE a := by
  obtain ⟨y0, y1, n, _, hlen, h0, h1⟩ := trod_struct2 Try.underlying53 h
  rw [Try.cellsEnt] at hlen
  match cs, hlen with
  | [v0, v1], _ =>
    simp [Try.cellsI] at h0 h1
    obtain ⟨a, e0, _, wa⟩ := DataW.trod_int Try.underlying3 h0
    obtain ⟨b, e1, _, wb⟩ := DataW.trod_int Try.underlying3 h1
    simp only [List.cons.injEq, and_true] at e0 e1
    subst e0 e1
    exact ⟨(a, b), rfl, bd_of_wf wa, bd_of_wf wb⟩
theorem oneTabB (m : Nat) (cs : List Value) (y : DataW H × List MemPlace) (h : DataW.trod enc Try.prog w base spare held m 124 cs = some y) : ∃ a, cTab w 0 cs a ∧ (mTab a ∧ ∀ x ∈ a.rows, bE x) := by
  obtain ⟨y0, y1, y2, n, _, hlen, h0, h1, h2⟩ := Go.Deep.trod_struct3 Try.underlying124 h
  rw [Try.cellsTab] at hlen
  match cs, hlen with
  | [v0, v1, v2], _ =>
    simp [Try.cellsIs, Try.cellsEs, Try.cellsVss] at h0 h1 h2
    obtain ⟨s1, c1, A, e0, f1, _, m1⟩ := openEls Try.underlying25 Try.cellsI (by omega) oneInt h0
    obtain ⟨s2, c2, B, e1, f2, mb, m2⟩ := openEls Try.underlying121 Try.cellsEnt (by omega) oneEntB h1
    obtain ⟨s3, c3, C, e2, f3, m3, m4⟩ := openEls Try.underlying122 Try.cellsVs (by omega) oneVals h2
    simp only [List.cons.injEq, and_true] at e0 e1 e2
    subst e0 e1 e2
    exact ⟨⟨A, B, C⟩, ⟨s1, c1, s2, c2, s3, c3, rfl, f1, f2, f3⟩, ⟨m1, m2, m4, m3⟩, mb⟩
theorem openWorldB {r : Reach} {b0 : Nat} {v : Value} {d : DataW H} {p : List MemPlace} (hv : Value.okWide Try.prog w r b0 31 v) (h : DataW.Trod enc Try.prog w base spare held 31 v d p) :
    ∃ a1 a2 a3 a4 c1 c2 c3 c4 W, v = .agg #[.slice a1 (Wd.gens W).length c1, .slice a2 W.free.length c2, .slice a3 W.tabs.length c3, .slice a4 W.res.length c4] ∧ InW w 0 a1 a2 a3 a4 W ∧ mW W ∧ ∀ t ∈ W.tabs, ∀ x ∈ t.rows, bE x := by
  obtain ⟨cs, rfl, hsz⟩ := okWide_struct Try.underlying31 hv
  obtain ⟨x0, x1, x2, x3, rfl⟩ := array4 (hsz.trans Try.cellsWd)
  obtain ⟨fuel, hf⟩ := h
  obtain ⟨y0, y1, y2, n, _, _, h0, h1, h2⟩ := Go.Deep.trod_struct3 Try.underlying31 hf
  simp [Value.cells, Try.cellsEnts, Try.cellsTs, Try.cellsVs] at h0 h1 h2
  obtain ⟨z0, z1, m, _, _, g0, g1⟩ := trod_struct2 Try.underlying27 h0
  simp [Try.cellsIs] at g0 g1
  obtain ⟨s1, c1, A, e0, f1, _, m1⟩ := openEls Try.underlying25 Try.cellsI (by omega) oneInt g0
  obtain ⟨s2, c2, B, e1, f2, _, m2⟩ := openEls Try.underlying25 Try.cellsI (by omega) oneInt g1
  obtain ⟨s3, c3, C, e2, f3, m3, m4⟩ := openEls Try.underlying28 Try.cellsTab (by omega) oneTabB h1
  obtain ⟨s4, c4, D, e3, f4, _, m5⟩ := openEls Try.underlying29 Try.cellsVal (by omega) oneVal h2
  simp only [List.cons.injEq, and_true] at e0 e1 e2 e3
  subst e0 e1 e2 e3
  exact ⟨s1, s2, s3, s4, c1, c2, c3, c4, ⟨A, B, C, D⟩, rfl, ⟨f1, f2, f3, f4⟩, ⟨m1, m2, ⟨m4, fun t ht => (m3 t ht).1⟩, m5⟩, fun t ht => (m3 t ht).2⟩
theorem openEntB {r : Reach} {b0 : Nat} {v : Value} {d : DataW H} {p : List MemPlace} (hv : Value.okWide Try.prog w r b0 53 v) (h : DataW.Trod enc Try.prog w base spare held 53 v d p) :
    ∃ e : E2, v = .agg #[.int .i64 e.1, .int .i64 e.2] ∧ bE e := by
  obtain ⟨v0, v1, y0, y1, n, rfl, rfl, rfl, h0, h1⟩ := open_agg2 Try.underlying53 (by kernel_rfl) Try.cellsEnt hv h
  obtain ⟨a, e0, rfl, w0⟩ := DataW.trod_int Try.underlying3 h0
  obtain ⟨g, e1, rfl, w1⟩ := DataW.trod_int Try.underlying3 h1
  simp only [List.cons.injEq, and_true] at e0 e1
  subst e0 e1
  exact ⟨(a, g), rfl, bd_of_wf w0, bd_of_wf w1⟩
end
end Go.Proofs.Yteoligpjhddkdaa
