import Derived.Test.YtaakjcjhmeeclaaPw
import Derived.ChangeArms
import Derived.Test.YtaakjcjhmeeclaaK1
namespace Go.Proofs.Ytaakjcjhmeeclaa
open Go.ChangeShapes Go.WideShapes Go.ChangeAt Go.RowKit Go.Joins
set_option linter.unusedVariables false
set_option linter.unusedSimpArgs false
set_option maxRecDepth 100000

theorem Try.cellsEff : Try.prog.cellsOf 55 = 10 := by kernel_rfl
theorem Try.cellsBoo : Try.prog.cellsOf 4 = 1 := by kernel_rfl
theorem Try.cellsEdg : Try.prog.cellsOf 57 = 2 := by kernel_rfl
theorem Try.cellsEdgs : Try.prog.cellsOf 23 = 1 := by kernel_rfl
theorem Try.cellsEffs : Try.prog.cellsOf 24 = 1 := by kernel_rfl
theorem Try.cellsPl : Try.prog.cellsOf 26 = 4 := by kernel_rfl
theorem list10 {α : Type} {l : List α} (h : l.length = 10) : ∃ v0 v1 v2 v3 v4 v5 v6 v7 v8 v9, l = [v0, v1, v2, v3, v4, v5, v6, v7, v8, v9] := by
  match l, h with
  | [v0, v1, v2, v3, v4, v5, v6, v7, v8, v9], _ => exact ⟨v0, v1, v2, v3, v4, v5, v6, v7, v8, v9, rfl⟩
theorem array4 {α : Type} {cs : Array α} (h : cs.size = 4) : ∃ x0 x1 x2 x3, cs = #[x0, x1, x2, x3] := by
  obtain ⟨l⟩ := cs
  match l, h with
  | [a, b, c, d], _ => exact ⟨a, b, c, d, rfl⟩
section
variable {H : Type} {enc : TypeId × Value → H} {w : World} {base : Nat} {spare : Nat → Bool} {held : Bool}
theorem oneEdge (m : Nat) (cs : List Value) (y : DataW H × List MemPlace) (h : DataW.trod enc Try.prog w base spare held m 57 cs = some y) : ∃ a, cEnt w 0 cs a ∧ True := by
  obtain ⟨y0, y1, n, _, hlen, h0, h1⟩ := trod_struct2 Try.underlying57 h
  rw [Try.cellsEdg] at hlen
  match cs, hlen with
  | [v0, v1], _ =>
    simp [Try.cellsI] at h0 h1
    obtain ⟨a, e0, _, _⟩ := DataW.trod_int Try.underlying3 h0
    obtain ⟨b, e1, _, _⟩ := DataW.trod_int Try.underlying3 h1
    simp only [List.cons.injEq, and_true] at e0 e1
    subst e0 e1
    exact ⟨(a, b), rfl, trivial⟩
theorem oneEff (m : Nat) (cs : List Value) (y : DataW H × List MemPlace) (h : DataW.trod enc Try.prog w base spare held m 55 cs = some y) : ∃ a, cEff w 0 cs a ∧ mEf a := by
  obtain ⟨xs, n, _, _, hl, hlen, hf⟩ := DataW.trod_struct Try.underlying55 h
  rw [Try.cellsEff] at hl
  obtain ⟨v0, v1, v2, v3, v4, v5, v6, v7, v8, v9, rfl⟩ := list10 hl
  obtain ⟨y0, y1, y2, y3, y4, y5, y6, y7, y8, y9, rfl⟩ := list10 hlen
  have h0 := hf 0 _ rfl
  have h1 := hf 1 _ rfl
  have h2 := hf 2 _ rfl
  have h3 := hf 3 _ rfl
  have h4 := hf 4 _ rfl
  have h5 := hf 5 _ rfl
  have h6 := hf 6 _ rfl
  have h7 := hf 7 _ rfl
  have h8 := hf 8 _ rfl
  have h9 := hf 9 _ rfl
  clear hf
  simp [Try.cellsIs, Try.cellsBoo] at h0 h1 h2 h3 h4 h5 h6 h7 h8 h9
  obtain ⟨s0, c0, L0, i0, f0, _, m0⟩ := openEls Try.underlying22 Try.cellsI (by omega) oneInt h0
  obtain ⟨s1, c1, L1, i1, f1, _, m1⟩ := openEls Try.underlying22 Try.cellsI (by omega) oneInt h1
  obtain ⟨s2, c2, L2, i2, f2, _, m2⟩ := openEls Try.underlying22 Try.cellsI (by omega) oneInt h2
  obtain ⟨s3, c3, L3, i3, f3, _, m3⟩ := openEls Try.underlying22 Try.cellsI (by omega) oneInt h3
  obtain ⟨s4, c4, L4, i4, f4, _, m4⟩ := openEls Try.underlying22 Try.cellsI (by omega) oneInt h4
  obtain ⟨s5, c5, L5, i5, f5, _, m5⟩ := openEls Try.underlying22 Try.cellsI (by omega) oneInt h5
  obtain ⟨s6, c6, L6, i6, f6, _, m6⟩ := openEls Try.underlying22 Try.cellsI (by omega) oneInt h6
  obtain ⟨s7, c7, L7, i7, f7, _, m7⟩ := openEls Try.underlying22 Try.cellsI (by omega) oneInt h7
  obtain ⟨b8, i8, _⟩ := DataW.trod_bool Try.underlying4 h8
  obtain ⟨b9, i9, _⟩ := DataW.trod_bool Try.underlying4 h9
  simp only [List.cons.injEq, and_true] at i0 i1 i2 i3 i4 i5 i6 i7 i8 i9
  subst i0 i1 i2 i3 i4 i5 i6 i7 i8 i9
  exact ⟨⟨L0, L1, L2, L3, L4, L5, L6, L7, b8, b9⟩, ⟨s0, c0, s1, c1, s2, c2, s3, c3, s4, c4, s5, c5, s6, c6, s7, c7, rfl, ⟨f0, f1, f2, f3, f4, f5, f6, f7⟩⟩, m0, m1, m2, m3, m4, m5, m6, m7⟩
theorem openPlan {r : Reach} {b0 : Nat} {v : Value} {d : DataW H} {p : List MemPlace} (hv : Value.okWide Try.prog w r b0 26 v) (h : DataW.Trod enc Try.prog w base spare held 26 v d p) :
    ∃ a1 a2 a3 a4 c1 c2 c3 c4 P, v = .agg #[.slice a1 (Pln.st P).length c1, .slice a2 P.od.length c2, .slice a3 P.ed.length c3, .slice a4 P.ef.length c4] ∧ InP w 0 a1 a2 a3 a4 P ∧ mP P := by
  obtain ⟨cs, rfl, hsz⟩ := okWide_struct Try.underlying26 hv
  obtain ⟨x0, x1, x2, x3, rfl⟩ := array4 (hsz.trans Try.cellsPl)
  obtain ⟨fuel, hf⟩ := h
  obtain ⟨y0, y1, y2, y3, n, _, _, h0, h1, h2, h3⟩ := trod_struct4 Try.underlying26 hf
  simp [Value.cells, Try.cellsIs, Try.cellsEdgs, Try.cellsEffs] at h0 h1 h2 h3
  obtain ⟨s1, c1, A, e0, f1, _, m1⟩ := openEls Try.underlying22 Try.cellsI (by omega) oneInt h0
  obtain ⟨s2, c2, B, e1, f2, _, m2⟩ := openEls Try.underlying22 Try.cellsI (by omega) oneInt h1
  obtain ⟨s3, c3, C, e2, f3, _, m3⟩ := openEls Try.underlying23 Try.cellsEdg (by omega) oneEdge h2
  obtain ⟨s4, c4, D, e3, f4, m5, m4⟩ := openEls Try.underlying24 Try.cellsEff (by omega) oneEff h3
  simp only [List.cons.injEq, and_true] at e0 e1 e2 e3
  subst e0 e1 e2 e3
  exact ⟨s1, s2, s3, s4, c1, c2, c3, c4, ⟨A, B, C, D⟩, rfl, ⟨f1, f2, f3, f4⟩, ⟨m1, m2, m3, m4, m5⟩⟩
end
end Go.Proofs.Ytaakjcjhmeeclaa
