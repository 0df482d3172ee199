import Derived.Test.YtknallkcengbbaaGreatDoorPw
import Derived.ChangeArms
import Derived.Test.YtknallkcengbbaaGreatDoorJa
namespace Go.Proofs.YtknallkcengbbaaGreatDoor
open Go.ChangeShapes Go.WideShapes Go.ChangeAt Go.RowKit Go.Joins
set_option linter.unusedVariables false
set_option linter.unusedSimpArgs false
set_option maxRecDepth 100000

theorem Tryz.cellsNode : Tryz.prog.cellsOf 53 = 4 := by kernel_rfl
theorem Tryz.cellsTree : Tryz.prog.cellsOf 25 = 2 := by kernel_rfl
theorem Tryz.cellsStr : Tryz.prog.cellsOf 9 = 1 := by kernel_rfl
theorem Tryz.cellsNodeS : Tryz.prog.cellsOf 22 = 1 := by kernel_rfl
section
variable {H : Type} {enc : TypeId × Value → H} {w : World} {base : Nat} {spare : Nat → Bool} {held : Bool}
theorem oneIntB (m : Nat) (cs : List Value) (y : DataW H × List MemPlace) (h : DataW.trod enc Tryz.prog w base spare held m 3 cs = some y) : ∃ a, cInt w 0 cs a ∧ okI a := by
  obtain ⟨n, e0, _, wf⟩ := DataW.trod_int Tryz.underlying3 h
  exact ⟨n, e0, bd_of_wf wf⟩
theorem oneNode (m : Nat) (cs : List Value) (y : DataW H × List MemPlace) (h : DataW.trod enc Tryz.prog w base spare held m 53 cs = some y) : ∃ a, cNode w 0 cs a ∧ mNode a := by
  obtain ⟨y0, y1, y2, y3, n, _, hlen, h0, h1, h2, h3⟩ := trod_struct4 Tryz.underlying53 h
  rw [Tryz.cellsNode] at hlen
  match cs, hlen with
  | [v0, v1, v2, v3], _ =>
    simp [Tryz.cellsI, Tryz.cellsStr, Tryz.cellsIs] at h0 h1 h2 h3
    obtain ⟨a, e0, _, wa⟩ := DataW.trod_int Tryz.underlying3 h0
    obtain ⟨b, e1, _, wb⟩ := DataW.trod_string Tryz.underlying9 h1
    obtain ⟨c, e2, _, wc⟩ := DataW.trod_int Tryz.underlying3 h2
    obtain ⟨s, cap, L, e3, f3, m3, m4⟩ := openEls Tryz.underlying23 Tryz.cellsI (by omega) oneIntB h3
    simp only [List.cons.injEq, and_true] at e0 e1 e2 e3
    subst e0 e1 e2 e3
    exact ⟨⟨a, b, c, L⟩, ⟨s, cap, rfl, f3⟩, ⟨bd_of_wf wa, bd_of_wf wc⟩, (by have := wb; unfold maxLen at this; omega), m4, m3⟩
theorem openTree {r : Reach} {b0 : Nat} {v : Value} {d : DataW H} {p : List MemPlace} (hv : Value.okWide Tryz.prog w r b0 25 v) (h : DataW.Trod enc Tryz.prog w base spare held 25 v d p) :
    ∃ s1 s2 c1 c2 t, v = .agg #[.slice s1 (Tre.nodes t).length c1, .slice s2 t.tops.length c2] ∧ InT w 0 s1 s2 t ∧ mTre t := by
  obtain ⟨cs, rfl, hsz⟩ := okWide_struct Tryz.underlying25 hv
  obtain ⟨fuel, hf⟩ := h
  obtain ⟨y0, y1, m, _, hlen, g0, g1⟩ := trod_struct2 Tryz.underlying25 hf
  rw [Tryz.cellsTree] at hsz
  obtain ⟨l⟩ := cs
  match l, hsz with
  | [v0, v1], _ =>
    simp [Value.cells, Tryz.cellsNodeS, Tryz.cellsIs] at g0 g1
    obtain ⟨s1, c1, A, e0, f1, m1, m2⟩ := openEls Tryz.underlying22 Tryz.cellsNode (by omega) oneNode g0
    obtain ⟨s2, c2, B, e1, f2, m3, m4⟩ := openEls Tryz.underlying23 Tryz.cellsI (by omega) oneIntB g1
    simp only [List.cons.injEq, and_true] at e0 e1
    subst e0 e1
    exact ⟨s1, s2, c1, c2, ⟨A, B⟩, rfl, ⟨f1, f2⟩, m2, m1, m4, m3⟩
end
end Go.Proofs.YtknallkcengbbaaGreatDoor
