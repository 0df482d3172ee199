import Derived.Test.YtkbgklnkagpchaaDoorG4
import Derived.Test.YtkbgklnkagpchaaDoorN1
import Derived.ProofKit
import Derived.OpenShut
import Derived.ChangeOld
import Derived.Lib.SmallJoins
namespace Go.Proofs.YtkbgklnkagpchaaDoor
open Go.ChangeShapes Go.WideShapes Go.ChangeAt Go.RowKit Go.Joins
set_option linter.unusedVariables false
set_option linter.unusedSimpArgs false
set_option maxRecDepth 100000

theorem Tryd.cellsMove : Tryd.prog.cellsOf 49 = 2 := by kernel_rfl
section
variable {H : Type} {enc : TypeId × Value → H} {w : World} {base : Nat} {spare : Nat → Bool} {held : Bool}

theorem oneMove (m : Nat) (cs : List Value) (y : DataW H × List MemPlace) (h : DataW.trod enc Tryd.prog w base spare held m 49 cs = some y) : ∃ a : Int × Int, cs = [.int .i64 a.1, .int .i64 a.2] := by
  obtain ⟨y0, y1, n, _, hlen, h0, h1⟩ := trod_struct2 Tryd.underlying49 h
  rw [Tryd.cellsMove] at hlen
  match cs, hlen with
  | [v0, v1], _ =>
    simp [Tryd.cellsI] at h0 h1
    obtain ⟨a, e0, _, _⟩ := DataW.trod_int Tryd.underlying3 h0
    obtain ⟨b, e1, _, _⟩ := DataW.trod_int Tryd.underlying3 h1
    simp only [List.cons.injEq, and_true] at e0 e1
    subst e0 e1
    exact ⟨(a, b), rfl⟩

/-- a list of moves that comes in, opened. -/
theorem openMoves {fuel : Nat} {cs0 : List Value} {y : DataW H × List MemPlace} (h : DataW.trod enc Tryd.prog w base spare held fuel 23 cs0 = some y) :
    ∃ s c L, cs0 = [.slice s (List.length (α := Int × Int) L) c] ∧ Eds w s L ∧ L.length ≤ 9223372036854775807 := by
  rcases DataW.trod_slice Tryd.underlying23 h with ⟨hcs, _⟩ | ⟨a, len, cap, elems, rest, n, _, hcs, _, hb, hl, hm, hlen, hel, _, _⟩
  · exact ⟨none, 0, [], hcs, Or.inl rfl, by simp⟩
  · have each : ∀ i, i < len → ∃ x : Int × Int, ∀ j, j < 2 → w.cell? ((a.add (i * 2)).add j) = [Value.int .i64 x.1, Value.int .i64 x.2][j]? := by
      intro i hi
      have := hel i hi
      obtain ⟨q, hq⟩ : ∃ q, elems[i]? = some q := ⟨elems[i], by simp [hlen, hi]⟩
      rw [hq, Option.bind_eq_some_iff] at this
      obtain ⟨cs, hcs', hy⟩ := this
      have hc := World.cells?_some hcs'
      obtain ⟨x, hx⟩ := oneMove _ _ _ hy
      subst hx
      have h2 := hc.2.2
      rw [Tryd.cellsMove] at h2
      exact ⟨x, h2⟩
    by_cases h0 : len = 0
    · subst h0
      exact ⟨some a, cap, [], by simpa using hcs, Or.inl rfl, by simp⟩
    · have hlenm : len ≤ 9223372036854775807 := by unfold maxLen at hm; omega
      let g : Nat → Int × Int := fun i => if h : i < len then Classical.choose (each i h) else (0, 0)
      have hg : ∀ i, i < len → ∀ j, j < 2 → w.cell? ((a.add (i * 2)).add j) = [Value.int .i64 (g i).1, Value.int .i64 (g i).2][j]? := by
        intro i hi
        have : g i = Classical.choose (each i hi) := by simp [g, hi]
        rw [this]
        exact Classical.choose_spec (each i hi)
      have hL : ((List.range len).map g).length = len := by simp
      obtain ⟨b, off, spot⟩ := a
      have h00 := hg 0 (by omega) 0 (by omega)
      have hspot : spot = none := by simpa [Addr.add] using World.cell?_spot (h00.trans rfl)
      subst hspot
      refine ⟨some ⟨b, off, none⟩, cap, (List.range len).map g, by rw [hL]; exact hcs, Or.inr ⟨b, off, rfl, ?_, fun j hj => ?_⟩, by rw [hL]; exact hlenm⟩
      · have := World.block_lt_of_cell? _ _ (h00.trans rfl)
        simpa [Addr.add] using this
      · rw [hL] at hj
        have e : ((List.range len).map g)[j]?.getD (0, 0) = g j := by simp [hj]
        rw [e]
        have c0 := hg j hj 0 (by omega)
        have c1 := hg j hj 1 (by omega)
        rw [Addr.add_add, add_plain] at c0 c1
        exact ⟨c0, c1⟩
theorem openMv {r : Reach} {b0 : Nat} {v : Value} {d : DataW H} {p : List MemPlace} (hv : Value.okWide Tryd.prog w r b0 23 v) (h : DataW.Trod enc Tryd.prog w base spare held 23 v d p) :
    ∃ s c L, v = .slice s (List.length (α := Int × Int) L) c ∧ Eds w s L ∧ L.length ≤ 9223372036854775807 := by
  obtain ⟨a, len, cap, rfl⟩ := okWide_slice Tryd.underlying23 hv
  obtain ⟨fuel, hf⟩ := h
  obtain ⟨s, c, L, e, f, ml⟩ := openMoves hf
  have e' : [Value.slice a len cap] = [.slice s L.length c] := e
  simp only [List.cons.injEq, and_true] at e'
  exact ⟨s, c, L, e', f, ml⟩
end
end Go.Proofs.YtkbgklnkagpchaaDoor
