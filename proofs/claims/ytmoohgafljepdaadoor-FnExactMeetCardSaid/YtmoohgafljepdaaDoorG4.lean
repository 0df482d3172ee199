import Derived.Test.YtmoohgafljepdaaDoorG2
import Derived.ProofKit
import Derived.OpenShut
import Derived.ChangeOld
import Derived.Lib.SmallJoins
namespace Go.Proofs.YtmoohgafljepdaaDoor
open Go.ChangeShapes Go.WideShapes Go.ChangeAt Go.RowKit Go.Joins
set_option linter.unusedVariables false
set_option linter.unusedSimpArgs false
set_option maxRecDepth 100000

theorem Tryd.own : ownKnob Tryd.prog.godebug = none := by kernel_rfl
theorem Tryd.laidOut : laidOutB Tryd.prog = true := by kernel_rfl
theorem Tryd.cellsI : Tryd.prog.cellsOf 3 = 1 := by kernel_rfl
theorem Tryd.cellsEdge : Tryd.prog.cellsOf 48 = 2 := by kernel_rfl

section
variable {H : Type} {enc : TypeId × Value → H} {w : World} {base : Nat} {spare : Nat → Bool} {held : Bool}

theorem openInts {fuel : Nat} {v : Value} {y : DataW H × List MemPlace} (h : DataW.trod enc Tryd.prog w base spare held fuel 36 [v] = some y) :
    ∃ s c G, v = .slice s (List.length (α := Int) G) c ∧ Ints w s G ∧ G.length ≤ 9223372036854775807 := by
  rcases open_ints Tryd.underlying36 Tryd.underlying3 (by kernel_rfl) h with ⟨hcs, _⟩ | ⟨x, l, c, zs, hcs, _, hl, hm, hz, _, hcell, hwz⟩
  · simp at hcs
    exact ⟨none, 0, [], hcs, Or.inl rfl, by simp⟩
  · simp at hcs
    have hz' : l ≤ zs.length := by rw [hz]; split <;> omega
    have hlen : (zs.take l).length = l := by simp; omega
    refine ⟨some x, c, zs.take l, by rw [hlen]; exact hcs, ?_, by rw [hlen]; unfold maxLen at hm; omega⟩
    by_cases he : l = 0
    · left; simp [he]
    · obtain ⟨b, off, rfl, hc⟩ := ints_at hcell (by omega)
      refine Or.inr ⟨b, off, rfl, World.block_lt_of_cell? _ _ (hc 0 (by omega)), fun j hj => ?_⟩
      rw [hlen] at hj
      rw [hc j (by omega)]
      simp [hj]
theorem openIs {r : Reach} {b0 : Nat} {v : Value} {d : DataW H} {p : List MemPlace} (hv : Value.okWide Tryd.prog w r b0 36 v) (h : DataW.Trod enc Tryd.prog w base spare held 36 v d p) :
    ∃ s c L, v = .slice s (List.length (α := Int) L) c ∧ Ints w s L ∧ L.length ≤ 9223372036854775807 := by
  obtain ⟨a, len, cap, rfl⟩ := okWide_slice Tryd.underlying36 hv
  obtain ⟨fuel, hf⟩ := h
  exact openInts hf

theorem bd_of_wf {n : Int} (h : (Lit.int .i64 n).wf = true) : -9223372036854775808 ≤ n ∧ n ≤ 9223372036854775807 := by
  have e1 : IntKind.i64.min = -9223372036854775808 := by decide +kernel
  have e2 : IntKind.i64.max = 9223372036854775807 := by decide +kernel
  simp only [Lit.wf, Bool.and_eq_true, decide_eq_true_eq, e1, e2] at h
  exact h
theorem openIw {r : Reach} {b0 : Nat} {v : Value} {d : DataW H} {p : List MemPlace} (hv : Value.okWide Tryd.prog w r b0 3 v) (h : DataW.Trod enc Tryd.prog w base spare held 3 v d p) :
    ∃ n : Int, v = .int .i64 n ∧ (-9223372036854775808 ≤ n ∧ n ≤ 9223372036854775807) := by
  obtain ⟨x, rfl, rfl, rfl, wx⟩ := open_int Tryd.underlying3 hv h
  exact ⟨x, rfl, bd_of_wf wx⟩

theorem oneEdge (m : Nat) (cs : List Value) (y : DataW H × List MemPlace) (h : DataW.trod enc Tryd.prog w base spare held m 48 cs = some y) : ∃ a : Int × Int, cs = [.int .i64 a.1, .int .i64 a.2] := by
  obtain ⟨y0, y1, n, _, hlen, h0, h1⟩ := trod_struct2 Tryd.underlying48 h
  rw [Tryd.cellsEdge] at hlen
  match cs, hlen with
  | [v0, v1], _ =>
    simp [Tryd.cellsI] at h0 h1
    obtain ⟨a, e0, _, _⟩ := DataW.trod_int Tryd.underlying3 h0
    obtain ⟨b, e1, _, _⟩ := DataW.trod_int Tryd.underlying3 h1
    simp only [List.cons.injEq, and_true] at e0 e1
    subst e0 e1
    exact ⟨(a, b), rfl⟩

/-- a list of edges that comes in, opened. -/
theorem openEdges {fuel : Nat} {cs0 : List Value} {y : DataW H × List MemPlace} (h : DataW.trod enc Tryd.prog w base spare held fuel 22 cs0 = some y) :
    ∃ s c L, cs0 = [.slice s (List.length (α := Int × Int) L) c] ∧ Eds w s L ∧ L.length ≤ 9223372036854775807 := by
  rcases DataW.trod_slice Tryd.underlying22 h with ⟨hcs, _⟩ | ⟨a, len, cap, elems, rest, n, _, hcs, _, hb, hl, hm, hlen, hel, _, _⟩
  · exact ⟨none, 0, [], hcs, Or.inl rfl, by simp⟩
  · have each : ∀ i, i < len → ∃ x : Int × Int, ∀ j, j < 2 → w.cell? ((a.add (i * 2)).add j) = [Value.int .i64 x.1, Value.int .i64 x.2][j]? := by
      intro i hi
      have := hel i hi
      obtain ⟨q, hq⟩ : ∃ q, elems[i]? = some q := ⟨elems[i], by simp [hlen, hi]⟩
      rw [hq, Option.bind_eq_some_iff] at this
      obtain ⟨cs, hcs', hy⟩ := this
      have hc := World.cells?_some hcs'
      obtain ⟨x, hx⟩ := oneEdge _ _ _ hy
      subst hx
      have h2 := hc.2.2
      rw [Tryd.cellsEdge] at h2
      exact ⟨x, h2⟩
    by_cases h0 : len = 0
    · subst h0
      exact ⟨some a, cap, [], by simpa using hcs, Or.inl rfl, by simp⟩
    · have hlenm : len ≤ 9223372036854775807 := by unfold maxLen at hm; omega
      let g : Nat → Int × Int := fun i => if h : i < len then Classical.choose (each i h) else (0, 0)
      have hg : ∀ i, i < len → ∀ j, j < 2 → w.cell? ((a.add (i * 2)).add j) = [Value.int .i64 (g i).1, Value.int .i64 (g i).2][j]? := by
        intro i hi
        have : g i = Classical.choose (each i hi) := by simp [g, hi]
        rw [this]
        exact Classical.choose_spec (each i hi)
      have hL : ((List.range len).map g).length = len := by simp
      obtain ⟨b, off, spot⟩ := a
      have h00 := hg 0 (by omega) 0 (by omega)
      have hspot : spot = none := by simpa [Addr.add] using World.cell?_spot (h00.trans rfl)
      subst hspot
      refine ⟨some ⟨b, off, none⟩, cap, (List.range len).map g, by rw [hL]; exact hcs, Or.inr ⟨b, off, rfl, ?_, fun j hj => ?_⟩, by rw [hL]; exact hlenm⟩
      · have := World.block_lt_of_cell? _ _ (h00.trans rfl)
        simpa [Addr.add] using this
      · rw [hL] at hj
        have e : ((List.range len).map g)[j]?.getD (0, 0) = g j := by simp [hj]
        rw [e]
        have c0 := hg j hj 0 (by omega)
        have c1 := hg j hj 1 (by omega)
        rw [Addr.add_add, add_plain] at c0 c1
        exact ⟨c0, c1⟩
theorem openEd {r : Reach} {b0 : Nat} {v : Value} {d : DataW H} {p : List MemPlace} (hv : Value.okWide Tryd.prog w r b0 22 v) (h : DataW.Trod enc Tryd.prog w base spare held 22 v d p) :
    ∃ s c L, v = .slice s (List.length (α := Int × Int) L) c ∧ Eds w s L ∧ L.length ≤ 9223372036854775807 := by
  obtain ⟨a, len, cap, rfl⟩ := okWide_slice Tryd.underlying22 hv
  obtain ⟨fuel, hf⟩ := h
  obtain ⟨s, c, L, e, f, ml⟩ := openEdges hf
  have e' : [Value.slice a len cap] = [.slice s L.length c] := e
  simp only [List.cons.injEq, and_true] at e'
  exact ⟨s, c, L, e', f, ml⟩
end
end Go.Proofs.YtmoohgafljepdaaDoor
