import Derived.Test.YtknallkcengbbaaGreatDoorTb
import Derived.ProofKit
import Derived.OpenShut
import Derived.ChangeOld
import Derived.Lib.SmallJoins
namespace Go.Proofs.YtknallkcengbbaaGreatDoor
open Go.ChangeShapes Go.WideShapes Go.ChangeAt Go.RowKit Go.Joins
set_option linter.unusedVariables false
set_option linter.unusedSimpArgs false
set_option maxRecDepth 100000

theorem Tryz.own : ownKnob Tryz.prog.godebug = none := by kernel_rfl
theorem Tryz.laidOut : laidOutB Tryz.prog = true := by kernel_rfl
theorem Tryz.cellsI : Tryz.prog.cellsOf 3 = 1 := by kernel_rfl
theorem Tryz.cellsF : Tryz.prog.cellsOf 74 = 1 := by kernel_rfl
theorem Tryz.cellsIs : Tryz.prog.cellsOf 23 = 1 := by kernel_rfl
section
variable {H : Type} {enc : TypeId × Value → H} {w : World} {base : Nat} {spare : Nat → Bool} {held : Bool}

theorem trod_float {P : Program} {t : TypeId} {k : FloatKind} {fuel : Nat} {cs : List Value} {x : DataW H × List MemPlace} (ht : P.underlying t = some (.float k)) (h : DataW.trod enc P w base spare held fuel t cs = some x) :
    ∃ n, cs = [.float k n] ∧ x = (.lit (.float k n), []) ∧ (Lit.float k n).wf = true := by
  cases fuel with
  | zero => simp [DataW.trod] at h
  | succ n =>
    unfold DataW.trod at h
    rw [ht] at h
    split at h <;> simp_all

theorem lt_of_wf {x : Nat} (h : (Lit.float .f64 x).wf = true) : x < 18446744073709551616 := by simpa [Lit.wf] using h
theorem bd_of_wf {n : Int} (h : (Lit.int .i64 n).wf = true) : -9223372036854775808 ≤ n ∧ n ≤ 9223372036854775807 := by
  have e1 : IntKind.i64.min = -9223372036854775808 := by decide +kernel
  have e2 : IntKind.i64.max = 9223372036854775807 := by decide +kernel
  simp only [Lit.wf, Bool.and_eq_true, decide_eq_true_eq, e1, e2] at h
  exact h

/-- a slice that comes in, opened: each element by its own opening. -/
theorem openEls {α : Type} {t e : TypeId} {k : Nat} {E : World → Nat → List Value → α → Prop} {ok : α → Prop} (ht : Tryz.prog.underlying t = some (.slice e)) (hc : Tryz.prog.cellsOf e = k) (hk : 0 < k)
    (one : ∀ (m : Nat) (cs : List Value) (y : DataW H × List MemPlace), DataW.trod enc Tryz.prog w base spare held m e cs = some y → ∃ a, E w 0 cs a ∧ ok a)
    {fuel : Nat} {cs0 : List Value} {y : DataW H × List MemPlace} (h : DataW.trod enc Tryz.prog w base spare held fuel t cs0 = some y) :
    ∃ s c L, cs0 = [.slice s (List.length (α := α) L) c] ∧ Els k E w 0 s L ∧ (∀ a ∈ L, ok a) ∧ L.length ≤ 9223372036854775807 := by
  subst hc
  rcases DataW.trod_slice ht h with ⟨hcs, _⟩ | ⟨a, len, cap, elems, rest, n, _, hcs, _, hb, hl, hm, hlen, hel, _, _⟩
  · exact ⟨none, 0, [], hcs, Or.inl rfl, fun a ha => by simp at ha, by simp⟩
  · have each : ∀ i, i < len → ∃ (x : α) (cs : List Value), cs.length = Tryz.prog.cellsOf e ∧ (∀ j, j < Tryz.prog.cellsOf e → w.cell? ((a.add (i * Tryz.prog.cellsOf e)).add j) = cs[j]?) ∧ E w 0 cs x ∧ ok x := by
      intro i hi
      have := hel i hi
      obtain ⟨q, hq⟩ : ∃ q, elems[i]? = some q := ⟨elems[i], by simp [hlen, hi]⟩
      rw [hq, Option.bind_eq_some_iff] at this
      obtain ⟨cs, hcs', hy⟩ := this
      have hc := World.cells?_some hcs'
      obtain ⟨x, hx, hok⟩ := one _ _ _ hy
      exact ⟨x, cs, hc.2.1, hc.2.2, hx, hok⟩
    by_cases h0 : len = 0
    · subst h0
      exact ⟨some a, cap, [], by simpa using hcs, Or.inl rfl, fun a ha => by simp at ha, by simp⟩
    · have hlenm : len ≤ 9223372036854775807 := by unfold maxLen at hm; omega
      let g : Nat → α := fun i => if h : i < len then Classical.choose (each i h) else Classical.choose (each 0 (by omega))
      have hg : ∀ i, i < len → ∃ cs, cs.length = Tryz.prog.cellsOf e ∧ (∀ j, j < Tryz.prog.cellsOf e → w.cell? ((a.add (i * Tryz.prog.cellsOf e)).add j) = cs[j]?) ∧ E w 0 cs (g i) ∧ ok (g i) := by
        intro i hi
        have : g i = Classical.choose (each i hi) := by simp [g, hi]
        rw [this]
        exact Classical.choose_spec (each i hi)
      have hL : ((List.range len).map g).length = len := by simp
      obtain ⟨b, off, spot⟩ := a
      obtain ⟨cs00, c00, c01, _⟩ := hg 0 (by omega)
      have h00 := c01 0 hk
      obtain ⟨u0, hu0⟩ : ∃ u, cs00[0]? = some u := ⟨cs00[0], by simp [c00, hk]⟩
      rw [hu0] at h00
      have hspot : spot = none := by simpa [Addr.add] using World.cell?_spot h00
      subst hspot
      refine ⟨some ⟨b, off, none⟩, cap, (List.range len).map g, by rw [hL]; exact hcs, Or.inr ⟨b, off, rfl, Nat.zero_le _, ?_, fun j x hx => ?_, fun h => absurd h (by omega)⟩, ?_, by rw [hL]; exact hlenm⟩
      · have := World.block_lt_of_cell? _ _ h00
        simpa [Addr.add] using this
      · have hj : j < len := by
          have := (List.getElem?_eq_some_iff.1 hx).1
          simpa using this
        obtain ⟨cs, d1, d2, d3, d4⟩ := hg j hj
        have ex : x = g j := by simp [hj] at hx; exact hx.symm
        subst ex
        refine ⟨cs, d1, fun i u hu => ?_, d3⟩
        have hi : i < Tryz.prog.cellsOf e := by rw [← d1]; exact (List.getElem?_eq_some_iff.1 hu).1
        have := d2 i hi
        rw [hu] at this
        rw [Addr.add_add, add_plain, ← Nat.add_assoc] at this
        exact this
      · intro x hx
        simp only [List.mem_map, List.mem_range] at hx
        obtain ⟨i, hi, rfl⟩ := hx
        obtain ⟨_, _, _, _, d4⟩ := hg i hi
        exact d4

theorem oneInt (m : Nat) (cs : List Value) (y : DataW H × List MemPlace) (h : DataW.trod enc Tryz.prog w base spare held m 3 cs = some y) : ∃ a, cInt w 0 cs a ∧ True := by
  obtain ⟨n, e0, _, _⟩ := DataW.trod_int Tryz.underlying3 h
  exact ⟨n, e0, trivial⟩
theorem openIw {r : Reach} {b0 : Nat} {v : Value} {d : DataW H} {p : List MemPlace} (hv : Value.okWide Tryz.prog w r b0 3 v) (h : DataW.Trod enc Tryz.prog w base spare held 3 v d p) :
    ∃ n : Int, v = .int .i64 n ∧ (-9223372036854775808 ≤ n ∧ n ≤ 9223372036854775807) := by
  obtain ⟨x, rfl, rfl, rfl, wx⟩ := open_int Tryz.underlying3 hv h
  exact ⟨x, rfl, bd_of_wf wx⟩
end
end Go.Proofs.YtknallkcengbbaaGreatDoor
