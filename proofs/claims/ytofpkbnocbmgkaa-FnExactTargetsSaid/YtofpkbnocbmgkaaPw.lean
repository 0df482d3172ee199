import Derived.Test.YtofpkbnocbmgkaaTb
import Derived.ProofKit
import Derived.OpenShut
import Derived.ChangeOld
import Derived.Lib.SmallJoins
namespace Go.Proofs.Ytofpkbnocbmgkaa
open Go.ChangeShapes Go.WideShapes Go.ChangeAt Go.RowKit Go.Joins
set_option linter.unusedVariables false
set_option linter.unusedSimpArgs false
set_option maxRecDepth 100000

theorem Try.own : ownKnob Try.prog.godebug = none := by kernel_rfl
theorem Try.laidOut : laidOutB Try.prog = true := by kernel_rfl
theorem Try.cellsI : Try.prog.cellsOf 3 = 1 := by kernel_rfl
theorem Try.cellsF : Try.prog.cellsOf 36 = 1 := by kernel_rfl
theorem Try.cellsEnt : Try.prog.cellsOf 33 = 2 := by kernel_rfl
theorem Try.cellsEnts : Try.prog.cellsOf 27 = 2 := by kernel_rfl
theorem Try.cellsVal : Try.prog.cellsOf 108 = 4 := by kernel_rfl
theorem Try.cellsVs : Try.prog.cellsOf 29 = 1 := by kernel_rfl
theorem Try.cellsVss : Try.prog.cellsOf 131 = 1 := by kernel_rfl
theorem Try.cellsIs : Try.prog.cellsOf 25 = 1 := by kernel_rfl
theorem Try.cellsEs : Try.prog.cellsOf 130 = 1 := by kernel_rfl
theorem Try.cellsTab : Try.prog.cellsOf 133 = 3 := by kernel_rfl
theorem Try.cellsTs : Try.prog.cellsOf 28 = 1 := by kernel_rfl
theorem Try.cellsWd : Try.prog.cellsOf 31 = 4 := by kernel_rfl

section
variable {H : Type} {enc : TypeId × Value → H} {w : World} {base : Nat} {spare : Nat → Bool} {held : Bool}

theorem trod_float {P : Program} {t : TypeId} {k : FloatKind} {fuel : Nat} {cs : List Value} {x : DataW H × List MemPlace} (ht : P.underlying t = some (.float k)) (h : DataW.trod enc P w base spare held fuel t cs = some x) :
    ∃ n, cs = [.float k n] ∧ x = (.lit (.float k n), []) ∧ (Lit.float k n).wf = true := by
  cases fuel with
  | zero => simp [DataW.trod] at h
  | succ n =>
    unfold DataW.trod at h
    rw [ht] at h
    split at h <;> simp_all

theorem lt_of_wf {x : Nat} (h : (Lit.float .f64 x).wf = true) : x < 18446744073709551616 := by simpa [Lit.wf] using h
theorem bd_of_wf {n : Int} (h : (Lit.int .i64 n).wf = true) : -9223372036854775808 ≤ n ∧ n ≤ 9223372036854775807 := by
  have e1 : IntKind.i64.min = -9223372036854775808 := by decide +kernel
  have e2 : IntKind.i64.max = 9223372036854775807 := by decide +kernel
  simp only [Lit.wf, Bool.and_eq_true, decide_eq_true_eq, e1, e2] at h
  exact h

/-- a slice that comes in, opened: each element by its own opening. -/
theorem openEls {α : Type} {t e : TypeId} {k : Nat} {E : World → Nat → List Value → α → Prop} {ok : α → Prop} (ht : Try.prog.underlying t = some (.slice e)) (hc : Try.prog.cellsOf e = k) (hk : 0 < k)
    (one : ∀ (m : Nat) (cs : List Value) (y : DataW H × List MemPlace), DataW.trod enc Try.prog w base spare held m e cs = some y → ∃ a, E w 0 cs a ∧ ok a)
    {fuel : Nat} {cs0 : List Value} {y : DataW H × List MemPlace} (h : DataW.trod enc Try.prog w base spare held fuel t cs0 = some y) :
    ∃ s c L, cs0 = [.slice s (List.length (α := α) L) c] ∧ Els k E w 0 s L ∧ (∀ a ∈ L, ok a) ∧ L.length ≤ 9223372036854775807 := by
  subst hc
  rcases DataW.trod_slice ht h with ⟨hcs, _⟩ | ⟨a, len, cap, elems, rest, n, _, hcs, _, hb, hl, hm, hlen, hel, _, _⟩
  · exact ⟨none, 0, [], hcs, Or.inl rfl, fun a ha => by simp at ha, by simp⟩
  · have each : ∀ i, i < len → ∃ (x : α) (cs : List Value), cs.length = Try.prog.cellsOf e ∧ (∀ j, j < Try.prog.cellsOf e → w.cell? ((a.add (i * Try.prog.cellsOf e)).add j) = cs[j]?) ∧ E w 0 cs x ∧ ok x := by
      intro i hi
      have := hel i hi
      obtain ⟨q, hq⟩ : ∃ q, elems[i]? = some q := ⟨elems[i], by simp [hlen, hi]⟩
      rw [hq, Option.bind_eq_some_iff] at this
      obtain ⟨cs, hcs', hy⟩ := this
      have hc := World.cells?_some hcs'
      obtain ⟨x, hx, hok⟩ := one _ _ _ hy
      exact ⟨x, cs, hc.2.1, hc.2.2, hx, hok⟩
    by_cases h0 : len = 0
    · subst h0
      exact ⟨some a, cap, [], by simpa using hcs, Or.inl rfl, fun a ha => by simp at ha, by simp⟩
    · have hlenm : len ≤ 9223372036854775807 := by unfold maxLen at hm; omega
      let g : Nat → α := fun i => if h : i < len then Classical.choose (each i h) else Classical.choose (each 0 (by omega))
      have hg : ∀ i, i < len → ∃ cs, cs.length = Try.prog.cellsOf e ∧ (∀ j, j < Try.prog.cellsOf e → w.cell? ((a.add (i * Try.prog.cellsOf e)).add j) = cs[j]?) ∧ E w 0 cs (g i) ∧ ok (g i) := by
        intro i hi
        have : g i = Classical.choose (each i hi) := by simp [g, hi]
        rw [this]
        exact Classical.choose_spec (each i hi)
      have hL : ((List.range len).map g).length = len := by simp
      obtain ⟨b, off, spot⟩ := a
      obtain ⟨cs00, c00, c01, _⟩ := hg 0 (by omega)
      have h00 := c01 0 hk
      obtain ⟨u0, hu0⟩ : ∃ u, cs00[0]? = some u := ⟨cs00[0], by simp [c00, hk]⟩
      rw [hu0] at h00
      have hspot : spot = none := by simpa [Addr.add] using World.cell?_spot h00
      subst hspot
      refine ⟨some ⟨b, off, none⟩, cap, (List.range len).map g, by rw [hL]; exact hcs, Or.inr ⟨b, off, rfl, Nat.zero_le _, ?_, fun j x hx => ?_, fun h => absurd h (by omega)⟩, ?_, by rw [hL]; exact hlenm⟩
      · have := World.block_lt_of_cell? _ _ h00
        simpa [Addr.add] using this
      · have hj : j < len := by
          have := (List.getElem?_eq_some_iff.1 hx).1
          simpa using this
        obtain ⟨cs, d1, d2, d3, d4⟩ := hg j hj
        have ex : x = g j := by simp [hj] at hx; exact hx.symm
        subst ex
        refine ⟨cs, d1, fun i u hu => ?_, d3⟩
        have hi : i < Try.prog.cellsOf e := by rw [← d1]; exact (List.getElem?_eq_some_iff.1 hu).1
        have := d2 i hi
        rw [hu] at this
        rw [Addr.add_add, add_plain, ← Nat.add_assoc] at this
        exact this
      · intro x hx
        simp only [List.mem_map, List.mem_range] at hx
        obtain ⟨i, hi, rfl⟩ := hx
        obtain ⟨_, _, _, _, d4⟩ := hg i hi
        exact d4

theorem oneInt (m : Nat) (cs : List Value) (y : DataW H × List MemPlace) (h : DataW.trod enc Try.prog w base spare held m 3 cs = some y) : ∃ a, cInt w 0 cs a ∧ True := by
  obtain ⟨n, e0, _, _⟩ := DataW.trod_int Try.underlying3 h
  exact ⟨n, e0, trivial⟩
theorem oneEnt (m : Nat) (cs : List Value) (y : DataW H × List MemPlace) (h : DataW.trod enc Try.prog w base spare held m 33 cs = some y) : ∃ a, cEnt w 0 cs a ∧ True := by
  obtain ⟨y0, y1, n, _, hlen, h0, h1⟩ := trod_struct2 Try.underlying33 h
  rw [Try.cellsEnt] at hlen
  match cs, hlen with
  | [v0, v1], _ =>
    simp [Try.cellsI] at h0 h1
    obtain ⟨a, e0, _, _⟩ := DataW.trod_int Try.underlying3 h0
    obtain ⟨b, e1, _, _⟩ := DataW.trod_int Try.underlying3 h1
    simp only [List.cons.injEq, and_true] at e0 e1
    subst e0 e1
    exact ⟨(a, b), rfl, trivial⟩
theorem oneVal (m : Nat) (cs : List Value) (y : DataW H × List MemPlace) (h : DataW.trod enc Try.prog w base spare held m 108 cs = some y) : ∃ a, cVal w 0 cs a ∧ True := by
  obtain ⟨y0, y1, y2, y3, n, _, hlen, h0, h1, h2, h3⟩ := trod_struct4 Try.underlying108 h
  rw [Try.cellsVal] at hlen
  match cs, hlen with
  | [v0, v1, v2, v3], _ =>
    simp [Try.cellsI, Try.cellsF] at h0 h1 h2 h3
    obtain ⟨a, e0, _, _⟩ := DataW.trod_int Try.underlying3 h0
    obtain ⟨b, e1, _, wb⟩ := DataW.trod_int Try.underlying3 h1
    obtain ⟨c, e2, _, wc⟩ := trod_float Try.underlying36 h2
    obtain ⟨d, e3, _, wd⟩ := trod_float Try.underlying36 h3
    simp only [List.cons.injEq, and_true] at e0 e1 e2 e3
    subst e0 e1 e2 e3
    exact ⟨(a, b, c, d), ⟨rfl, bd_of_wf wb, lt_of_wf wc, lt_of_wf wd⟩, trivial⟩
theorem oneVals (m : Nat) (cs : List Value) (y : DataW H × List MemPlace) (h : DataW.trod enc Try.prog w base spare held m 29 cs = some y) : ∃ a, cVals w 0 cs a ∧ a.length ≤ 9223372036854775807 := by
  obtain ⟨s, c, L, rfl, h1, _, h2⟩ := openEls Try.underlying29 Try.cellsVal (by omega) oneVal h
  exact ⟨L, ⟨s, c, rfl, h1⟩, h2⟩
theorem oneTab (m : Nat) (cs : List Value) (y : DataW H × List MemPlace) (h : DataW.trod enc Try.prog w base spare held m 133 cs = some y) : ∃ a, cTab w 0 cs a ∧ mTab a := by
  obtain ⟨y0, y1, y2, n, _, hlen, h0, h1, h2⟩ := Go.Deep.trod_struct3 Try.underlying133 h
  rw [Try.cellsTab] at hlen
  match cs, hlen with
  | [v0, v1, v2], _ =>
    simp [Try.cellsIs, Try.cellsEs, Try.cellsVss] at h0 h1 h2
    obtain ⟨s1, c1, A, e0, f1, _, m1⟩ := openEls Try.underlying25 Try.cellsI (by omega) oneInt h0
    obtain ⟨s2, c2, B, e1, f2, _, m2⟩ := openEls Try.underlying130 Try.cellsEnt (by omega) oneEnt h1
    obtain ⟨s3, c3, C, e2, f3, m3, m4⟩ := openEls Try.underlying131 Try.cellsVs (by omega) oneVals h2
    simp only [List.cons.injEq, and_true] at e0 e1 e2
    subst e0 e1 e2
    exact ⟨⟨A, B, C⟩, ⟨s1, c1, s2, c2, s3, c3, rfl, f1, f2, f3⟩, m1, m2, m4, m3⟩

theorem openWorld {r : Reach} {b0 : Nat} {v : Value} {d : DataW H} {p : List MemPlace} (hv : Value.okWide Try.prog w r b0 31 v) (h : DataW.Trod enc Try.prog w base spare held 31 v d p) :
    ∃ a1 a2 a3 a4 c1 c2 c3 c4 W, v = .agg #[.slice a1 (Wd.gens W).length c1, .slice a2 W.free.length c2, .slice a3 W.tabs.length c3, .slice a4 W.res.length c4] ∧ InW w 0 a1 a2 a3 a4 W ∧ mW W := by
  obtain ⟨cs, rfl, hsz⟩ := okWide_struct Try.underlying31 hv
  obtain ⟨x0, x1, x2, x3, rfl⟩ := array4 (hsz.trans Try.cellsWd)
  obtain ⟨fuel, hf⟩ := h
  obtain ⟨y0, y1, y2, n, _, _, h0, h1, h2⟩ := Go.Deep.trod_struct3 Try.underlying31 hf
  simp [Value.cells, Try.cellsEnts, Try.cellsTs, Try.cellsVs] at h0 h1 h2
  obtain ⟨z0, z1, m, _, _, g0, g1⟩ := trod_struct2 Try.underlying27 h0
  simp [Try.cellsIs] at g0 g1
  obtain ⟨s1, c1, A, e0, f1, _, m1⟩ := openEls Try.underlying25 Try.cellsI (by omega) oneInt g0
  obtain ⟨s2, c2, B, e1, f2, _, m2⟩ := openEls Try.underlying25 Try.cellsI (by omega) oneInt g1
  obtain ⟨s3, c3, C, e2, f3, m3, m4⟩ := openEls Try.underlying28 Try.cellsTab (by omega) oneTab h1
  obtain ⟨s4, c4, D, e3, f4, _, m5⟩ := openEls Try.underlying29 Try.cellsVal (by omega) oneVal h2
  simp only [List.cons.injEq, and_true] at e0 e1 e2 e3
  subst e0 e1 e2 e3
  exact ⟨s1, s2, s3, s4, c1, c2, c3, c4, ⟨A, B, C, D⟩, rfl, ⟨f1, f2, f3, f4⟩, m1, m2, ⟨m4, m3⟩, m5⟩
theorem openEnt {r : Reach} {b0 : Nat} {v : Value} {d : DataW H} {p : List MemPlace} (hv : Value.okWide Try.prog w r b0 33 v) (h : DataW.Trod enc Try.prog w base spare held 33 v d p) :
    ∃ a g : Int, v = .agg #[.int .i64 a, .int .i64 g] := by
  obtain ⟨v0, v1, y0, y1, n, rfl, rfl, rfl, h0, h1⟩ := open_agg2 Try.underlying33 (by kernel_rfl) Try.cellsEnt hv h
  obtain ⟨a, e0, rfl, w0⟩ := DataW.trod_int Try.underlying3 h0
  obtain ⟨g, e1, rfl, w1⟩ := DataW.trod_int Try.underlying3 h1
  simp only [List.cons.injEq, and_true] at e0 e1
  subst e0 e1
  exact ⟨a, g, rfl⟩
theorem openIw {r : Reach} {b0 : Nat} {v : Value} {d : DataW H} {p : List MemPlace} (hv : Value.okWide Try.prog w r b0 3 v) (h : DataW.Trod enc Try.prog w base spare held 3 v d p) :
    ∃ n : Int, v = .int .i64 n ∧ (-9223372036854775808 ≤ n ∧ n ≤ 9223372036854775807) := by
  obtain ⟨x, rfl, rfl, rfl, wx⟩ := open_int Try.underlying3 hv h
  exact ⟨x, rfl, bd_of_wf wx⟩
end
end Go.Proofs.Ytofpkbnocbmgkaa
