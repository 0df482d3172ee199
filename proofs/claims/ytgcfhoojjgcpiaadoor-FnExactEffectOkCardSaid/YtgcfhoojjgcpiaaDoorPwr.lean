import Derived.Test.YtgcfhoojjgcpiaaDoorPw
import Derived.Test.YtgcfhoojjgcpiaaDoorMm
namespace Go.Proofs.YtgcfhoojjgcpiaaDoor
open Go.ChangeShapes Go.WideShapes Go.ChangeAt Go.RowKit Go.Joins
set_option linter.unusedVariables false
set_option maxRecDepth 100000

theorem Tryd.cellsR : Tryd.prog.cellsOf 24 = 3 := by kernel_rfl
theorem Tryd.cellsD : Tryd.prog.cellsOf 58 = 2 := by kernel_rfl
theorem Tryd.cellsS : Tryd.prog.cellsOf 9 = 1 := by kernel_rfl

section
variable {H : Type} {enc : TypeId × Value → H} {w : World} {base : Nat} {spare : Nat → Bool} {held : Bool}

theorem openDecl {n : Nat} {a : Addr} {y : DataW H × List MemPlace} (h : (w.cells? base a 2).bind (DataW.trod enc Tryd.prog w base spare held n 58) = some y) :
    ∃ (s : ByteArray) (k : Int), s.size ≤ maxLen ∧ w.cell? (a.add 0) = some (.string s) ∧ w.cell? (a.add 1) = some (.int .i64 k) := by
  rw [Option.bind_eq_some_iff] at h
  obtain ⟨cs, hcs, hy⟩ := h
  have hc := World.cells?_some hcs
  obtain ⟨y0, y1, m, _, hlen, h0, h1⟩ := trod_struct2 Tryd.underlying58 hy
  rw [Tryd.cellsD] at hlen
  match cs, hlen with
  | [v0, v1], _ =>
    rw [Tryd.cellsS] at h0
    rw [Tryd.cellsI] at h1
    simp at h0 h1
    obtain ⟨s, e0, _, hs⟩ := DataW.trod_string Tryd.underlying9 h0
    obtain ⟨k, e1, _, _⟩ := DataW.trod_int Tryd.underlying3 h1
    simp only [List.cons.injEq, and_true] at e0 e1
    subst e0 e1
    have c0 := hc.2.2 0 (by omega)
    have c1 := hc.2.2 1 (by omega)
    exact ⟨s, k, hs, by simpa using c0, by simpa using c1⟩

theorem openDecls {fuel : Nat} {v : Value} {y : DataW H × List MemPlace} (h : DataW.trod enc Tryd.prog w base spare held fuel 22 [v] = some y) :
    ∃ s c L, v = .slice s (List.length (α := ByteArray × Int) L) c ∧ Dc w s L := by
  rcases DataW.trod_slice Tryd.underlying22 h with ⟨hcs, _⟩ | ⟨a, len, cap, elems, rest, n, _, hcs, _, hb, hl, hm, hlen, hel, _, _⟩
  · simp at hcs
    exact ⟨none, 0, [], hcs, Or.inl rfl, fun p hp => by simp at hp, by simp⟩
  · simp at hcs
    have each : ∀ i, i < len → ∃ p : ByteArray × Int, p.1.size ≤ maxLen ∧ w.cell? ((a.add (i * 2)).add 0) = some (.string p.1) ∧ w.cell? ((a.add (i * 2)).add 1) = some (.int .i64 p.2) := by
      intro i hi
      have := hel i hi
      rw [Tryd.cellsD] at this
      obtain ⟨e, he⟩ : ∃ e, elems[i]? = some e := ⟨elems[i], by simp [hlen, hi]⟩
      rw [he] at this
      obtain ⟨s, k, h1, h2, h3⟩ := openDecl this
      exact ⟨(s, k), h1, h2, h3⟩
    let g : Nat → ByteArray × Int := fun i => if h : i < len then Classical.choose (each i h) else (ByteArray.empty, 0)
    have hg : ∀ i, i < len → (g i).1.size ≤ maxLen ∧ w.cell? ((a.add (i * 2)).add 0) = some (.string (g i).1) ∧ w.cell? ((a.add (i * 2)).add 1) = some (.int .i64 (g i).2) := by
      intro i hi
      have : g i = Classical.choose (each i hi) := by simp [g, hi]
      rw [this]
      exact Classical.choose_spec (each i hi)
    have hL : ((List.range len).map g).length = len := by simp
    refine ⟨some a, cap, (List.range len).map g, by rw [hL]; exact hcs, ?_, ?_, by rw [hL]; omega⟩
    · by_cases he : len = 0
      · left; simp [he]
      · right
        obtain ⟨b, off, spot⟩ := a
        have h0 := (hg 0 (by omega)).2.1
        have hspot : spot = none := by simpa [Addr.add] using World.cell?_spot h0
        subst hspot
        refine ⟨b, off, rfl, ?_, fun j hj => ?_⟩
        · have := World.block_lt_of_cell? _ _ h0
          simpa [Addr.add] using this
        · rw [hL] at hj
          have e : dAt ((List.range len).map g) j = g j := by simp [dAt, hj]
          rw [e]
          obtain ⟨_, g1, g2⟩ := hg j hj
          rw [Addr.add_add, add_plain] at g1 g2
          exact ⟨g1, g2⟩
    · intro p hp
      simp only [List.mem_map, List.mem_range] at hp
      obtain ⟨i, hi, rfl⟩ := hp
      exact (hg i hi).1

theorem openReg {r : Reach} {b0 : Nat} {v : Value} {d : DataW H} {p : List MemPlace} (hv : Value.okWide Tryd.prog w r b0 24 v) (h : DataW.Trod enc Tryd.prog w base spare held 24 v d p) :
    ∃ s1 s2 s3 c1 c2 c3 A B C, v = .agg #[.slice s1 (List.length (α := ByteArray × Int) A) c1, .slice s2 (List.length (α := ByteArray × Int) B) c2, .slice s3 (List.length (α := ByteArray × Int) C) c3] ∧ Dc w s1 A ∧ Dc w s2 B ∧ Dc w s3 C := by
  obtain ⟨v0, v1, v2, y0, y1, y2, n, rfl, rfl, rfl, h0, h1, h2⟩ := open_agg3 Tryd.underlying24 (by kernel_rfl) Tryd.cellsR hv h
  obtain ⟨s1, c1, A, rfl, gA⟩ := openDecls h0
  obtain ⟨s2, c2, B, rfl, gB⟩ := openDecls h1
  obtain ⟨s3, c3, C, rfl, gC⟩ := openDecls h2
  exact ⟨s1, s2, s3, c1, c2, c3, A, B, C, rfl, gA, gB, gC⟩
end
end Go.Proofs.YtgcfhoojjgcpiaaDoor
