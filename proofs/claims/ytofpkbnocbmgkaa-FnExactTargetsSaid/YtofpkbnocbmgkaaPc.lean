import Derived.Test.YtofpkbnocbmgkaaPw
import Derived.Test.YtofpkbnocbmgkaaCa
namespace Go.Proofs.Ytofpkbnocbmgkaa
open Go.ChangeShapes Go.WideShapes Go.ChangeAt Go.RowKit Go.Joins
set_option linter.unusedVariables false
set_option linter.unusedSimpArgs false
set_option maxRecDepth 100000

theorem Try.cellsCell : Try.prog.cellsOf 191 = 5 := by kernel_rfl
theorem Try.cellsCmd : Try.prog.cellsOf 111 = 9 := by kernel_rfl
theorem Try.cellsCellS : Try.prog.cellsOf 109 = 1 := by kernel_rfl
section
variable {H : Type} {enc : TypeId × Value → H} {w : World} {base : Nat} {spare : Nat → Bool} {held : Bool}

theorem trod_struct5 {P : Program} {t : TypeId} {f0 f1 f2 f3 f4 : Field} {fuel : Nat} {cs : List Value} {x : DataW H × List MemPlace} (ht : P.underlying t = some (.struct #[f0, f1, f2, f3, f4])) (h : DataW.trod enc P w base spare held fuel t cs = some x) :
    ∃ y0 y1 y2 y3 y4 n, cs.length = P.cellsOf t ∧ DataW.trod enc P w base spare held n f0.type ((cs.drop f0.offset).take (P.cellsOf f0.type)) = some y0 ∧
      DataW.trod enc P w base spare held n f1.type ((cs.drop f1.offset).take (P.cellsOf f1.type)) = some y1 ∧ DataW.trod enc P w base spare held n f2.type ((cs.drop f2.offset).take (P.cellsOf f2.type)) = some y2 ∧
      DataW.trod enc P w base spare held n f3.type ((cs.drop f3.offset).take (P.cellsOf f3.type)) = some y3 ∧ DataW.trod enc P w base spare held n f4.type ((cs.drop f4.offset).take (P.cellsOf f4.type)) = some y4 := by
  obtain ⟨xs, n, _, rfl, hl, hlen, hf⟩ := DataW.trod_struct ht h
  match xs, hlen with
  | [y0, y1, y2, y3, y4], _ => exact ⟨y0, y1, y2, y3, y4, n, hl, by simpa using hf 0 f0 rfl, by simpa using hf 1 f1 rfl, by simpa using hf 2 f2 rfl, by simpa using hf 3 f3 rfl, by simpa using hf 4 f4 rfl⟩
theorem oneCell (m : Nat) (cs : List Value) (y : DataW H × List MemPlace) (h : DataW.trod enc Try.prog w base spare held m 191 cs = some y) : ∃ a, cCell w 0 cs a ∧ True := by
  obtain ⟨y0, y1, n, _, hlen, h0, h1⟩ := trod_struct2 Try.underlying191 h
  rw [Try.cellsCell] at hlen
  match cs, hlen with
  | [v0, v1, v2, v3, v4], _ =>
    simp [Try.cellsI, Try.cellsVal] at h0 h1
    obtain ⟨a, e0, _, _⟩ := DataW.trod_int Try.underlying3 h0
    obtain ⟨b, ⟨e1, ok⟩, _⟩ := oneVal _ _ _ h1
    simp only [vcells, List.cons.injEq, and_true] at e0 e1
    obtain ⟨rfl, rfl, rfl, rfl⟩ := e1
    subst e0
    exact ⟨(a, b), ⟨rfl, ok⟩, trivial⟩
theorem oneCmd (m : Nat) (cs : List Value) (y : DataW H × List MemPlace) (h : DataW.trod enc Try.prog w base spare held m 111 cs = some y) : ∃ a, cCmd w 0 cs a ∧ a.list.length ≤ 9223372036854775807 := by
  obtain ⟨y0, y1, y2, y3, y4, n, hlen, h0, h1, h2, h3, h4⟩ := trod_struct5 Try.underlying111 h
  rw [Try.cellsCmd] at hlen
  match cs, hlen with
  | [v0, v1, v2, v3, v4, v5, v6, v7, v8], _ =>
    simp [Try.cellsI, Try.cellsEnt, Try.cellsVal, Try.cellsCellS] at h0 h1 h2 h3 h4
    obtain ⟨a, e0, _, _⟩ := DataW.trod_int Try.underlying3 h0
    obtain ⟨b, e1, _⟩ := oneEnt _ _ _ h1
    obtain ⟨c, e2, _, _⟩ := DataW.trod_int Try.underlying3 h2
    obtain ⟨d, ⟨e3, ok⟩, _⟩ := oneVal _ _ _ h3
    obtain ⟨s, cap, L, e4, f4, _, m4⟩ := openEls Try.underlying109 Try.cellsCell (by omega) oneCell h4
    simp only [cEnt, vcells, List.cons.injEq, and_true] at e0 e1 e2 e3 e4
    obtain ⟨rfl, rfl⟩ := e1
    obtain ⟨rfl, rfl, rfl, rfl⟩ := e3
    subst e0 e2 e4
    exact ⟨⟨a, b, c, d, L⟩, ⟨s, cap, rfl, ok, f4⟩, m4⟩
theorem openCmds {r : Reach} {b0 : Nat} {v : Value} {d : DataW H} {p : List MemPlace} (hv : Value.okWide Try.prog w r b0 66 v) (h : DataW.Trod enc Try.prog w base spare held 66 v d p) :
    ∃ s c L, v = .slice s (List.length (α := Cm) L) c ∧ Els 9 cCmd w 0 s L ∧ mCs L := by
  obtain ⟨a, len, cap, rfl⟩ := okWide_slice Try.underlying66 hv
  obtain ⟨fuel, hf⟩ := h
  obtain ⟨s, c, L, e, f, m, ml⟩ := openEls Try.underlying66 Try.cellsCmd (by omega) oneCmd hf
  have e' : [Value.slice a len cap] = [.slice s L.length c] := e
  simp only [List.cons.injEq, and_true] at e'
  exact ⟨s, c, L, e', f, ml, m⟩
theorem openCmd {r : Reach} {b0 : Nat} {v : Value} {d : DataW H} {p : List MemPlace} (hv : Value.okWide Try.prog w r b0 111 v) (h : DataW.Trod enc Try.prog w base spare held 111 v d p) :
    ∃ (s : Option Addr) (cap : Nat) (c : Cm), v = .agg #[.int .i64 c.kind, .int .i64 c.who.1, .int .i64 c.who.2, .int .i64 c.comp, .int .i64 c.val.1, .int .i64 c.val.2.1, .float .f64 c.val.2.2.1, .float .f64 c.val.2.2.2, .slice s c.list.length cap] ∧ Els 5 cCell w 0 s c.list ∧ okV c.val ∧ c.list.length ≤ 9223372036854775807 := by
  obtain ⟨cs, rfl, hsz⟩ := okWide_struct Try.underlying111 hv
  obtain ⟨fuel, hf⟩ := h
  obtain ⟨c, ⟨s, cap, e, ok, f⟩, m⟩ := oneCmd fuel _ _ hf
  refine ⟨s, cap, c, ?_, f, ok, m⟩
  have e' : cs.toList = [.int .i64 c.kind, .int .i64 c.who.1, .int .i64 c.who.2, .int .i64 c.comp, .int .i64 c.val.1, .int .i64 c.val.2.1, .float .f64 c.val.2.2.1, .float .f64 c.val.2.2.2, .slice s c.list.length cap] := e
  obtain ⟨l⟩ := cs
  subst e'
  rfl
end
end Go.Proofs.Ytofpkbnocbmgkaa
