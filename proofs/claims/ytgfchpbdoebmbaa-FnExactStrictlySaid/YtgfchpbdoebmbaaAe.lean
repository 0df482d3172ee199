import Derived.Test.YtgfchpbdoebmbaaPw
import Derived.ChangeArms
import Derived.Test.YtgfchpbdoebmbaaAa
namespace Go.Proofs.Ytgfchpbdoebmbaa
open Go.ChangeShapes Go.WideShapes Go.ChangeAt Go.RowKit Go.Joins
set_option linter.unusedVariables false
set_option linter.unusedSimpArgs false
set_option maxRecDepth 100000

theorem Try.cellsEff : Try.prog.cellsOf 24 = 10 := by kernel_rfl
theorem Try.cellsBoo : Try.prog.cellsOf 4 = 1 := by kernel_rfl
theorem list10 {α : Type} {l : List α} (h : l.length = 10) : ∃ v0 v1 v2 v3 v4 v5 v6 v7 v8 v9, l = [v0, v1, v2, v3, v4, v5, v6, v7, v8, v9] := by
  match l, h with
  | [v0, v1, v2, v3, v4, v5, v6, v7, v8, v9], _ => exact ⟨v0, v1, v2, v3, v4, v5, v6, v7, v8, v9, rfl⟩
section
variable {H : Type} {enc : TypeId × Value → H} {w : World} {base : Nat} {spare : Nat → Bool} {held : Bool}
theorem openEff {r : Reach} {b0 : Nat} {v : Value} {d : DataW H} {p : List MemPlace} (hv : Value.okWide Try.prog w r b0 24 v) (h : DataW.Trod enc Try.prog w base spare held 24 v d p) :
    ∃ (s0 s1 s2 s3 s4 s5 s6 s7 : Option Addr) (c0 c1 c2 c3 c4 c5 c6 c7 : Nat) (e : Ef), v = .agg #[.slice s0 e.l0.length c0, .slice s1 e.l1.length c1, .slice s2 e.l2.length c2, .slice s3 e.l3.length c3, .slice s4 e.l4.length c4, .slice s5 e.l5.length c5, .slice s6 e.l6.length c6, .slice s7 e.l7.length c7, .bool e.sp, .bool e.kl] ∧ InE w 0 s0 s1 s2 s3 s4 s5 s6 s7 e ∧ mEf e := by
  obtain ⟨cs, rfl, hsz⟩ := okWide_struct Try.underlying24 hv
  obtain ⟨fuel, hf⟩ := h
  obtain ⟨xs, n, _, _, hl, hlen, hf⟩ := DataW.trod_struct Try.underlying24 hf
  rw [Try.cellsEff] at hsz
  obtain ⟨l⟩ := cs
  obtain ⟨v0, v1, v2, v3, v4, v5, v6, v7, v8, v9, rfl⟩ := list10 hsz
  obtain ⟨y0, y1, y2, y3, y4, y5, y6, y7, y8, y9, rfl⟩ := list10 hlen
  have h0 := hf 0 _ rfl
  have h1 := hf 1 _ rfl
  have h2 := hf 2 _ rfl
  have h3 := hf 3 _ rfl
  have h4 := hf 4 _ rfl
  have h5 := hf 5 _ rfl
  have h6 := hf 6 _ rfl
  have h7 := hf 7 _ rfl
  have h8 := hf 8 _ rfl
  have h9 := hf 9 _ rfl
  clear hf
  simp [Value.cells, Try.cellsIs, Try.cellsBoo] at h0 h1 h2 h3 h4 h5 h6 h7 h8 h9
  obtain ⟨s0, c0, L0, i0, f0, _, m0⟩ := openEls Try.underlying22 Try.cellsI (by omega) oneInt h0
  obtain ⟨s1, c1, L1, i1, f1, _, m1⟩ := openEls Try.underlying22 Try.cellsI (by omega) oneInt h1
  obtain ⟨s2, c2, L2, i2, f2, _, m2⟩ := openEls Try.underlying22 Try.cellsI (by omega) oneInt h2
  obtain ⟨s3, c3, L3, i3, f3, _, m3⟩ := openEls Try.underlying22 Try.cellsI (by omega) oneInt h3
  obtain ⟨s4, c4, L4, i4, f4, _, m4⟩ := openEls Try.underlying22 Try.cellsI (by omega) oneInt h4
  obtain ⟨s5, c5, L5, i5, f5, _, m5⟩ := openEls Try.underlying22 Try.cellsI (by omega) oneInt h5
  obtain ⟨s6, c6, L6, i6, f6, _, m6⟩ := openEls Try.underlying22 Try.cellsI (by omega) oneInt h6
  obtain ⟨s7, c7, L7, i7, f7, _, m7⟩ := openEls Try.underlying22 Try.cellsI (by omega) oneInt h7
  obtain ⟨b8, i8, _⟩ := DataW.trod_bool Try.underlying4 h8
  obtain ⟨b9, i9, _⟩ := DataW.trod_bool Try.underlying4 h9
  simp only [List.cons.injEq, and_true] at i0 i1 i2 i3 i4 i5 i6 i7 i8 i9
  subst i0 i1 i2 i3 i4 i5 i6 i7 i8 i9
  exact ⟨s0, s1, s2, s3, s4, s5, s6, s7, c0, c1, c2, c3, c4, c5, c6, c7, ⟨L0, L1, L2, L3, L4, L5, L6, L7, b8, b9⟩, rfl, ⟨f0, f1, f2, f3, f4, f5, f6, f7⟩, m0, m1, m2, m3, m4, m5, m6, m7⟩
end
end Go.Proofs.Ytgfchpbdoebmbaa
