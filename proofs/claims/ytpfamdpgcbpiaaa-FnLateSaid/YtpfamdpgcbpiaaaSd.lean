import Derived.Test.YtpfamdpgcbpiaaaSc
namespace Go.Proofs.Ytpfamdpgcbpiaaa
open Go.RowKit
set_option linter.unusedVariables false
set_option linter.unusedSimpArgs false

theorem els_some {w : World} {B b o : Nat} {L : List V4} (h : Els 4 cVal w B (some ⟨b, o, none⟩) L) : ∀ j u, (L.flatMap vcells)[j]? = some u → w.cell? ((⟨b, o, none⟩ : Addr).add j) = some u := by
  intro j u hu
  have hj : j < L.length * 4 := by
    have := (List.getElem?_eq_some_iff.1 hu).1
    rwa [flat_len vcells_len] at this
  obtain ⟨a, ha⟩ := get_some (L := L) (k := j / 4) (by omega)
  have := flat_get vcells_len L (j / 4) a ha (j % 4) (by omega)
  rw [show j / 4 * 4 + j % 4 = j by omega, hu] at this
  rcases h with rfl | ⟨b', o', e, h1, h2, h3⟩
  · simp at ha
  · simp only [Option.some.injEq, Addr.mk.injEq, and_true] at e
    obtain ⟨rfl, rfl⟩ := e
    obtain ⟨cs, e1, e2, e3, _⟩ := h3 _ a ha
    subst e3
    have := e2 (j % 4) u this.symm
    rw [Go.WideShapes.add_plain]
    rw [show o + j / 4 * 4 + j % 4 = o + j by omega] at this
    exact this
theorem vcells_one (L : List V4) : ∀ u ∈ L.flatMap vcells, u.oneCell' = true := by
  intro u hu
  simp only [List.mem_flatMap] at hu
  obtain ⟨v, _, hv⟩ := hu
  simp only [vcells, List.mem_cons, List.not_mem_nil, or_false] at hv
  rcases hv with rfl | rfl | rfl | rfl <;> rfl
theorem copy4_run {w : World} (dT sT ty : TypeId) (hu : Try.prog.underlying dT = some (.slice 64)) (B g : Nat) (pb po : Nat) (sCap : Nat) (L : List V4) (xs : List Value)
    (hown : w.ownsRow B 64 4 (.slice (some ⟨g, 0, none⟩) L.length L.length) L.length xs) (B' : Nat) (hL : Els 4 cVal w B' (some ⟨pb, po, none⟩) L) (w0 : World) (hb : Below B w0 w) :
    ∃ w', (Builtin.copy_ #[dT, sT] ty #[.slice (some ⟨g, 0, none⟩) L.length L.length, .slice (some ⟨pb, po, none⟩) L.length sCap]).run Try.prog w = .ok (goInt L.length) w' ∧ OV w' B (.slice (some ⟨g, 0, none⟩) L.length L.length) L ∧ Below B w0 w' := by
  obtain ⟨h1, h2⟩ := hown
  rcases h2 with ⟨h2, _⟩ | ⟨g', cap, cur, h2, hBg, hg, hc1, hc2, hc3, hc4⟩
  · cases h2
  · simp only [Value.slice.injEq, Option.some.injEq, Addr.mk.injEq] at h2
    obtain ⟨⟨rfl, _⟩, _, rfl⟩ := h2
    have hlen : (L.flatMap vcells).length = L.length * 4 := flat_len vcells_len L
    have hrun := run_copy4 w dT sT ty g L.length L.length ⟨pb, po, none⟩ L.length sCap cur _ (L.flatMap vcells) hu hg (by rw [hlen, show Nat.min L.length L.length = L.length from Nat.min_self _]) (els_some hL) (by rw [hlen, hc3]; exact Nat.le_refl _) (vcells_one L)
    rw [show Nat.min L.length L.length = L.length from Nat.min_self _, List.drop_eq_nil_of_le (by rw [hlen, Array.length_toList, hc3]; exact Nat.le_refl _), List.append_nil] at hrun
    refine ⟨_, hrun, ⟨hlen, Or.inr ⟨g, L.length, (L.flatMap vcells).toArray, rfl, hBg, setRow_heap w g _ _ _ _ hg, Nat.le_refl _, hc2, by simpa using hlen, ?_⟩⟩, below_setRow hb hBg _⟩
    show ((L.flatMap vcells).toArray.toList).take (L.length * 4) = _
    exact List.take_of_length_le (by rw [List.toList_toArray, hlen]; exact Nat.le_refl _)

end Go.Proofs.Ytpfamdpgcbpiaaa
