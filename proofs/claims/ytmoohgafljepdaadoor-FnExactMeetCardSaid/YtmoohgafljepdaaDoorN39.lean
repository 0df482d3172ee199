import Derived.Test.YtmoohgafljepdaaDoorN38
namespace Go.Proofs.YtmoohgafljepdaaDoor
open Go.RowKit Go.Maps Go.WideMaps
set_option linter.unusedVariables false
set_option linter.unusedSimpArgs false
set_option maxRecDepth 100000

/-! what kind of block it is keeps the lists and the map apart -/
theorem URow.noMap {w : World} {B b n : Nat} {v : Value} {L : List (Int × Int)} {f : Int × Int → Option Value} (h : URow w B v L) (hm : PM w b n f) : ¬ v.ownBlock = some b := by
  obtain ⟨D, ⟨es, clock, hb, _⟩, _⟩ := hm
  rcases h.2 with ⟨rfl, _⟩ | ⟨g, cap, cur, rfl, _, hg, _⟩
  · simp [Value.ownBlock]
  · intro e
    simp only [Value.ownBlock, Option.some.injEq] at e
    subst e
    rw [hb] at hg
    simp at hg
theorem MRow.noMap {w : World} {B b n : Nat} {v : Value} {L : List (Int × Int)} {f : Int × Int → Option Value} (h : MRow w B v L) (hm : PM w b n f) : ¬ v.ownBlock = some b := by
  obtain ⟨D, ⟨es, clock, hb, _⟩, _⟩ := hm
  rcases h.2 with ⟨rfl, _⟩ | ⟨g, cap, cur, rfl, _, hg, _⟩
  · simp [Value.ownBlock]
  · intro e
    simp only [Value.ownBlock, Option.some.injEq] at e
    subst e
    rw [hb] at hg
    simp at hg
theorem URow.noMove {w : World} {B C : Nat} {v u : Value} {L M : List (Int × Int)} (h : URow w B v L) (hm : MRow w C u M) : ∀ k, u.ownBlock = some k → ¬ v.ownBlock = some k := by
  intro k hu hv
  rcases h.2 with ⟨rfl, _⟩ | ⟨g, cap, cur, rfl, _, hg, _⟩
  · simp [Value.ownBlock] at hv
  rcases hm.2 with ⟨rfl, _⟩ | ⟨g', cap', cur', rfl, _, hg', _⟩
  · simp [Value.ownBlock] at hu
  simp only [Value.ownBlock, Option.some.injEq] at hu hv
  subst hv
  subst hu
  rw [hg] at hg'
  simp at hg'
/-- a map that turned: lists stay. -/
theorem URow.turned {w w' : World} {B b n : Nat} {v : Value} {L : List (Int × Int)} {f : Int × Int → Option Value} (h : URow w B v L) (hm : PM w b n f) (ht : w.mapTurned w' b) : URow w' B v L := h.kept ht.grown (h.noMap hm)
theorem MRow.turned {w w' : World} {B b n : Nat} {v : Value} {L : List (Int × Int)} {f : Int × Int → Option Value} (h : MRow w B v L) (hm : PM w b n f) (ht : w.mapTurned w' b) : MRow w' B v L := h.kept ht.grown (h.noMap hm)
end Go.Proofs.YtmoohgafljepdaaDoor
