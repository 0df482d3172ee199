import Derived.Test.YtbgeobpdojmdaaaDoorG40
namespace Go.Proofs.YtbgeobpdojmdaaaDoor
open Go.RowKit
set_option linter.unusedVariables false
set_option linter.unusedSimpArgs false

theorem Tryd.infoBs : (Tryd.prog.info? 49).map (fun i => (i.zero, i.size, i.bytes)) = some (some (.slice none 0 0), 1, 24) := by kernel_rfl
/-- a list of rows of flags of the call's own. -/
def BB (w : World) (B : Nat) (v : Value) (n : Nat) (rs : List Nat) : Prop := w.ownsRow B 49 1 v rs.length (rs.map fun r => Value.slice (some ⟨r, 0, none⟩) n n)
theorem BB.later {w w' : World} {B n : Nat} {v : Value} {rs : List Nat} (h : BB w B v n rs) (hb : Below w.heap.size w w') : BB w' B v n rs := by
  refine World.ownsRow.kept h (grown_of_below hb) ?_
  cases v.ownBlock with
  | none => exact Or.inl rfl
  | some b => exact Or.inr (by simp)
/-- a block of flags, or of rows of flags. -/
def BlkT (w : World) (m : Nat) (t : TypeId) : Prop := ∃ c fr, w.heap[m]? = some (.cells c t fr)
theorem BlkT.lt {w : World} {m : Nat} {t : TypeId} (h : BlkT w m t) : m < w.heap.size := by
  obtain ⟨c, fr, h⟩ := h
  exact (Array.getElem?_eq_some_iff.1 h).1
/-- who is ahead of whom, as it can be read. -/
def AllR (w : World) (v : Value) (n : Nat) (R : Nat → Nat → Bool) : Prop := ∃ g c, v = .slice (some ⟨g, 0, none⟩) n c ∧ BlkT w g 49 ∧ ∀ a, a < n → ∃ r, BlkT w r 4 ∧ w.cell? ⟨g, a, none⟩ = some (.slice (some ⟨r, 0, none⟩) n n) ∧ ∀ b, b < n → w.cell? ⟨r, b, none⟩ = some (.bool (R a b))
theorem AllR.kept {w w' : World} {v : Value} {n : Nat} {R : Nat → Nat → Bool} {q : Option Nat} (h : AllR w v n R) (hg : w.grownBy w' q) (hq : ∀ m t, BlkT w m t → t = 49 ∨ t = 4 → ¬ q = some m) : AllR w' v n R := by
  obtain ⟨g, c, e, h1, h2⟩ := h
  have blk : ∀ m t, BlkT w m t → t = 49 ∨ t = 4 → w'.heap[m]? = w.heap[m]? := fun m t hm ht => hg.block m hm.lt (fun e => hq m t hm ht e.symm)
  have cel : ∀ m t o, BlkT w m t → t = 49 ∨ t = 4 → w'.cell? ⟨m, o, none⟩ = w.cell? ⟨m, o, none⟩ := fun m t o hm ht => World.cell?_of_block (w := w) (blk m t hm ht)
  have tp : ∀ m t, BlkT w m t → t = 49 ∨ t = 4 → BlkT w' m t := fun m t hm ht => by
    obtain ⟨c, fr, hh⟩ := id hm
    exact ⟨c, fr, by rw [blk m t hm ht]; exact hh⟩
  refine ⟨g, c, e, tp g _ h1 (Or.inl rfl), fun a ha => ?_⟩
  obtain ⟨r, r1, r2, r3⟩ := h2 a ha
  exact ⟨r, tp r _ r1 (Or.inr rfl), (cel g _ a h1 (Or.inl rfl)).trans r2, fun b hb' => (cel r _ b r1 (Or.inr rfl)).trans (r3 b hb')⟩
theorem AllR.later {w w' : World} {v : Value} {n : Nat} {R : Nat → Nat → Bool} (h : AllR w v n R) (hb : Below w.heap.size w w') : AllR w' v n R :=
  h.kept (grown_of_below hb) (fun _ _ _ _ => by simp)
theorem BB.all {w : World} {B n : Nat} {v : Value} {rs : List Nat} {R : Nat → Nat → Bool} (h : BB w B v n rs) (hl : rs.length = n) (h0 : 0 < n) (hF : ∀ j r, rs[j]? = some r → Fl w B r n (R j)) : AllR w v n R := by
  rcases h.2 with ⟨_, h'⟩ | ⟨g, cap, cur, rfl, hb, hg, r⟩
  · omega
  · refine ⟨g, cap, by rw [hl], ⟨_, _, hg⟩, fun a ha => ?_⟩
    obtain ⟨q, hq⟩ : ∃ q, rs[a]? = some q := ⟨rs[a], by simp [hl, ha]⟩
    have hf := hF a q hq
    refine ⟨q, hf.blk, ?_, fun b hb => (hf.cell hb).1⟩
    rw [World.ownsRow.cellAt h a (by omega)]
    simp [hq]

end Go.Proofs.YtbgeobpdojmdaaaDoor
