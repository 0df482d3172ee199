import Derived.Test.YtcllkmdlheggkabEp
namespace Go.Proofs.Ytcllkmdlheggkab
open Go.RowKit
set_option linter.unusedVariables false

/-- the live things of the first k places. -/
def LK (G F : List Int) (k : Nat) : List (Int × Int) := ((List.range k).filter fun (i : Nat) => !decide ((i : Int) ∈ F)).map fun (i : Nat) => ((i : Int), G[i]?.getD 0)
def listB (G F : List Int) : List (Int × Int) := if okE G F = true then LK G F G.length else []
theorem LK_hit {G F : List Int} {k : Nat} (h : ¬ (k : Int) ∈ F) : LK G F (k + 1) = LK G F k ++ [((k : Int), G[k]?.getD 0)] := by
  simp [LK, List.range_succ, h]
theorem LK_miss {G F : List Int} {k : Nat} (h : (k : Int) ∈ F) : LK G F (k + 1) = LK G F k := by
  simp [LK, List.range_succ, h]
theorem LK_le (G F : List Int) (k : Nat) : (LK G F k).length ≤ k := by
  unfold LK
  rw [List.length_map]
  exact Nat.le_trans (List.length_filter_le _ _) (by simp)
theorem listB_le (G F : List Int) : (listB G F).length ≤ G.length := by
  unfold listB; split
  · exact LK_le _ _ _
  · simp

theorem ERow.apartB {w : World} {B : Nat} {v : Value} {L : List (Int × Int)} (h : ERow w B v L) {m : Nat} {c : Array Value} {t : TypeId} (hb : Blk w m c t) (ht : ¬ t = 28) : ¬ v.ownBlock = some m := by
  rcases h.2 with ⟨rfl, _⟩ | ⟨g, cap, cur, rfl, _, hg, _⟩
  · simp [Value.ownBlock]
  · simp only [Value.ownBlock, Option.some.injEq]
    intro e
    subst e
    unfold Blk at hb
    rw [hg] at hb
    simp at hb
    exact ht hb.2.symm
theorem Seen.blk {w : World} {B sb n : Nat} {A : List Int} (h : Seen w B sb n A) : ∃ c, Blk w sb c 4 := by
  obtain ⟨bs, h1, _⟩ := h
  rcases h1.2 with ⟨h', _⟩ | ⟨g, cap, cur, h', _, hg, _⟩
  · simp at h'
  · simp only [Value.slice.injEq, Option.some.injEq, Addr.mk.injEq, and_true] at h'
    obtain ⟨rfl, -⟩ := h'
    exact ⟨cur, hg⟩
theorem ERow.apartS {w : World} {B : Nat} {v : Value} {L : List (Int × Int)} (h : ERow w B v L) {B' sb n : Nat} {A : List Int} (hs : Seen w B' sb n A) : ¬ v.ownBlock = some sb := by
  obtain ⟨c, hc⟩ := hs.blk
  exact h.apartB hc (by decide)
theorem Seen.kept {w w' : World} {B sb n : Nat} {A : List Int} {r : Option Nat} (h : Seen w B sb n A) (hg : w.grownBy w' r) (hr : ¬ r = some sb) : Seen w' B sb n A := by
  obtain ⟨bs, h1, h2⟩ := h
  exact ⟨bs, World.ownsRow.kept h1 hg (Or.inr (by simp [Value.ownBlock]; exact fun e => hr e.symm)), h2⟩
theorem Seen.later {w w' : World} {B sb n : Nat} {A : List Int} (h : Seen w B sb n A) (hb : Below w.heap.size w w') : Seen w' B sb n A := h.kept (grown_of_below hb) (by simp)
theorem Blk.kept' {w w' : World} {n : Nat} {c : Array Value} {t : TypeId} {r : Option Nat} (h : Blk w n c t) (hg : w.grownBy w' r) (hr : ¬ r = some n) : Blk w' n c t := by
  unfold Blk; rw [hg.block n h.lt (fun e => hr e.symm)]; exact h
theorem Seen.lt {w : World} {B sb n : Nat} {A : List Int} (h : Seen w B sb n A) : B ≤ sb ∧ sb < w.heap.size := by
  obtain ⟨bs, h1, h2⟩ := h
  exact World.ownsRow.lt h1 sb rfl

theorem Try.infoEnt : (Try.prog.info? 28).map (fun i => (i.zero, i.size, i.bytes)) = some (some (.agg #[.int .i64 0, .int .i64 0]), 2, 16) := by kernel_rfl

theorem okE_parts {G F : List Int} (h : okE G F = true) : G.length ≤ 2000 ∧ F.length ≤ G.length ∧ (∀ f ∈ F, 0 ≤ f ∧ f < G.length) := by
  refine ⟨?_, ?_, ?_⟩
  · by_cases e : G.length ≤ 2000
    · exact e
    · rw [okE_long e] at h; cases h
  · by_cases e : F.length ≤ G.length
    · exact e
    · rw [okE_much e] at h; cases h
  · simp only [okE, decide_eq_true_eq] at h
    exact h.2.2.1

end Go.Proofs.Ytcllkmdlheggkab
