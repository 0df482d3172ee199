import Derived.Test.YtpfamdpgcbpiaaaRa
namespace Go.Proofs.Ytpfamdpgcbpiaaa
open Go.RowKit Go.Shelf
set_option linter.unusedVariables false
set_option linter.unusedSimpArgs false
attribute [local go_sem] Oper.semAt_some

theorem firstOk_any (f : Int) (w : World) :
    Calls Try.prog 30 #[.int .i64 f] w fun e w' => e = .returned (.bool (decide (0 ≤ f) && decide (f ≤ 1000000000000))) ∧ w' = w := by
  by_cases h : 0 ≤ f
  · have h' : decide (0 ≤ f) = true := by simpa using h
    go_enter Try.func30, Try.ntmps30
    go_wp2_with fail
    go_ret
    exact ⟨by first | rfl | (rw [h']; simp), rfl⟩
  · have h' : decide (0 ≤ f) = false := by simpa using h
    go_enter Try.func30, Try.ntmps30
    go_wp2_with fail
    go_ret
    exact ⟨by first | rfl | (rw [h']; simp), rfl⟩
/-- a right stream of a kind. -/
def stB (k f : Int) (O N : List V4) : Bool := decide (0 ≤ f) && decide (f ≤ 1000000000000) && decide (O.length ≤ 200) && decide (N.length ≤ 200) && (O ++ N).all (vofB k)
theorem blk_own {β : Type} (B0 k : Nat) (c : Array Value) (t : TypeId) : OwnFrom B0 (fun (_ : β) W => Blk W k c t) := by
  intro s W W' row h hg hr
  unfold Blk at h ⊢
  rw [hg.block k (Array.getElem?_eq_some_iff.1 h).1 ?_]
  · exact h
  · intro e
    obtain ⟨_, o, ho, hc⟩ := hr k e.symm
    rw [h] at ho
    cases ho
    cases hc
theorem blk3v (w : World) (c d e : Array Value) (t u v : TypeId) : Blk (((w.alloc (.cells c t)).alloc (.cells d u)).alloc (.cells e v)) w.heap.size c t ∧ Blk (((w.alloc (.cells c t)).alloc (.cells d u)).alloc (.cells e v)) (w.heap.size + 1) d u ∧ Blk (((w.alloc (.cells c t)).alloc (.cells d u)).alloc (.cells e v)) (w.heap.size + 1 + 1) e v ∧ Below w.heap.size w (((w.alloc (.cells c t)).alloc (.cells d u)).alloc (.cells e v)) :=
  ⟨((blk2 w c d t u).1).alloc _, ((blk2 w c d t u).2).alloc _, Blk.new' _ _ _ (by simp), bl_alloc (bl_alloc (bl_alloc (Below.refl _ _) _) _) _⟩

end Go.Proofs.Ytpfamdpgcbpiaaa
