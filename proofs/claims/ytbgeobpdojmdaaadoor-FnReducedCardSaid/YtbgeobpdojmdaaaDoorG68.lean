import Derived.Test.YtbgeobpdojmdaaaDoorG67
import Derived.Test.YtbgeobpdojmdaaaDoorG14
import Derived.Test.YtbgeobpdojmdaaaDoorG33
namespace Go.Proofs.YtbgeobpdojmdaaaDoor
open Go.RowKit
set_option linter.unusedVariables false
set_option linter.unusedSimpArgs false

theorem implLinears_is (n : Int) (s : Option Addr) (c : Nat) (L : List (Int × Int)) (K : Int) (w : World) (hL : Eds w s L) (hl : L.length ≤ 1048576) (hK : linsB n L = K) :
    Calls Tryd.prog 9 #[.int .i64 n, .slice s L.length c] w fun e w' => e = .returned (.int .i64 K) ∧ Below w.heap.size w w' := by
  subst hK; exact implLinears_any n s c L w hL hl
theorem specLinears_is (n : Int) (s : Option Addr) (c : Nat) (L : List (Int × Int)) (K : Int) (w : World) (hL : Eds w s L) (hl : L.length ≤ 1048576) (hK : linsB n L = K) :
    Calls Tryd.prog 10 #[.int .i64 n, .slice s L.length c] w fun e w' => e = .returned (.int .i64 K) ∧ Below w.heap.size w w' := by
  subst hK; exact specLinears_any n s c L w hL hl
theorem linr_end (n : Int) (L : List (Int × Int)) : linrB n L (linsB n L) = none := by
  unfold linrB; rw [if_neg (by omega)]
theorem lins_open {n : Int} {L : List (Int × Int)} (h : ¬ linsB n L < 0) : ∃ m : Nat, n = (m : Int) ∧ m ≤ 8 ∧ gOk n L = true ∧ linsB n L = (cnt L m m (fun _ => false) : Int) := by
  unfold linsB at h ⊢
  by_cases g : gOk n L = true ∧ n ≤ 8
  · obtain ⟨m, rfl, hm, _⟩ := gOk_open g.1
    rw [if_pos g]
    exact ⟨m, rfl, by omega, g.1, by simp⟩
  · rw [if_neg g] at h; omega
theorem lins_list {m k : Nat} {L : List (Int × Int)} (hg : gOk m L = true) (hm : m ≤ 8) (hk : k < cnt L m m (fun _ => false)) (hK : linsB m L = (cnt L m m (fun _ => false) : Int)) : linrB m L k = some (lSq L m k m).1 ∧ (lSq L m k m).1.length = m ∧ linB m L (lSq L m k m).1 = true := by
  obtain ⟨m', hm', _, _, hin, h16⟩ := gOk_open hg
  obtain ⟨h1, h2⟩ := lSq_inv hm hk m (Nat.le_refl _)
  refine ⟨?_, h2, (linB_iff _ _ _).2 ⟨hg, by rw [h2], ?_⟩⟩
  · unfold linrB; rw [hK, if_pos (by omega)]; simp
  · have := lSq_ok hm h16 hk m (Nat.le_refl _)
    rw [h2]; simpa using this
/-- what the list kept is. -/
def Last (w : World) (v : Value) (L : List (Int × Int)) (m i : Nat) : Prop := 0 < i → ∃ s c, v = .slice s m c ∧ Ints w s (lSq L m (i - 1) m).1

end Go.Proofs.YtbgeobpdojmdaaaDoor
