import Derived.Test.YteoligpjhddkdaaEi
namespace Go.Proofs.Yteoligpjhddkdaa
open Go.RowKit
set_option linter.unusedVariables false

def liveB (G F : List Int) (a g : Int) : Bool := okE G F && l2B G F a g

set_option maxHeartbeats 1000000 in
theorem entAt_any (s1 s2 : Option Addr) (c1 c2 : Nat) (G F : List Int) (q : Nat) (x : Int) (w : World) (h1 : Ints w s1 G) (hq : q < G.length) (hx : G[q]?.getD 0 = x) (l1 : G.length ≤ 1048576) :
    Calls Try.prog 105 #[.agg #[.slice s1 G.length c1, .slice s2 F.length c2], .int .i64 q] w fun e w' => e = .returned (.agg #[.int .i64 q, .int .i64 x]) ∧ Below w.heap.size w w' := by
  have hal := alloc_old
  have haf := alloc_oldf
  obtain ⟨x0, x1, x2⟩ := (Blk.new w #[.slice s1 G.length c1, .slice s2 F.length c2] 39).two
  obtain ⟨pb, po, rfl, hp, hc⟩ := h1.get hq
  have d1 : w.cell? ⟨pb, po + q, none⟩ = some (.int .i64 x) := by rw [← hx]; exact hc q hq
  clear hc hx h1
  go_enter Try.func105, Try.ntmps105
  go_wp2_with fail
  refine bodyPost_ret (v := .agg #[.int .i64 q, .int .i64 x]) (by simp [results, Try.results105, go_sem]) rfl ⟨rfl, ?_⟩
  (repeat (first | with_reducible exact Below.refl _ _ | with_reducible refine bl_alloc ?_ _ | with_reducible refine bl_drewN ?_ _ | with_reducible refine bl_drew ?_ | with_reducible refine bl_setCell ?_ (by first | exact Nat.le_refl _ | (dsimp only; omega) | (simp <;> omega)) _ | with_reducible refine bl_trans ?_ (by with_reducible assumption)))

end Go.Proofs.Yteoligpjhddkdaa
