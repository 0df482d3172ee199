import Derived.Test.YtmoohgafljepdaaDoorN36
import Derived.Test.YtmoohgafljepdaaDoorN13
namespace Go.Proofs.YtmoohgafljepdaaDoor
open Go.RowKit
set_option linter.unusedVariables false
set_option linter.unusedSimpArgs false

set_option maxRecDepth 100000 in
set_option maxHeartbeats 4000000 in
/-- a copy of a list of moves. -/
theorem cloneM_any (v : Value) (L : List (Int × Int)) (B : Nat) (w : World) (hL : MRow w B v L) (hl : L.length ≤ 1048576) :
    Calls Tryd.prog 31 #[v] w fun e w' => (∃ u, e = .returned u ∧ MRow w' w.heap.size u L) ∧ Below w.heap.size w w' := by
  have q22 : ∀ (w : World) (a : Option Addr) (n c n' c' : Nat), (binOp .eql 24 (.slice a n c) (.slice none n' c')).run Tryd.prog w = .ok (.bool a.isNone) w := fun w a n c n' c' => Lib.run_eql_slice_nil w _ _ a n c n' c' Tryd.underlying24
  rcases hL.form with ⟨rfl, rfl⟩ | ⟨g, cap, rfl, _, _, _⟩
  · go_enter Tryd.func31, Tryd.ntmps31
    go_wp2_with fail
    go_ret
    exact ⟨⟨_, rfl, MRow.nil _ _⟩, Below.refl _ _⟩
  · have hb0 : Hid (Below w.heap.size w (w.alloc (.cells #[] 38))) := bl_alloc (Below.refl _ _) _
    have hO0 : Hid (MRow (w.alloc (.cells #[] 38)) w.heap.size (.slice (some ⟨w.heap.size, 0, none⟩) 0 0) []) := MRow.empty (Blk.new w #[] 38)
    have EA : Hid (MRow (w.alloc (.cells #[] 38)) B (.slice (some ⟨g, 0, none⟩) L.length cap) L) := hL.later hb0.out
    have hs0 := hb0.out.size
    clear hL
    go_enter Tryd.func31, Tryd.ntmps31
    go_wp2_with (at_builtin; refine wpList_append_moves _ rfl _ _ rfl w.heap.size (.slice (some ⟨w.heap.size, 0, none⟩) 0 0) [] rfl hO0.out g cap L rfl _ EA.out (by simp) hl hs0 ?_)
    intro u w1 hu hg
    have L1 : Hid (Below w.heap.size w w1) := grown_mr hb0.out hs0 hO0.out hg
    have HU : Hid (MRow w1 w.heap.size u L) := hu
    clear hu hg
    go_wp2_with fail
    go_ret
    exact ⟨⟨_, rfl, HU.out⟩, L1.out⟩
end Go.Proofs.YtmoohgafljepdaaDoor
