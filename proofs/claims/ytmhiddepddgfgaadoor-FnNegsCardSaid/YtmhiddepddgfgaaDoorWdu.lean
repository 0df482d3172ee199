import Derived.Test.YtmhiddepddgfgaaDoorWdt
import Derived.RegionTactic
import Derived.BigRegion
namespace Go.Proofs.YtmhiddepddgfgaaDoor
open Go.RowKit
set_option linter.unusedSimpArgs false
set_option linter.unusedVariables false

/-- bytes that can be read. -/
def Code (w : World) (sl : Option Addr) (len : Nat) : Prop :=
  len = 0 ∨ ∃ pb po, sl = some ⟨pb, po, none⟩ ∧ pb < w.heap.size ∧ ∀ j, j < len → ∃ c : Int, 0 ≤ c ∧ c ≤ 255 ∧ w.cell? ⟨pb, po + j, none⟩ = some (.int .u8 c)

theorem i64_and30 (n : Int) : bits .and .i64 n 1073741823 = n % 1073741824 := by
  have h : (BitVec.ofInt 64 1073741823).toNat = 2 ^ 30 - 1 := by decide
  have key : (BitVec.ofInt 64 n &&& BitVec.ofInt 64 1073741823).toNat = (n % ((2 ^ 64 : Nat) : Int)).toNat % 2 ^ 30 := by
    rw [BitVec.toNat_and, BitVec.toNat_ofInt, h, Nat.and_two_pow_sub_one_eq_mod]
  show IntKind.i64.wrap ((BitVec.ofInt 64 n &&& BitVec.ofInt 64 1073741823).toNat : Nat) = n % 1073741824
  rw [key, IntKind.wrap_i64]
  omega

theorem cur_new (w : World) (sl : Option Addr) (len cap : Nat) (H : Int) (t : TypeId) (hl : len ≤ 1048576) (hC : Code w sl len) : Cur w.heap.size (w.alloc (.cells #[.slice sl len cap, .int .i64 0, .int .i64 H] t)) := by
  refine ⟨sl, len, cap, 0, H, by simp, by simp, by simp, by simp, by simp, by omega, by omega, ?_⟩
  rcases hC with h0 | ⟨pb, po, h0, h1, h2⟩
  · exact Or.inl h0
  · refine Or.inr ⟨pb, po, h0, h1, fun j hj => ?_⟩
    obtain ⟨c, a1, a2, a3⟩ := h2 j hj
    exact ⟨c, a1, a2, cell_later (bl_alloc (Below.refl _ w) _) a3⟩

set_option maxRecDepth 100000 in
set_option maxHeartbeats 2000000 in
theorem l1New_any (sl : Option Addr) (len cap : Nat) (w : World) (hl : len ≤ 1048576) (hC : Code w sl len) :
    Calls Tryd.prog 13 #[.slice sl len cap] w fun e w' => ∃ n, e = .returned (.pointer (some ⟨n, 0, none⟩)) ∧ w.heap.size ≤ n ∧ Below w.heap.size w w' ∧ Cur n w' := by
  go_enter Tryd.func13, Tryd.ntmps13
  go_wp2
  go_loop [3, 4] (fun h i => ∃ (k : Nat) (H : Int), 0 ≤ H ∧ H ≤ 1073741823 ∧ k ≤ len ∧ i = .int .i64 k ∧ h = .int .i64 H) (fun _ i => len - (intOf i).toNat)
  case atStart => exact ⟨0, 70070 + (len : Int), by omega, by omega, Nat.zero_le _, rfl, rfl⟩
  case round =>
    obtain ⟨k, H, h1, h2, hk, rfl, rfl⟩ := hrel
    by_cases hlt : k < len
    · obtain ⟨pb, po, rfl, hp, hby⟩ : ∃ pb po, sl = some ⟨pb, po, none⟩ ∧ pb < w.heap.size ∧ ∀ j, j < len → ∃ c : Int, 0 ≤ c ∧ c ≤ 255 ∧ w.cell? ⟨pb, po + j, none⟩ = some (.int .u8 c) := by
        rcases hC with h0 | h0
        · omega
        · exact h0
      obtain ⟨c, c1, c2, hc⟩ := hby k hlt
      have hH : Hid (∀ j, j < len → ∃ c : Int, 0 ≤ c ∧ c ≤ 255 ∧ w.cell? ⟨pb, po + j, none⟩ = some (.int .u8 c)) := hby
      clear hby hC
      by_cases h4 : k < 4000
      · go_wp2
        refine ⟨⟨k + 1, _, ?_, ?_, by omega, by go_num, rfl⟩, ?_⟩
        · rw [i64_and30]; omega
        · rw [i64_and30]; omega
        · simp [intOf]; omega
      · go_wp2
        go_ret
        exact ⟨_, rfl, Nat.le_refl _, bl_alloc (Below.refl _ _) _, cur_new w _ len cap H _ hl (Or.inr ⟨pb, po, rfl, hp, hH.out⟩)⟩
    · go_wp2
      go_ret
      exact ⟨_, rfl, Nat.le_refl _, bl_alloc (Below.refl _ _) _, cur_new w sl len cap H _ hl hC⟩

theorem Zb.later {m : Nat} {W w1 : World} (h : Zb m W) (hb : Below W.heap.size W w1) : Zb m w1 := ⟨cell_later hb h.1, cell_later hb h.2.1, cell_later hb h.2.2.1, cell_later hb h.2.2.2⟩

theorem Code.alloc {w : World} {sl : Option Addr} {len : Nat} (h : Code w sl len) (o : Obj) : Code (w.alloc o) sl len := by
  rcases h with h0 | ⟨pb, po, h0, h1, h2⟩
  · exact Or.inl h0
  · refine Or.inr ⟨pb, po, h0, by simp; omega, fun j hj => ?_⟩
    obtain ⟨c, a1, a2, a3⟩ := h2 j hj
    exact ⟨c, a1, a2, cell_later (bl_alloc (Below.refl _ w) _) a3⟩

/-- the box of a value, in a world with a cursor. -/
def Bx (n : Nat) (W : World) (k i : Int) (x y : Nat) : Prop :=
  W.cell? ⟨n, 0, none⟩ = some (.int .i64 k) ∧ W.cell? ⟨n, 1, none⟩ = some (.int .i64 i) ∧ W.cell? ⟨n, 2, none⟩ = some (.float .f64 x) ∧ W.cell? ⟨n, 3, none⟩ = some (.float .f64 y)
theorem Bx.new (w : World) (k i : Int) (x y : Nat) (t : TypeId) : Bx w.heap.size (w.alloc (.cells #[.int .i64 k, .int .i64 i, .float .f64 x, .float .f64 y] t)) k i x y := by
  refine ⟨?_, ?_, ?_, ?_⟩ <;> simp
theorem Bx.alloc {m : Nat} {W : World} {k i : Int} {x y : Nat} (h : Bx m W k i x y) (o : Obj) : Bx m (W.alloc o) k i x y :=
  ⟨cell_later (bl_alloc (Below.refl _ W) o) h.1, cell_later (bl_alloc (Below.refl _ W) o) h.2.1, cell_later (bl_alloc (Below.refl _ W) o) h.2.2.1, cell_later (bl_alloc (Below.refl _ W) o) h.2.2.2⟩
theorem Bx.keep {m n : Nat} {W w1 : World} {k i : Int} {x y : Nat} (h : Bx m W k i x y) (hK : Keep n W w1) (hm : ¬ m = n) : Bx m w1 k i x y := ⟨hK.cell hm h.1, hK.cell hm h.2.1, hK.cell hm h.2.2.1, hK.cell hm h.2.2.2⟩

end Go.Proofs.YtmhiddepddgfgaaDoor
