import Derived.Test.YtmhiddepddgfgaaDoorWc
import Derived.Deep.QuietTactic
import Derived.BigQuiet
import Derived.Laws.Bits128
namespace Go.Proofs.YtmhiddepddgfgaaDoor
open Go.RowKit

theorem i64_and255 (n : Int) : bits .and .i64 n 255 = n % 256 := by
  have h255 : (BitVec.ofInt 64 255).toNat = 2 ^ 8 - 1 := by decide
  have key : (BitVec.ofInt 64 n &&& BitVec.ofInt 64 255).toNat = (n % ((2 ^ 64 : Nat) : Int)).toNat % 2 ^ 8 := by
    rw [BitVec.toNat_and, BitVec.toNat_ofInt, h255, Nat.and_two_pow_sub_one_eq_mod]
  show IntKind.i64.wrap ((BitVec.ofInt 64 n &&& BitVec.ofInt 64 255).toNat : Nat) = n % 256
  rw [key, IntKind.wrap_i64]
  omega

theorem and255 (n : Int) : 0 ≤ bits .and .i64 n 255 ∧ bits .and .i64 n 255 ≤ 255 := by rw [i64_and255]; omega

/-- nothing that was there turns but block n. -/
def Keep (n : Nat) (w w' : World) : Prop := Below n w w' ∧ ∀ k, n < k → k < w.heap.size → w'.heap[k]? = w.heap[k]?

theorem Keep.refl (n : Nat) (w : World) : Keep n w w := ⟨Below.refl _ _, fun _ _ _ => rfl⟩
theorem Keep.trans {n : Nat} {a b c : World} (h : Keep n a b) (g : Keep n b c) : Keep n a c :=
  ⟨h.1.trans g.1, fun k h1 h2 => (g.2 k h1 (Nat.lt_of_lt_of_le h2 h.1.size)).trans (h.2 k h1 h2)⟩
theorem Keep.drewN {n : Nat} {a b : World} (h : Keep n a b) (m : Nat) : Keep n a (b.drewN m) := ⟨⟨h.1.os, h.1.tape, h.1.output, h.1.size, h.1.block⟩, h.2⟩
theorem Keep.drew {n : Nat} {a b : World} (h : Keep n a b) : Keep n a b.drew := ⟨h.1.drew, h.2⟩
theorem Keep.set {n : Nat} {a b : World} (h : Keep n a b) (o : Nat) (u : Value) : Keep n a (b.setCell ⟨n, o, none⟩ u) :=
  ⟨h.1.setCell (Nat.le_refl _) u, fun k h1 h2 => (Below.heap_setCell b ⟨n, o, none⟩ u k (by dsimp only; omega)).trans (h.2 k h1 h2)⟩
theorem Keep.setNew {n : Nat} {a b : World} (h : Keep n a b) {p : Addr} (hp : a.heap.size ≤ p.block) (hn : n ≤ p.block) (u : Value) : Keep n a (b.setCell p u) :=
  ⟨h.1.setCell hn u, fun k h1 h2 => (Below.heap_setCell b p u k (by omega)).trans (h.2 k h1 h2)⟩
theorem Keep.alloc {n : Nat} {a b : World} (h : Keep n a b) (hn : n ≤ b.heap.size) (o : Obj) : Keep n a (b.alloc o) :=
  ⟨h.1.alloc hn o, fun k h1 h2 => (Below.heap_alloc b o k (Nat.lt_of_lt_of_le h2 h.1.size)).trans (h.2 k h1 h2)⟩
theorem Keep.heap {n : Nat} {a b : World} (h : Keep n a b) {k : Nat} (hk : k ≠ n) (hl : k < a.heap.size) : b.heap[k]? = a.heap[k]? := by
  by_cases c : k < n
  · exact h.1.block k c
  · exact h.2 k (by omega) hl
theorem Keep.cell {n : Nat} {a b : World} (h : Keep n a b) {k o : Nat} {v : Value} (hk : k ≠ n) (hc : a.cell? ⟨k, o, none⟩ = some v) : b.cell? ⟨k, o, none⟩ = some v :=
  (World.cell?_of_block (w := a) (h.heap hk (World.block_lt_of_cell? _ _ hc))).trans hc
theorem Keep.below {n : Nat} {a b : World} (h : Keep n a b) {W : World} (hW : Below W.heap.size W a) (hn : W.heap.size ≤ n) : Below W.heap.size W b := hW.trans (h.1.mono hn)

/-- a cursor lies in block n. -/
def Cur (n : Nat) (w : World) : Prop :=
  ∃ (sl : Option Addr) (len cap : Nat) (i h : Int), w.cell? ⟨n, 0, none⟩ = some (.slice sl len cap) ∧ w.cell? ⟨n, 1, none⟩ = some (.int .i64 i) ∧ w.cell? ⟨n, 2, none⟩ = some (.int .i64 h) ∧
    w.frozen? ⟨n, 1, none⟩ = false ∧ w.frozen? ⟨n, 2, none⟩ = false ∧ 0 ≤ i ∧ len < 1125899906842624 ∧
    (len = 0 ∨ ∃ pb po, sl = some ⟨pb, po, none⟩ ∧ pb < n ∧ ∀ j, j < len → ∃ c : Int, 0 ≤ c ∧ c ≤ 255 ∧ w.cell? ⟨pb, po + j, none⟩ = some (.int .u8 c))

set_option maxHeartbeats 1000000 in
theorem l1Byte_any (n : Nat) (w : World) (hC : Cur n w) :
    Calls Tryd.prog 33 #[.pointer (some ⟨n, 0, none⟩)] w fun e w' => ∃ r : Int, e = .returned (.int .i64 r) ∧ 0 ≤ r ∧ r ≤ 255 ∧ Keep n w w' ∧ Cur n w' := by
  obtain ⟨sl, len, cap, i, h, c0, c1, c2, f1, f2, hi0, hlen, hby⟩ := hC
  by_cases hi : i < (len : Int)
  · obtain ⟨pb, po, rfl, hpn, hb⟩ : ∃ pb po, sl = some ⟨pb, po, none⟩ ∧ pb < n ∧ ∀ j, j < len → ∃ c : Int, 0 ≤ c ∧ c ≤ 255 ∧ w.cell? ⟨pb, po + j, none⟩ = some (.int .u8 c) := by
      rcases hby with h0 | h0
      · omega
      · exact h0
    obtain ⟨m, rfl⟩ := Int.eq_ofNat_of_zero_le hi0
    have hm : m < len := by omega
    obtain ⟨c, hc1, hc2, hc⟩ := hb m hm
    have hbH : Hid (∀ j, j < len → ∃ c : Int, 0 ≤ c ∧ c ≤ 255 ∧ w.cell? ⟨pb, po + j, none⟩ = some (.int .u8 c)) := hb
    clear hb hby hi0
    go_enter Tryd.func33, Tryd.ntmps33
    go_wp2
    go_quiet (fail)
    go_wp2
    go_quiet (fail)
    go_wp2
    go_quiet (fail)
    go_wp2
    go_ret
    refine ⟨_, rfl, (and255 _).1, (and255 _).2, (((Keep.refl n w).set _ _).drewN _).set _ _, some ⟨pb, po, none⟩, len, cap, ((m : Int) + 1), (wrap64 (wrap64 (h * 6364136223846793005) + 1442695040888963407)), ?_, ?_, ?_, ?_, ?_, by omega, hlen, ?_⟩
    · go_simp
    · go_simp
    · go_simp
    · go_simp
    · go_simp
    · refine Or.inr ⟨pb, po, rfl, hpn, fun j hj => ?_⟩
      obtain ⟨c', a1, a2, a3⟩ := hbH.out j hj
      refine ⟨c', a1, a2, ?_⟩
      exact ((((Keep.refl n w).set _ _).drewN _).set _ _).cell (by omega) a3
  · have hd : decide (i < (len : Int)) = false := by simpa using hi
    have hbH : Hid (len = 0 ∨ ∃ pb po, sl = some ⟨pb, po, none⟩ ∧ pb < n ∧ ∀ j, j < len → ∃ c : Int, 0 ≤ c ∧ c ≤ 255 ∧ w.cell? ⟨pb, po + j, none⟩ = some (.int .u8 c)) := hby
    clear hby
    go_enter Tryd.func33, Tryd.ntmps33
    go_wp2
    go_quiet (fail)
    go_wp2
    go_quiet (fail)
    go_wp2
    go_ret
    refine ⟨_, rfl, (and255 _).1, (and255 _).2, (((Keep.refl n w).set _ _).drewN _).drewN _, sl, len, cap, i, (wrap64 (wrap64 (h * 6364136223846793005) + 1442695040888963407)), ?_, ?_, ?_, ?_, ?_, hi0, hlen, ?_⟩
    · go_simp
    · go_simp
    · go_simp
    · go_simp
    · go_simp
    · rcases hbH.out with h0 | ⟨pb, po, h0, h1, h2⟩
      · exact Or.inl h0
      · refine Or.inr ⟨pb, po, h0, h1, fun j hj => ?_⟩
        obtain ⟨c, a1, a2, a3⟩ := h2 j hj
        refine ⟨c, a1, a2, ?_⟩
        exact ((((Keep.refl n w).set _ _).drewN _).drewN _).cell (by omega) a3

set_option maxHeartbeats 1000000 in
theorem l1Below_any (n : Nat) (k : Int) (w : World) (hC : Cur n w) (hk : -9223372036854775808 ≤ k ∧ k ≤ 9223372036854775807) :
    Calls Tryd.prog 14 #[.pointer (some ⟨n, 0, none⟩), .int .i64 k] w fun e w' => ∃ r : Int, e = .returned (.int .i64 r) ∧ 0 ≤ r ∧ (r < k ∨ r = 0) ∧ Keep n w w' ∧ Cur n w' := by
  by_cases h0 : k ≤ 0
  · go_enter Tryd.func14, Tryd.ntmps14
    go_wp2_with fail
    go_ret
    exact ⟨0, rfl, by omega, Or.inr rfl, Keep.refl _ _, hC⟩
  · by_cases h1 : k ≤ 256
    · go_enter Tryd.func14, Tryd.ntmps14
      go_wp2_with fail
      refine (l1Byte_any n _ hC).mono ?_
      rintro e w1 ⟨r, rfl, r1, r2, hK, hC1⟩
      go_wp2_with fail
      go_ret
      exact ⟨_, rfl, Int.emod_nonneg _ (by omega), Or.inl (Int.emod_lt_of_pos _ (by omega)), hK, hC1⟩
    · go_enter Tryd.func14, Tryd.ntmps14
      go_wp2_with fail
      refine (l1Byte_any n _ hC).mono ?_
      rintro e w1 ⟨x, rfl, x1, x2, hK1, hC1⟩
      go_wp2_with fail
      refine (l1Byte_any n _ hC1).mono ?_
      rintro e w2 ⟨y, rfl, y1, y2, hK2, hC2⟩
      go_wp2_with fail
      refine (l1Byte_any n _ hC2).mono ?_
      rintro e w3 ⟨z, rfl, z1, z2, hK3, hC3⟩
      go_wp2_with fail
      refine (l1Byte_any n _ hC3).mono ?_
      rintro e w4 ⟨u, rfl, u1, u2, hK4, hC4⟩
      go_wp2_with fail
      go_ret
      exact ⟨_, rfl, Int.emod_nonneg _ (by omega), Or.inl (Int.emod_lt_of_pos _ (by omega)), ((hK1.trans hK2).trans hK3).trans hK4, hC4⟩

set_option maxHeartbeats 1000000 in
theorem l1Once_any (n : Nat) (k : Int) (w : World) (hC : Cur n w) (hk : -9223372036854775808 ≤ k ∧ k ≤ 9223372036854775807) :
    Calls Tryd.prog 16 #[.pointer (some ⟨n, 0, none⟩), .int .i64 k] w fun e w' => ∃ b : Bool, e = .returned (.bool b) ∧ Keep n w w' ∧ Cur n w' := by
  go_enter Tryd.func16, Tryd.ntmps16
  go_wp2_with fail
  refine (l1Below_any n k _ hC hk).mono ?_
  rintro e w1 ⟨r, rfl, r1, r2, hK, hC1⟩
  go_wp2_with fail
  go_ret
  exact ⟨_, rfl, hK, hC1⟩

theorem rng {r : Int} (h : -9223372036854775808 ≤ r ∧ r ≤ 9223372036854775807) : -9223372036854775808 ≤ r ∧ r ≤ 9223372036854775807 := h

set_option maxHeartbeats 1000000 in
theorem l1Whole_any (n : Nat) (w : World) (hC : Cur n w) :
    Calls Tryd.prog 42 #[.pointer (some ⟨n, 0, none⟩)] w fun e w' => ∃ r : Int, e = .returned (.int .i64 r) ∧ (-9223372036854775808 ≤ r ∧ r ≤ 9223372036854775807) ∧ Keep n w w' ∧ Cur n w' := by
  go_enter Tryd.func42, Tryd.ntmps42
  go_wp2_with fail
  refine (l1Below_any n _ _ hC (by omega)).mono ?_
  rintro e w1 ⟨r, rfl, r1, r2, hK, hC1⟩
  go_wp2_with (go_at_call 14; refine (l1Below_any n _ _ hC1 (by omega)).mono ?_; rintro e w2 ⟨s, rfl, s1, s2, hK2, hC2⟩)
  all_goals
    go_ret
    first
      | exact ⟨_, rfl, rng (by omega), hK, hC1⟩
      | exact ⟨_, rfl, rng (by omega), hK.trans hK2, hC2⟩
end Go.Proofs.YtmhiddepddgfgaaDoor
