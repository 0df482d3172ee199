import Derived.Test.YtigllpegaljkmaaDoorEdj
import Derived.Deep.QuietTactic
import Derived.BigQuiet
import Derived.Laws.Bits128
import Derived.RegionTactic
import Derived.BigRegion
namespace Go.Proofs.YtigllpegaljkmaaDoor
open Go.RowKit
set_option linter.unusedSimpArgs false
set_option linter.unusedVariables false

theorem cell_later {W w1 : World} {b o : Nat} {v : Value} (hb : Below W.heap.size W w1) (h : W.cell? ⟨b, o, none⟩ = some v) : w1.cell? ⟨b, o, none⟩ = some v := (hb.cell (p := ⟨b, o, none⟩) (World.block_lt_of_cell? _ _ h)).trans h

theorem i64_and255 (n : Int) : bits .and .i64 n 255 = n % 256 := by
  have h255 : (BitVec.ofInt 64 255).toNat = 2 ^ 8 - 1 := by decide
  have key : (BitVec.ofInt 64 n &&& BitVec.ofInt 64 255).toNat = (n % ((2 ^ 64 : Nat) : Int)).toNat % 2 ^ 8 := by
    rw [BitVec.toNat_and, BitVec.toNat_ofInt, h255, Nat.and_two_pow_sub_one_eq_mod]
  show IntKind.i64.wrap ((BitVec.ofInt 64 n &&& BitVec.ofInt 64 255).toNat : Nat) = n % 256
  rw [key, IntKind.wrap_i64]
  omega
theorem and255 (n : Int) : 0 ≤ bits .and .i64 n 255 ∧ bits .and .i64 n 255 ≤ 255 := by rw [i64_and255]; omega
/-- nothing that was there turns but block n. -/
def Keep (n : Nat) (w w' : World) : Prop := Below n w w' ∧ ∀ k, n < k → k < w.heap.size → w'.heap[k]? = w.heap[k]?
theorem Keep.refl (n : Nat) (w : World) : Keep n w w := ⟨Below.refl _ _, fun _ _ _ => rfl⟩
theorem Keep.trans {n : Nat} {a b c : World} (h : Keep n a b) (g : Keep n b c) : Keep n a c :=
  ⟨h.1.trans g.1, fun k h1 h2 => (g.2 k h1 (Nat.lt_of_lt_of_le h2 h.1.size)).trans (h.2 k h1 h2)⟩
theorem Keep.drewN {n : Nat} {a b : World} (h : Keep n a b) (m : Nat) : Keep n a (b.drewN m) := ⟨⟨h.1.os, h.1.tape, h.1.output, h.1.size, h.1.block⟩, h.2⟩
theorem Keep.drew {n : Nat} {a b : World} (h : Keep n a b) : Keep n a b.drew := ⟨h.1.drew, h.2⟩
theorem Keep.set {n : Nat} {a b : World} (h : Keep n a b) (o : Nat) (u : Value) : Keep n a (b.setCell ⟨n, o, none⟩ u) :=
  ⟨h.1.setCell (Nat.le_refl _) u, fun k h1 h2 => (Below.heap_setCell b ⟨n, o, none⟩ u k (by dsimp only; omega)).trans (h.2 k h1 h2)⟩
theorem Keep.setNew {n : Nat} {a b : World} (h : Keep n a b) {p : Addr} (hp : a.heap.size ≤ p.block) (hn : n ≤ p.block) (u : Value) : Keep n a (b.setCell p u) :=
  ⟨h.1.setCell hn u, fun k h1 h2 => (Below.heap_setCell b p u k (by omega)).trans (h.2 k h1 h2)⟩
theorem Keep.alloc {n : Nat} {a b : World} (h : Keep n a b) (hn : n ≤ b.heap.size) (o : Obj) : Keep n a (b.alloc o) :=
  ⟨h.1.alloc hn o, fun k h1 h2 => (Below.heap_alloc b o k (Nat.lt_of_lt_of_le h2 h.1.size)).trans (h.2 k h1 h2)⟩
theorem Keep.heap {n : Nat} {a b : World} (h : Keep n a b) {k : Nat} (hk : k ≠ n) (hl : k < a.heap.size) : b.heap[k]? = a.heap[k]? := by
  by_cases c : k < n
  · exact h.1.block k c
  · exact h.2 k (by omega) hl
theorem Keep.cell {n : Nat} {a b : World} (h : Keep n a b) {k o : Nat} {v : Value} (hk : k ≠ n) (hc : a.cell? ⟨k, o, none⟩ = some v) : b.cell? ⟨k, o, none⟩ = some v :=
  (World.cell?_of_block (w := a) (h.heap hk (World.block_lt_of_cell? _ _ hc))).trans hc
theorem Keep.below {n : Nat} {a b : World} (h : Keep n a b) {W : World} (hW : Below W.heap.size W a) (hn : W.heap.size ≤ n) : Below W.heap.size W b := hW.trans (h.1.mono hn)
/-- a cursor lies in block n. -/
def Cur (n : Nat) (w : World) : Prop :=
  ∃ (sl : Option Addr) (len cap : Nat) (i h : Int), w.cell? ⟨n, 0, none⟩ = some (.slice sl len cap) ∧ w.cell? ⟨n, 1, none⟩ = some (.int .i64 i) ∧ w.cell? ⟨n, 2, none⟩ = some (.int .i64 h) ∧
    w.frozen? ⟨n, 1, none⟩ = false ∧ w.frozen? ⟨n, 2, none⟩ = false ∧ 0 ≤ i ∧ len < 1125899906842624 ∧
    (len = 0 ∨ ∃ pb po, sl = some ⟨pb, po, none⟩ ∧ pb < n ∧ ∀ j, j < len → ∃ c : Int, 0 ≤ c ∧ c ≤ 255 ∧ w.cell? ⟨pb, po + j, none⟩ = some (.int .u8 c))
set_option maxHeartbeats 1000000 in
theorem l1Byte_any (n : Nat) (w : World) (hC : Cur n w) :
    Calls Tryd.prog 33 #[.pointer (some ⟨n, 0, none⟩)] w fun e w' => ∃ r : Int, e = .returned (.int .i64 r) ∧ 0 ≤ r ∧ r ≤ 255 ∧ Keep n w w' ∧ Cur n w' := by
  obtain ⟨sl, len, cap, i, h, c0, c1, c2, f1, f2, hi0, hlen, hby⟩ := hC
  by_cases hi : i < (len : Int)
  · obtain ⟨pb, po, rfl, hpn, hb⟩ : ∃ pb po, sl = some ⟨pb, po, none⟩ ∧ pb < n ∧ ∀ j, j < len → ∃ c : Int, 0 ≤ c ∧ c ≤ 255 ∧ w.cell? ⟨pb, po + j, none⟩ = some (.int .u8 c) := by
      rcases hby with h0 | h0
      · omega
      · exact h0
    obtain ⟨m, rfl⟩ := Int.eq_ofNat_of_zero_le hi0
    have hm : m < len := by omega
    obtain ⟨c, hc1, hc2, hc⟩ := hb m hm
    have hbH : Hid (∀ j, j < len → ∃ c : Int, 0 ≤ c ∧ c ≤ 255 ∧ w.cell? ⟨pb, po + j, none⟩ = some (.int .u8 c)) := hb
    clear hb hby hi0
    go_enter Tryd.func33, Tryd.ntmps33
    go_wp2
    go_quiet (fail)
    go_wp2
    go_quiet (fail)
    go_wp2
    go_quiet (fail)
    go_wp2
    go_ret
    refine ⟨_, rfl, (and255 _).1, (and255 _).2, (((Keep.refl n w).set _ _).drewN _).set _ _, some ⟨pb, po, none⟩, len, cap, ((m : Int) + 1), (wrap64 (wrap64 (h * 6364136223846793005) + 1442695040888963407)), ?_, ?_, ?_, ?_, ?_, by omega, hlen, ?_⟩
    · go_simp
    · go_simp
    · go_simp
    · go_simp
    · go_simp
    · refine Or.inr ⟨pb, po, rfl, hpn, fun j hj => ?_⟩
      obtain ⟨c', a1, a2, a3⟩ := hbH.out j hj
      refine ⟨c', a1, a2, ?_⟩
      exact ((((Keep.refl n w).set _ _).drewN _).set _ _).cell (by omega) a3
  · have hd : decide (i < (len : Int)) = false := by simpa using hi
    have hbH : Hid (len = 0 ∨ ∃ pb po, sl = some ⟨pb, po, none⟩ ∧ pb < n ∧ ∀ j, j < len → ∃ c : Int, 0 ≤ c ∧ c ≤ 255 ∧ w.cell? ⟨pb, po + j, none⟩ = some (.int .u8 c)) := hby
    clear hby
    go_enter Tryd.func33, Tryd.ntmps33
    go_wp2
    go_quiet (fail)
    go_wp2
    go_quiet (fail)
    go_wp2
    go_ret
    refine ⟨_, rfl, (and255 _).1, (and255 _).2, (((Keep.refl n w).set _ _).drewN _).drewN _, sl, len, cap, i, (wrap64 (wrap64 (h * 6364136223846793005) + 1442695040888963407)), ?_, ?_, ?_, ?_, ?_, hi0, hlen, ?_⟩
    · go_simp
    · go_simp
    · go_simp
    · go_simp
    · go_simp
    · rcases hbH.out with h0 | ⟨pb, po, h0, h1, h2⟩
      · exact Or.inl h0
      · refine Or.inr ⟨pb, po, h0, h1, fun j hj => ?_⟩
        obtain ⟨c, a1, a2, a3⟩ := h2 j hj
        refine ⟨c, a1, a2, ?_⟩
        exact ((((Keep.refl n w).set _ _).drewN _).drewN _).cell (by omega) a3
set_option maxHeartbeats 1000000 in
theorem l1Below_any (n : Nat) (k : Int) (w : World) (hC : Cur n w) (hk : -9223372036854775808 ≤ k ∧ k ≤ 9223372036854775807) :
    Calls Tryd.prog 16 #[.pointer (some ⟨n, 0, none⟩), .int .i64 k] w fun e w' => ∃ r : Int, e = .returned (.int .i64 r) ∧ 0 ≤ r ∧ (r < k ∨ r = 0) ∧ Keep n w w' ∧ Cur n w' := by
  by_cases h0 : k ≤ 0
  · go_enter Tryd.func16, Tryd.ntmps16
    go_wp2_with fail
    go_ret
    exact ⟨0, rfl, by omega, Or.inr rfl, Keep.refl _ _, hC⟩
  · by_cases h1 : k ≤ 256
    · go_enter Tryd.func16, Tryd.ntmps16
      go_wp2_with fail
      refine (l1Byte_any n _ hC).mono ?_
      rintro e w1 ⟨r, rfl, r1, r2, hK, hC1⟩
      go_wp2_with fail
      go_ret
      exact ⟨_, rfl, Int.emod_nonneg _ (by omega), Or.inl (Int.emod_lt_of_pos _ (by omega)), hK, hC1⟩
    · go_enter Tryd.func16, Tryd.ntmps16
      go_wp2_with fail
      refine (l1Byte_any n _ hC).mono ?_
      rintro e w1 ⟨x, rfl, x1, x2, hK1, hC1⟩
      go_wp2_with fail
      refine (l1Byte_any n _ hC1).mono ?_
      rintro e w2 ⟨y, rfl, y1, y2, hK2, hC2⟩
      go_wp2_with fail
      refine (l1Byte_any n _ hC2).mono ?_
      rintro e w3 ⟨z, rfl, z1, z2, hK3, hC3⟩
      go_wp2_with fail
      refine (l1Byte_any n _ hC3).mono ?_
      rintro e w4 ⟨u, rfl, u1, u2, hK4, hC4⟩
      go_wp2_with fail
      go_ret
      exact ⟨_, rfl, Int.emod_nonneg _ (by omega), Or.inl (Int.emod_lt_of_pos _ (by omega)), ((hK1.trans hK2).trans hK3).trans hK4, hC4⟩
set_option maxHeartbeats 1000000 in
theorem l1Once_any (n : Nat) (k : Int) (w : World) (hC : Cur n w) (hk : -9223372036854775808 ≤ k ∧ k ≤ 9223372036854775807) :
    Calls Tryd.prog 17 #[.pointer (some ⟨n, 0, none⟩), .int .i64 k] w fun e w' => ∃ b : Bool, e = .returned (.bool b) ∧ Keep n w w' ∧ Cur n w' := by
  go_enter Tryd.func17, Tryd.ntmps17
  go_wp2_with fail
  refine (l1Below_any n k _ hC hk).mono ?_
  rintro e w1 ⟨r, rfl, r1, r2, hK, hC1⟩
  go_wp2_with fail
  go_ret
  exact ⟨_, rfl, hK, hC1⟩
theorem kcell {n : Nat} {W w1 : World} (h : Keep n W w1) : (∀ b o, ¬ b = n → b < W.heap.size → w1.cell? ⟨b, o, none⟩ = W.cell? ⟨b, o, none⟩) ∧ (∀ b o, ¬ b = n → b < W.heap.size → w1.frozen? ⟨b, o, none⟩ = W.frozen? ⟨b, o, none⟩) :=
  ⟨fun _ _ hb hl => World.cell?_of_block (w := W) (h.heap hb hl), fun _ _ hb hl => World.frozen?_of_block (w := W) (h.heap hb hl)⟩
theorem Cur.lt {n : Nat} {w : World} (h : Cur n w) : n < w.heap.size := by
  obtain ⟨sl, len, cap, i, hh, c0, _⟩ := h
  exact World.block_lt_of_cell? _ _ c0
theorem Cur.below {n : Nat} {w w' : World} (h : Cur n w) (hb : Below (n + 1) w w') : Cur n w' := by
  have cl : ∀ {k o : Nat} {v : Value}, k < n + 1 → w.cell? ⟨k, o, none⟩ = some v → w'.cell? ⟨k, o, none⟩ = some v := fun {k o v} hk hc => (hb.cell (p := ⟨k, o, none⟩) hk).trans hc
  obtain ⟨sl, len, cap, i, hh, c0, c1, c2, f1, f2, hi, hlen, hby⟩ := h
  refine ⟨sl, len, cap, i, hh, cl (by omega) c0, cl (by omega) c1, cl (by omega) c2, (hb.frozen (p := ⟨n, 1, none⟩) (by dsimp only; omega)).trans f1, (hb.frozen (p := ⟨n, 2, none⟩) (by dsimp only; omega)).trans f2, hi, hlen, ?_⟩
  rcases hby with h0 | ⟨pb, po, h0, h1, h2⟩
  · exact Or.inl h0
  · refine Or.inr ⟨pb, po, h0, h1, fun j hj => ?_⟩
    obtain ⟨c, a1, a2, a3⟩ := h2 j hj
    exact ⟨c, a1, a2, cl (by omega) a3⟩
theorem Cur.alloc {n : Nat} {w : World} (h : Cur n w) (o : Obj) : Cur n (w.alloc o) := h.below ((Below.refl _ _).alloc h.lt o)
theorem Cur.set {n : Nat} {w : World} (h : Cur n w) {p : Addr} (hp : n < p.block) (u : Value) : Cur n (w.setCell p u) := h.below ((Below.refl _ _).setCell hp u)
theorem Cur.drew {n : Nat} {w : World} (h : Cur n w) : Cur n w.drew := h
/-- bytes that can be read. -/
def Code (w : World) (sl : Option Addr) (len : Nat) : Prop :=
  len = 0 ∨ ∃ pb po, sl = some ⟨pb, po, none⟩ ∧ pb < w.heap.size ∧ ∀ j, j < len → ∃ c : Int, 0 ≤ c ∧ c ≤ 255 ∧ w.cell? ⟨pb, po + j, none⟩ = some (.int .u8 c)
theorem i64_and30 (n : Int) : bits .and .i64 n 1073741823 = n % 1073741824 := by
  have h : (BitVec.ofInt 64 1073741823).toNat = 2 ^ 30 - 1 := by decide
  have key : (BitVec.ofInt 64 n &&& BitVec.ofInt 64 1073741823).toNat = (n % ((2 ^ 64 : Nat) : Int)).toNat % 2 ^ 30 := by
    rw [BitVec.toNat_and, BitVec.toNat_ofInt, h, Nat.and_two_pow_sub_one_eq_mod]
  show IntKind.i64.wrap ((BitVec.ofInt 64 n &&& BitVec.ofInt 64 1073741823).toNat : Nat) = n % 1073741824
  rw [key, IntKind.wrap_i64]
  omega
theorem cur_new (w : World) (sl : Option Addr) (len cap : Nat) (H : Int) (t : TypeId) (hl : len ≤ 1048576) (hC : Code w sl len) : Cur w.heap.size (w.alloc (.cells #[.slice sl len cap, .int .i64 0, .int .i64 H] t)) := by
  refine ⟨sl, len, cap, 0, H, by simp, by simp, by simp, by simp, by simp, by omega, by omega, ?_⟩
  rcases hC with h0 | ⟨pb, po, h0, h1, h2⟩
  · exact Or.inl h0
  · refine Or.inr ⟨pb, po, h0, h1, fun j hj => ?_⟩
    obtain ⟨c, a1, a2, a3⟩ := h2 j hj
    exact ⟨c, a1, a2, cell_later (bl_alloc (Below.refl _ w) _) a3⟩
set_option maxRecDepth 100000 in
set_option maxHeartbeats 2000000 in
theorem l1New_any (sl : Option Addr) (len cap : Nat) (w : World) (hl : len ≤ 1048576) (hC : Code w sl len) :
    Calls Tryd.prog 13 #[.slice sl len cap] w fun e w' => ∃ n, e = .returned (.pointer (some ⟨n, 0, none⟩)) ∧ w.heap.size ≤ n ∧ Below w.heap.size w w' ∧ Cur n w' := by
  go_enter Tryd.func13, Tryd.ntmps13
  go_wp2
  go_loop [3, 4] (fun h i => ∃ (k : Nat) (H : Int), 0 ≤ H ∧ H ≤ 1073741823 ∧ k ≤ len ∧ i = .int .i64 k ∧ h = .int .i64 H) (fun _ i => len - (intOf i).toNat)
  case atStart => exact ⟨0, 70070 + (len : Int), by omega, by omega, Nat.zero_le _, rfl, rfl⟩
  case round =>
    obtain ⟨k, H, h1, h2, hk, rfl, rfl⟩ := hrel
    by_cases hlt : k < len
    · obtain ⟨pb, po, rfl, hp, hby⟩ : ∃ pb po, sl = some ⟨pb, po, none⟩ ∧ pb < w.heap.size ∧ ∀ j, j < len → ∃ c : Int, 0 ≤ c ∧ c ≤ 255 ∧ w.cell? ⟨pb, po + j, none⟩ = some (.int .u8 c) := by
        rcases hC with h0 | h0
        · omega
        · exact h0
      obtain ⟨c, c1, c2, hc⟩ := hby k hlt
      have hH : Hid (∀ j, j < len → ∃ c : Int, 0 ≤ c ∧ c ≤ 255 ∧ w.cell? ⟨pb, po + j, none⟩ = some (.int .u8 c)) := hby
      clear hby hC
      by_cases h4 : k < 4000
      · go_wp2
        refine ⟨⟨k + 1, _, ?_, ?_, by omega, by go_num, rfl⟩, ?_⟩
        · rw [i64_and30]; omega
        · rw [i64_and30]; omega
        · simp [intOf]; omega
      · go_wp2
        go_ret
        exact ⟨_, rfl, Nat.le_refl _, bl_alloc (Below.refl _ _) _, cur_new w _ len cap H _ hl (Or.inr ⟨pb, po, rfl, hp, hH.out⟩)⟩
    · go_wp2
      go_ret
      exact ⟨_, rfl, Nat.le_refl _, bl_alloc (Below.refl _ _) _, cur_new w sl len cap H _ hl hC⟩
theorem Code.alloc {w : World} {sl : Option Addr} {len : Nat} (h : Code w sl len) (o : Obj) : Code (w.alloc o) sl len := by
  rcases h with h0 | ⟨pb, po, h0, h1, h2⟩
  · exact Or.inl h0
  · refine Or.inr ⟨pb, po, h0, by simp; omega, fun j hj => ?_⟩
    obtain ⟨c, a1, a2, a3⟩ := h2 j hj
    exact ⟨c, a1, a2, cell_later (bl_alloc (Below.refl _ w) _) a3⟩
set_option maxHeartbeats 1000000 in
theorem big_any (sl : Option Addr) (len cap : Nat) (w : World) :
    Calls Tryd.prog 4 #[.slice sl len cap] w fun e w' => e = .returned (.bool (decide (1048576 < (len : Int)))) ∧ w' = w := by
  go_enter Tryd.func4, Tryd.ntmps4
  go_wp2
  go_ret
  exact ⟨rfl, rfl⟩

theorem Keep.grown {n : Nat} {a b : World} (h : Keep n a b) : a.grownBy b (some n) := ⟨h.1.os, h.1.tape, h.1.output, h.1.size, fun k hk hn => h.heap (fun e => hn (by rw [e])) hk⟩
theorem Blk.keep {n m : Nat} {a b : World} {c : Array Value} {t : TypeId} (h : Blk a m c t) (hK : Keep n a b) (hn : ¬ m = n) : Blk b m c t := by
  unfold Blk; rw [hK.heap hn h.lt]; exact h
/-- new memory alone, or the cursor's. -/
theorem Keep.of_below {n : Nat} {a b : World} (h : Below a.heap.size a b) (hn : n ≤ a.heap.size) : Keep n a b := ⟨h.mono hn, fun k h1 h2 => h.block k h2⟩
theorem Keep.of_grown {n g : Nat} {W a b : World} (hW : Keep n W a) (h : a.grownBy b (some g)) (hg : W.heap.size ≤ g) (hn : n ≤ W.heap.size) : Keep n W b :=
  ⟨⟨h.os.trans hW.1.os, h.tape.trans hW.1.tape, h.output.trans hW.1.output, Nat.le_trans hW.1.size h.size, fun k hk => (h.block k (by have := hW.1.size; omega) (by simp; omega)).trans (hW.1.block k hk)⟩,
   fun k h1 h2 => (h.block k (by have := hW.1.size; omega) (by simp; omega)).trans (hW.2 k h1 h2)⟩
theorem Cur.grown {n g : Nat} {a b : World} (h : Cur n a) (hg : a.grownBy b (some g)) (hn : n < g) : Cur n b :=
  h.below ⟨hg.os, hg.tape, hg.output, hg.size, fun k hk => hg.block k (by have := h.lt; omega) (by simp; omega)⟩
end Go.Proofs.YtigllpegaljkmaaDoor
