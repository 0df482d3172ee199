import Derived.Test.YtpfamdpgcbpiaaaRp
import Derived.Test.YtpfamdpgcbpiaaaWx
import Derived.Deep.QuietTactic
import Derived.BigQuiet
import Derived.Laws.Bits128
import Derived.RegionTactic
import Derived.BigRegion
namespace Go.Proofs.Ytpfamdpgcbpiaaa
open Go.RowKit
set_option linter.unusedVariables false
set_option linter.unusedSimpArgs false

theorem i64_and255 (n : Int) : bits .and .i64 n 255 = n % 256 := by
  have h255 : (BitVec.ofInt 64 255).toNat = 2 ^ 8 - 1 := by decide
  have key : (BitVec.ofInt 64 n &&& BitVec.ofInt 64 255).toNat = (n % ((2 ^ 64 : Nat) : Int)).toNat % 2 ^ 8 := by
    rw [BitVec.toNat_and, BitVec.toNat_ofInt, h255, Nat.and_two_pow_sub_one_eq_mod]
  show IntKind.i64.wrap ((BitVec.ofInt 64 n &&& BitVec.ofInt 64 255).toNat : Nat) = n % 256
  rw [key, IntKind.wrap_i64]
  omega
theorem and255 (n : Int) : 0 ≤ bits .and .i64 n 255 ∧ bits .and .i64 n 255 ≤ 255 := by rw [i64_and255]; omega
/-- nothing that was there turns but block n. -/
def Keep (n : Nat) (w w' : World) : Prop := Below n w w' ∧ ∀ k, n < k → k < w.heap.size → w'.heap[k]? = w.heap[k]?
theorem Keep.refl (n : Nat) (w : World) : Keep n w w := ⟨Below.refl _ _, fun _ _ _ => rfl⟩
theorem Keep.trans {n : Nat} {a b c : World} (h : Keep n a b) (g : Keep n b c) : Keep n a c :=
  ⟨h.1.trans g.1, fun k h1 h2 => (g.2 k h1 (Nat.lt_of_lt_of_le h2 h.1.size)).trans (h.2 k h1 h2)⟩
theorem Keep.drewN {n : Nat} {a b : World} (h : Keep n a b) (m : Nat) : Keep n a (b.drewN m) := ⟨⟨h.1.os, h.1.tape, h.1.output, h.1.size, h.1.block⟩, h.2⟩
theorem Keep.drew {n : Nat} {a b : World} (h : Keep n a b) : Keep n a b.drew := ⟨h.1.drew, h.2⟩
theorem Keep.set {n : Nat} {a b : World} (h : Keep n a b) (o : Nat) (u : Value) : Keep n a (b.setCell ⟨n, o, none⟩ u) :=
  ⟨h.1.setCell (Nat.le_refl _) u, fun k h1 h2 => (Below.heap_setCell b ⟨n, o, none⟩ u k (by dsimp only; omega)).trans (h.2 k h1 h2)⟩
theorem Keep.setNew {n : Nat} {a b : World} (h : Keep n a b) {p : Addr} (hp : a.heap.size ≤ p.block) (hn : n ≤ p.block) (u : Value) : Keep n a (b.setCell p u) :=
  ⟨h.1.setCell hn u, fun k h1 h2 => (Below.heap_setCell b p u k (by omega)).trans (h.2 k h1 h2)⟩
theorem Keep.alloc {n : Nat} {a b : World} (h : Keep n a b) (hn : n ≤ b.heap.size) (o : Obj) : Keep n a (b.alloc o) :=
  ⟨h.1.alloc hn o, fun k h1 h2 => (Below.heap_alloc b o k (Nat.lt_of_lt_of_le h2 h.1.size)).trans (h.2 k h1 h2)⟩
theorem Keep.heap {n : Nat} {a b : World} (h : Keep n a b) {k : Nat} (hk : k ≠ n) (hl : k < a.heap.size) : b.heap[k]? = a.heap[k]? := by
  by_cases c : k < n
  · exact h.1.block k c
  · exact h.2 k (by omega) hl
theorem Keep.cell {n : Nat} {a b : World} (h : Keep n a b) {k o : Nat} {v : Value} (hk : k ≠ n) (hc : a.cell? ⟨k, o, none⟩ = some v) : b.cell? ⟨k, o, none⟩ = some v :=
  (World.cell?_of_block (w := a) (h.heap hk (World.block_lt_of_cell? _ _ hc))).trans hc
theorem Keep.below {n : Nat} {a b : World} (h : Keep n a b) {W : World} (hW : Below W.heap.size W a) (hn : W.heap.size ≤ n) : Below W.heap.size W b := hW.trans (h.1.mono hn)
/-- a cursor lies in block n. -/
def Cur (n : Nat) (w : World) : Prop :=
  ∃ (sl : Option Addr) (len cap : Nat) (i h : Int), w.cell? ⟨n, 0, none⟩ = some (.slice sl len cap) ∧ w.cell? ⟨n, 1, none⟩ = some (.int .i64 i) ∧ w.cell? ⟨n, 2, none⟩ = some (.int .i64 h) ∧
    w.frozen? ⟨n, 1, none⟩ = false ∧ w.frozen? ⟨n, 2, none⟩ = false ∧ 0 ≤ i ∧ len < 1125899906842624 ∧
    (len = 0 ∨ ∃ pb po, sl = some ⟨pb, po, none⟩ ∧ pb < n ∧ ∀ j, j < len → ∃ c : Int, 0 ≤ c ∧ c ≤ 255 ∧ w.cell? ⟨pb, po + j, none⟩ = some (.int .u8 c))
set_option maxHeartbeats 1000000 in
theorem l1Byte_any (n : Nat) (w : World) (hC : Cur n w) :
    Calls Try.prog 48 #[.pointer (some ⟨n, 0, none⟩)] w fun e w' => ∃ r : Int, e = .returned (.int .i64 r) ∧ 0 ≤ r ∧ r ≤ 255 ∧ Keep n w w' ∧ Cur n w' := by
  obtain ⟨sl, len, cap, i, h, c0, c1, c2, f1, f2, hi0, hlen, hby⟩ := hC
  by_cases hi : i < (len : Int)
  · obtain ⟨pb, po, rfl, hpn, hb⟩ : ∃ pb po, sl = some ⟨pb, po, none⟩ ∧ pb < n ∧ ∀ j, j < len → ∃ c : Int, 0 ≤ c ∧ c ≤ 255 ∧ w.cell? ⟨pb, po + j, none⟩ = some (.int .u8 c) := by
      rcases hby with h0 | h0
      · omega
      · exact h0
    obtain ⟨m, rfl⟩ := Int.eq_ofNat_of_zero_le hi0
    have hm : m < len := by omega
    obtain ⟨c, hc1, hc2, hc⟩ := hb m hm
    have hbH : Hid (∀ j, j < len → ∃ c : Int, 0 ≤ c ∧ c ≤ 255 ∧ w.cell? ⟨pb, po + j, none⟩ = some (.int .u8 c)) := hb
    clear hb hby hi0
    go_enter Try.func48, Try.ntmps48
    go_wp2
    go_quiet (fail)
    go_wp2
    go_quiet (fail)
    go_wp2
    go_quiet (fail)
    go_wp2
    go_ret
    refine ⟨_, rfl, (and255 _).1, (and255 _).2, (((Keep.refl n w).set _ _).drewN _).set _ _, some ⟨pb, po, none⟩, len, cap, ((m : Int) + 1), (wrap64 (wrap64 (h * 6364136223846793005) + 1442695040888963407)), ?_, ?_, ?_, ?_, ?_, by omega, hlen, ?_⟩
    · go_simp
    · go_simp
    · go_simp
    · go_simp
    · go_simp
    · refine Or.inr ⟨pb, po, rfl, hpn, fun j hj => ?_⟩
      obtain ⟨c', a1, a2, a3⟩ := hbH.out j hj
      refine ⟨c', a1, a2, ?_⟩
      exact ((((Keep.refl n w).set _ _).drewN _).set _ _).cell (by omega) a3
  · have hd : decide (i < (len : Int)) = false := by simpa using hi
    have hbH : Hid (len = 0 ∨ ∃ pb po, sl = some ⟨pb, po, none⟩ ∧ pb < n ∧ ∀ j, j < len → ∃ c : Int, 0 ≤ c ∧ c ≤ 255 ∧ w.cell? ⟨pb, po + j, none⟩ = some (.int .u8 c)) := hby
    clear hby
    go_enter Try.func48, Try.ntmps48
    go_wp2
    go_quiet (fail)
    go_wp2
    go_quiet (fail)
    go_wp2
    go_ret
    refine ⟨_, rfl, (and255 _).1, (and255 _).2, (((Keep.refl n w).set _ _).drewN _).drewN _, sl, len, cap, i, (wrap64 (wrap64 (h * 6364136223846793005) + 1442695040888963407)), ?_, ?_, ?_, ?_, ?_, hi0, hlen, ?_⟩
    · go_simp
    · go_simp
    · go_simp
    · go_simp
    · go_simp
    · rcases hbH.out with h0 | ⟨pb, po, h0, h1, h2⟩
      · exact Or.inl h0
      · refine Or.inr ⟨pb, po, h0, h1, fun j hj => ?_⟩
        obtain ⟨c, a1, a2, a3⟩ := h2 j hj
        refine ⟨c, a1, a2, ?_⟩
        exact ((((Keep.refl n w).set _ _).drewN _).drewN _).cell (by omega) a3
set_option maxHeartbeats 1000000 in
theorem l1Below_any (n : Nat) (k : Int) (w : World) (hC : Cur n w) (hk : -9223372036854775808 ≤ k ∧ k ≤ 9223372036854775807) :
    Calls Try.prog 27 #[.pointer (some ⟨n, 0, none⟩), .int .i64 k] w fun e w' => ∃ r : Int, e = .returned (.int .i64 r) ∧ 0 ≤ r ∧ (r < k ∨ r = 0) ∧ Keep n w w' ∧ Cur n w' := by
  by_cases h0 : k ≤ 0
  · go_enter Try.func27, Try.ntmps27
    go_wp2_with fail
    go_ret
    exact ⟨0, rfl, by omega, Or.inr rfl, Keep.refl _ _, hC⟩
  · by_cases h1 : k ≤ 256
    · go_enter Try.func27, Try.ntmps27
      go_wp2_with fail
      refine (l1Byte_any n _ hC).mono ?_
      rintro e w1 ⟨r, rfl, r1, r2, hK, hC1⟩
      go_wp2_with fail
      go_ret
      exact ⟨_, rfl, Int.emod_nonneg _ (by omega), Or.inl (Int.emod_lt_of_pos _ (by omega)), hK, hC1⟩
    · go_enter Try.func27, Try.ntmps27
      go_wp2_with fail
      refine (l1Byte_any n _ hC).mono ?_
      rintro e w1 ⟨x, rfl, x1, x2, hK1, hC1⟩
      go_wp2_with fail
      refine (l1Byte_any n _ hC1).mono ?_
      rintro e w2 ⟨y, rfl, y1, y2, hK2, hC2⟩
      go_wp2_with fail
      refine (l1Byte_any n _ hC2).mono ?_
      rintro e w3 ⟨z, rfl, z1, z2, hK3, hC3⟩
      go_wp2_with fail
      refine (l1Byte_any n _ hC3).mono ?_
      rintro e w4 ⟨u, rfl, u1, u2, hK4, hC4⟩
      go_wp2_with fail
      go_ret
      exact ⟨_, rfl, Int.emod_nonneg _ (by omega), Or.inl (Int.emod_lt_of_pos _ (by omega)), ((hK1.trans hK2).trans hK3).trans hK4, hC4⟩
set_option maxHeartbeats 1000000 in
theorem l1Once_any (n : Nat) (k : Int) (w : World) (hC : Cur n w) (hk : -9223372036854775808 ≤ k ∧ k ≤ 9223372036854775807) :
    Calls Try.prog 28 #[.pointer (some ⟨n, 0, none⟩), .int .i64 k] w fun e w' => ∃ b : Bool, e = .returned (.bool b) ∧ Keep n w w' ∧ Cur n w' := by
  go_enter Try.func28, Try.ntmps28
  go_wp2_with fail
  refine (l1Below_any n k _ hC hk).mono ?_
  rintro e w1 ⟨r, rfl, r1, r2, hK, hC1⟩
  go_wp2_with fail
  go_ret
  exact ⟨_, rfl, hK, hC1⟩
theorem rng {r : Int} (h : -9223372036854775808 ≤ r ∧ r ≤ 9223372036854775807) : -9223372036854775808 ≤ r ∧ r ≤ 9223372036854775807 := h
set_option maxHeartbeats 1000000 in
theorem l1Whole_any (n : Nat) (w : World) (hC : Cur n w) :
    Calls Try.prog 61 #[.pointer (some ⟨n, 0, none⟩)] w fun e w' => ∃ r : Int, e = .returned (.int .i64 r) ∧ (-9223372036854775808 ≤ r ∧ r ≤ 9223372036854775807) ∧ Keep n w w' ∧ Cur n w' := by
  go_enter Try.func61, Try.ntmps61
  go_wp2_with fail
  refine (l1Below_any n _ _ hC (by omega)).mono ?_
  rintro e w1 ⟨r, rfl, r1, r2, hK, hC1⟩
  go_wp2_with (go_at_call 27; refine (l1Below_any n _ _ hC1 (by omega)).mono ?_; rintro e w2 ⟨s, rfl, s1, s2, hK2, hC2⟩)
  all_goals
    go_ret
    first
      | exact ⟨_, rfl, rng (by omega), hK, hC1⟩
      | exact ⟨_, rfl, rng (by omega), hK.trans hK2, hC2⟩
theorem fres_lt (op : BinOp) (x y : Nat) (w : World) : fres op x y w < 18446744073709551616 := (fres_is op x y w).1
set_option maxHeartbeats 1000000 in
theorem l1Nan_any (w : World) :
    Calls Try.prog 63 #[] w fun e w' => ∃ x m, e = .returned (.float .f64 x) ∧ x < 18446744073709551616 ∧ w' = w.drewN m := by
  have hq := fun t x y w => run_float_any (P := Try.prog) .quo rfl t x y w
  go_enter Try.func63, Try.ntmps63
  go_wp2_with fail
  go_ret
  exact ⟨_, _, rfl, fres_lt _ _ _ _, rfl⟩
set_option maxHeartbeats 1000000 in
theorem l1Inf_any (w : World) :
    Calls Try.prog 64 #[] w fun e w' => ∃ x m, e = .returned (.float .f64 x) ∧ x < 18446744073709551616 ∧ w' = w.drewN m := by
  have hq := fun t x y w => run_float_any (P := Try.prog) .quo rfl t x y w
  go_enter Try.func64, Try.ntmps64
  go_wp2_with fail
  go_ret
  exact ⟨_, _, rfl, fres_lt _ _ _ _, rfl⟩
theorem Cur.drewN {n : Nat} {w : World} (h : Cur n w) (m : Nat) : Cur n (w.drewN m) := h
set_option maxHeartbeats 2000000 in
theorem l1Float_any (n : Nat) (w : World) (hC : Cur n w) :
    Calls Try.prog 62 #[.pointer (some ⟨n, 0, none⟩)] w fun e w' => ∃ x : Nat, e = .returned (.float .f64 x) ∧ x < 18446744073709551616 ∧ Keep n w w' ∧ Cur n w' := by
  have hq := fun t x y w => run_float_any (P := Try.prog) .quo rfl t x y w
  have hm := fun t x y w => run_float_any (P := Try.prog) .mul rfl t x y w
  have hn := run_neg
  go_enter Try.func62, Try.ntmps62
  go_wp2_with fail
  refine (l1Below_any n _ _ hC (by omega)).mono ?_
  rintro e w1 ⟨r, rfl, r1, r2, hK, hC1⟩
  go_wp2_with (first | (go_at_call 27; refine (l1Below_any n _ _ hC1 (by omega)).mono ?_; rintro e w2 ⟨s, rfl, s1, s2, hK2, hC2⟩) | (go_at_call 28; refine (l1Once_any n _ _ hC1 (by omega)).mono ?_; rintro e w2 ⟨b, rfl, hK2, hC2⟩) | (go_at_call 63; refine (l1Nan_any _).mono ?_; rintro e w3 ⟨x, m, rfl, lx, rfl⟩) | (go_at_call 64; refine (l1Inf_any _).mono ?_; rintro e w3 ⟨x, m, rfl, lx, rfl⟩))
  all_goals
    go_ret
    first
      | exact ⟨_, rfl, lx, (hK.trans hK2).drewN _, hC2.drewN _⟩
      | exact ⟨_, rfl, fres_lt _ _ _ _, (hK.trans hK2).drewN _, hC2.drewN _⟩
      | exact ⟨_, rfl, negF_lt (fres_lt _ _ _ _), (hK.trans hK2).drewN _, hC2.drewN _⟩
      | exact ⟨_, rfl, by decide, hK.trans hK2, hC2⟩
      | exact ⟨_, rfl, by decide, hK, hC1⟩
theorem kcellK {n : Nat} {W w1 : World} (h : Keep n W w1) : (∀ b o, ¬ b = n → b < W.heap.size → w1.cell? ⟨b, o, none⟩ = W.cell? ⟨b, o, none⟩) ∧ (∀ b o, ¬ b = n → b < W.heap.size → w1.frozen? ⟨b, o, none⟩ = W.frozen? ⟨b, o, none⟩) :=
  ⟨fun _ _ hb hl => World.cell?_of_block (w := W) (h.heap hb hl), fun _ _ hb hl => World.frozen?_of_block (w := W) (h.heap hb hl)⟩
theorem Cur.lt {n : Nat} {w : World} (h : Cur n w) : n < w.heap.size := by
  obtain ⟨sl, len, cap, i, hh, c0, _⟩ := h
  exact World.block_lt_of_cell? _ _ c0
theorem Cur.below {n : Nat} {w w' : World} (h : Cur n w) (hb : Below (n + 1) w w') : Cur n w' := by
  have cl : ∀ {k o : Nat} {v : Value}, k < n + 1 → w.cell? ⟨k, o, none⟩ = some v → w'.cell? ⟨k, o, none⟩ = some v := fun {k o v} hk hc => (hb.cell (p := ⟨k, o, none⟩) hk).trans hc
  obtain ⟨sl, len, cap, i, hh, c0, c1, c2, f1, f2, hi, hlen, hby⟩ := h
  refine ⟨sl, len, cap, i, hh, cl (by omega) c0, cl (by omega) c1, cl (by omega) c2, (hb.frozen (p := ⟨n, 1, none⟩) (by dsimp only; omega)).trans f1, (hb.frozen (p := ⟨n, 2, none⟩) (by dsimp only; omega)).trans f2, hi, hlen, ?_⟩
  rcases hby with h0 | ⟨pb, po, h0, h1, h2⟩
  · exact Or.inl h0
  · refine Or.inr ⟨pb, po, h0, h1, fun j hj => ?_⟩
    obtain ⟨c, a1, a2, a3⟩ := h2 j hj
    exact ⟨c, a1, a2, cl (by omega) a3⟩
theorem Cur.alloc {n : Nat} {w : World} (h : Cur n w) (o : Obj) : Cur n (w.alloc o) := h.below ((Below.refl _ _).alloc h.lt o)
theorem Cur.set {n : Nat} {w : World} (h : Cur n w) {p : Addr} (hp : n < p.block) (u : Value) : Cur n (w.setCell p u) := h.below ((Below.refl _ _).setCell hp u)
theorem Cur.drew {n : Nat} {w : World} (h : Cur n w) : Cur n w.drew := h
set_option maxHeartbeats 1000000 in
theorem l1ValOf_any (n : Nat) (k : Int) (w : World) (hC : Cur n w) :
    Calls Try.prog 59 #[.pointer (some ⟨n, 0, none⟩), .int .i64 k] w fun e w' => ∃ (r : Int) (x y : Nat), e = .returned (.tuple #[.int .i64 r, .float .f64 x, .float .f64 y]) ∧ (-9223372036854775808 ≤ r ∧ r ≤ 9223372036854775807) ∧ x < 18446744073709551616 ∧ y < 18446744073709551616 ∧ Keep n w w' ∧ Cur n w' := by
  by_cases h1 : k = 1
  · subst h1
    go_enter Try.func59, Try.ntmps59
    go_wp2_with (go_at_call 61; refine (l1Whole_any n _ hC).mono ?_; rintro e w1 ⟨r, rfl, hr, hK, hC1⟩)
    go_ret3
    exact ⟨_, _, _, rfl, hr, by decide, by decide, hK, hC1⟩
  by_cases h2 : k = 2
  · subst h2
    go_enter Try.func59, Try.ntmps59
    go_wp2_with (go_at_call 62; refine (l1Float_any n _ hC).mono ?_; rintro e w1 ⟨x, rfl, lx, hK, hC1⟩)
    go_ret3
    exact ⟨_, _, _, rfl, by omega, lx, by decide, hK, hC1⟩
  by_cases h3 : k = 3
  · subst h3
    go_enter Try.func59, Try.ntmps59
    go_wp2_with fail
    refine (l1Float_any n _ hC).mono ?_
    rintro e w1 ⟨x, rfl, lx, hK, hC1⟩
    go_wp2_with fail
    refine (l1Float_any n _ hC1).mono ?_
    rintro e w2 ⟨y, rfl, ly, hK2, hC2⟩
    go_wp2_with fail
    go_ret3
    exact ⟨_, _, _, rfl, by omega, lx, ly, hK.trans hK2, hC2⟩
  have g1 : (k == 1) = false := beq_eq_false_iff_ne.2 h1
  have g2 : (k == 2) = false := beq_eq_false_iff_ne.2 h2
  have g3 : (k == 3) = false := beq_eq_false_iff_ne.2 h3
  go_enter Try.func59, Try.ntmps59
  go_wp2_with (go_at_call 27; refine (l1Below_any n _ _ hC (by omega)).mono ?_; rintro e w1 ⟨r, rfl, r1, r2, hK, hC1⟩)
  go_ret3
  exact ⟨_, _, _, rfl, by omega, by decide, by decide, hK, hC1⟩
set_option maxHeartbeats 1000000 in
theorem l1Val_any (n : Nat) (k : Int) (w : World) (hC : Cur n w) :
    Calls Try.prog 47 #[.pointer (some ⟨n, 0, none⟩), .int .i64 k] w fun e w' => ∃ (i : Int) (x y : Nat), e = .returned (.agg #[.int .i64 k, .int .i64 i, .float .f64 x, .float .f64 y]) ∧ (-9223372036854775808 ≤ i ∧ i ≤ 9223372036854775807) ∧ x < 18446744073709551616 ∧ y < 18446744073709551616 ∧ Keep n w w' ∧ Cur n w' := by
  have hl := hC.lt
  have hne : ¬ w.heap.size = n := by omega
  go_enter Try.func47, Try.ntmps47
  go_wp2_with fail
  refine (l1ValOf_any n k _ (hC.alloc _)).mono ?_
  rintro e w1 ⟨i, x, y, rfl, hi, lx, ly, hK, hC1⟩
  obtain ⟨hc, hf⟩ := kcellK hK
  go_wp2_with fail
  refine bodyPost_ret (v := .agg #[.int .i64 k, .int .i64 i, .float .f64 x, .float .f64 y]) (by simp [results, Try.results47, go_sem, hc, hne]) rfl ⟨i, x, y, rfl, hi, lx, ly, ?_, ?_⟩
  · exact (((((((Keep.refl n w).alloc (by omega) _).trans hK).setNew (Nat.le_refl _) (by dsimp only; omega) _).setNew (Nat.le_refl _) (by dsimp only; omega) _).setNew (Nat.le_refl _) (by dsimp only; omega) _).setNew (Nat.le_refl _) (by dsimp only; omega) _)
  · exact (((hC1.set (by dsimp only; omega) _).set (by dsimp only; omega) _).set (by dsimp only; omega) _).set (by dsimp only; omega) _
/-- a box with noughts. -/
def Zb (m : Nat) (W : World) : Prop := W.cell? ⟨m, 0, none⟩ = some (.int .i64 0) ∧ W.cell? ⟨m, 1, none⟩ = some (.int .i64 0) ∧ W.cell? ⟨m, 2, none⟩ = some (.float .f64 0) ∧ W.cell? ⟨m, 3, none⟩ = some (.float .f64 0)
theorem Zb.new (w : World) (t : TypeId) : Zb w.heap.size (w.alloc (.cells #[.int .i64 0, .int .i64 0, .float .f64 0, .float .f64 0] t)) := by
  refine ⟨?_, ?_, ?_, ?_⟩ <;> simp
theorem Zb.keep {m n : Nat} {W w1 : World} (h : Zb m W) (hK : Keep n W w1) (hm : ¬ m = n) : Zb m w1 := ⟨hK.cell hm h.1, hK.cell hm h.2.1, hK.cell hm h.2.2.1, hK.cell hm h.2.2.2⟩
theorem Zb.alloc {m : Nat} {W : World} (h : Zb m W) (o : Obj) : Zb m (W.alloc o) :=
  ⟨cell_later (bl_alloc (Below.refl _ W) o) h.1, cell_later (bl_alloc (Below.refl _ W) o) h.2.1, cell_later (bl_alloc (Below.refl _ W) o) h.2.2.1, cell_later (bl_alloc (Below.refl _ W) o) h.2.2.2⟩
set_option maxHeartbeats 2000000 in
theorem l1Any_any (n : Nat) (w : World) (hC : Cur n w) :
    Calls Try.prog 46 #[.pointer (some ⟨n, 0, none⟩)] w fun e w' => ∃ (k i : Int) (x y : Nat), e = .returned (.agg #[.int .i64 k, .int .i64 i, .float .f64 x, .float .f64 y]) ∧ (-9223372036854775808 ≤ k ∧ k ≤ 9223372036854775807) ∧ (-9223372036854775808 ≤ i ∧ i ≤ 9223372036854775807) ∧ x < 18446744073709551616 ∧ y < 18446744073709551616 ∧ Keep n w w' ∧ Cur n w' := by
  have hl := hC.lt
  have hne : ¬ w.heap.size = n := by omega
  have hm := fun t x y w => run_float_any (P := Try.prog) .mul rfl t x y w
  have hn := run_neg
  go_enter Try.func46, Try.ntmps46
  go_wp2_with fail
  refine (l1Below_any n _ _ (hC.alloc _) (by omega)).mono ?_
  rintro e w1 ⟨r, rfl, r1, r2, hK1, hC1⟩
  obtain ⟨hc1, hf1⟩ := kcellK hK1
  have z1 : w.heap.size < w1.heap.size := by have := hK1.1.size; simp at this; omega
  go_wp2_with fail
  refine (l1Val_any n _ _ hC1).mono ?_
  rintro e w2 ⟨i, x, y, rfl, hi, lx, ly, hK2, hC2⟩
  obtain ⟨hc2, hf2⟩ := kcellK hK2
  have z2 : w.heap.size < w2.heap.size := by have := hK2.1.size; omega
  have hl2 := hC2.lt
  have hne2 : ¬ w2.heap.size = n := by omega
  go_wp2_with fail
  refine (l1Once_any n _ _ (hC2.alloc _) (by omega)).mono ?_
  rintro e w3 ⟨b, rfl, hK3, hC3⟩
  obtain ⟨hc3, hf3⟩ := kcellK hK3
  have z3 : w.heap.size < w3.heap.size := by have := hK3.1.size; simp at this; omega
  have y3 : w2.heap.size < w3.heap.size := by have := hK3.1.size; simp at this; omega
  have Z3 := (((((Zb.new w 64).keep hK1 hne).keep hK2 hne).alloc _).keep hK3 hne)
  cases b
  · obtain ⟨q0, q1, q2, q3⟩ := Z3
    go_wp2_with fail
    refine bodyPost_ret (v := .agg #[.int .i64 (1 + r), .int .i64 i, .float .f64 x, .float .f64 y]) (by simp [results, Try.results46, go_sem, q0, q1, q2, q3]) rfl ⟨1 + r, i, x, y, rfl, by omega, hi, lx, ly, ?_, ?_⟩
    · exact (((((((((Keep.refl n w).alloc (by omega) _).trans hK1).trans hK2).alloc (by omega) _).trans hK3).setNew (Nat.le_refl _) (by dsimp only; omega) _).setNew (Nat.le_refl _) (by dsimp only; omega) _).setNew (Nat.le_refl _) (by dsimp only; omega) _).setNew (Nat.le_refl _) (by dsimp only; omega) _
    · exact (((hC3.set (by dsimp only; omega) _).set (by dsimp only; omega) _).set (by dsimp only; omega) _).set (by dsimp only; omega) _
  · go_wp2_with fail
    refine (l1Below_any n _ _ hC3 (by omega)).mono ?_
    rintro e w4 ⟨s, rfl, s1, s2, hK4, hC4⟩
    obtain ⟨hc4, hf4⟩ := kcellK hK4
    have z4 : w.heap.size < w4.heap.size := by have := hK4.1.size; omega
    have y4 : w2.heap.size < w4.heap.size := by have := hK4.1.size; omega
    have Z4 := Z3.keep hK4 hne
    go_wp2_with (go_at_call 27; refine (l1Below_any n _ _ hC4 (by omega)).mono ?_; rintro e w5 ⟨u, rfl, u1, u2, hK5, hC5⟩; obtain ⟨hc5, hf5⟩ := kcellK hK5)
    · obtain ⟨q0, q1, q2, q3⟩ := Z4.keep hK5 hne
      refine bodyPost_ret (v := .agg #[.int .i64 (u - 2), .int .i64 i, .float .f64 x, .float .f64 y]) (by simp [results, Try.results46, go_sem, q0, q1, q2, q3]) rfl ⟨u - 2, i, x, y, rfl, by omega, hi, lx, ly, ?_, ?_⟩
      · exact ((((((((((((Keep.refl n w).alloc (by omega) _).trans hK1).trans hK2).alloc (by omega) _).trans hK3).trans hK4).trans hK5).setNew (by dsimp only; omega) (by dsimp only; omega) _).setNew (Nat.le_refl _) (by dsimp only; omega) _).setNew (Nat.le_refl _) (by dsimp only; omega) _).setNew (Nat.le_refl _) (by dsimp only; omega) _).setNew (Nat.le_refl _) (by dsimp only; omega) _
      · exact ((((hC5.set (by dsimp only; omega) _).set (by dsimp only; omega) _).set (by dsimp only; omega) _).set (by dsimp only; omega) _).set (by dsimp only; omega) _
    · obtain ⟨q0, q1, q2, q3⟩ := Z4.keep hK5 hne
      refine bodyPost_ret (v := .agg #[.int .i64 (1 + r), .int .i64 (u - 1), .float .f64 x, .float .f64 y]) (by simp [results, Try.results46, go_sem, q0, q1, q2, q3]) rfl ⟨1 + r, u - 1, x, y, rfl, by omega, by omega, lx, ly, ?_, ?_⟩
      · exact ((((((((((((Keep.refl n w).alloc (by omega) _).trans hK1).trans hK2).alloc (by omega) _).trans hK3).trans hK4).trans hK5).setNew (by dsimp only; omega) (by dsimp only; omega) _).setNew (Nat.le_refl _) (by dsimp only; omega) _).setNew (Nat.le_refl _) (by dsimp only; omega) _).setNew (Nat.le_refl _) (by dsimp only; omega) _).setNew (Nat.le_refl _) (by dsimp only; omega) _
      · exact ((((hC5.set (by dsimp only; omega) _).set (by dsimp only; omega) _).set (by dsimp only; omega) _).set (by dsimp only; omega) _).set (by dsimp only; omega) _
    · obtain ⟨q0, q1, q2, q3⟩ := Z4.keep hK5 hne
      refine bodyPost_ret (v := .agg #[.int .i64 (1 + r), .int .i64 i, .float .f64 x, .float .f64 (negF (fres .mul 4602678819172646912 (floatOfInt .f64 u) w5))]) (by simp [results, Try.results46, go_sem, q0, q1, q2, q3]) rfl ⟨1 + r, i, x, _, rfl, by omega, hi, lx, negF_lt (fres_lt _ _ _ _), ?_, ?_⟩
      · exact (((((((((((((Keep.refl n w).alloc (by omega) _).trans hK1).trans hK2).alloc (by omega) _).trans hK3).trans hK4).trans hK5).drewN _).setNew (by dsimp only; omega) (by dsimp only; omega) _).setNew (Nat.le_refl _) (by dsimp only; omega) _).setNew (Nat.le_refl _) (by dsimp only; omega) _).setNew (Nat.le_refl _) (by dsimp only; omega) _).setNew (Nat.le_refl _) (by dsimp only; omega) _
      · exact (((((hC5.drewN _).set (by dsimp only; omega) _).set (by dsimp only; omega) _).set (by dsimp only; omega) _).set (by dsimp only; omega) _).set (by dsimp only; omega) _
    · obtain ⟨q0, q1, q2, q3⟩ := Z4
      refine bodyPost_ret (v := .agg #[.int .i64 (1 + r), .int .i64 i, .float .f64 4607182418800017408, .float .f64 y]) (by simp [results, Try.results46, go_sem, q0, q1, q2, q3]) rfl ⟨1 + r, i, _, y, rfl, by omega, hi, by decide, ly, ?_, ?_⟩
      · exact (((((((((((Keep.refl n w).alloc (by omega) _).trans hK1).trans hK2).alloc (by omega) _).trans hK3).trans hK4).setNew (by dsimp only; omega) (by dsimp only; omega) _).setNew (Nat.le_refl _) (by dsimp only; omega) _).setNew (Nat.le_refl _) (by dsimp only; omega) _).setNew (Nat.le_refl _) (by dsimp only; omega) _).setNew (Nat.le_refl _) (by dsimp only; omega) _
      · exact ((((hC4.set (by dsimp only; omega) _).set (by dsimp only; omega) _).set (by dsimp only; omega) _).set (by dsimp only; omega) _).set (by dsimp only; omega) _
theorem i64_and30 (n : Int) : bits .and .i64 n 1073741823 = n % 1073741824 := by
  have h : (BitVec.ofInt 64 1073741823).toNat = 2 ^ 30 - 1 := by decide
  have key : (BitVec.ofInt 64 n &&& BitVec.ofInt 64 1073741823).toNat = (n % ((2 ^ 64 : Nat) : Int)).toNat % 2 ^ 30 := by
    rw [BitVec.toNat_and, BitVec.toNat_ofInt, h, Nat.and_two_pow_sub_one_eq_mod]
  show IntKind.i64.wrap ((BitVec.ofInt 64 n &&& BitVec.ofInt 64 1073741823).toNat : Nat) = n % 1073741824
  rw [key, IntKind.wrap_i64]
  omega
theorem cur_new (w : World) (sl : Option Addr) (len cap : Nat) (H : Int) (t : TypeId) (hl : len ≤ 1048576) (hC : Code w sl len) : Cur w.heap.size (w.alloc (.cells #[.slice sl len cap, .int .i64 0, .int .i64 H] t)) := by
  refine ⟨sl, len, cap, 0, H, by simp, by simp, by simp, by simp, by simp, by omega, by omega, ?_⟩
  rcases hC with h0 | ⟨pb, po, h0, h1, h2⟩
  · exact Or.inl h0
  · refine Or.inr ⟨pb, po, h0, h1, fun j hj => ?_⟩
    obtain ⟨c, a1, a2, a3⟩ := h2 j hj
    exact ⟨c, a1, a2, cell_later (bl_alloc (Below.refl _ w) _) a3⟩
set_option maxRecDepth 100000 in
set_option maxHeartbeats 2000000 in
theorem l1New_any (sl : Option Addr) (len cap : Nat) (w : World) (hl : len ≤ 1048576) (hC : Code w sl len) :
    Calls Try.prog 25 #[.slice sl len cap] w fun e w' => ∃ n, e = .returned (.pointer (some ⟨n, 0, none⟩)) ∧ w.heap.size ≤ n ∧ Below w.heap.size w w' ∧ Cur n w' := by
  go_enter Try.func25, Try.ntmps25
  go_wp2
  go_loop [3, 4] (fun h i => ∃ (k : Nat) (H : Int), 0 ≤ H ∧ H ≤ 1073741823 ∧ k ≤ len ∧ i = .int .i64 k ∧ h = .int .i64 H) (fun _ i => len - (intOf i).toNat)
  case atStart => exact ⟨0, 70070 + (len : Int), by omega, by omega, Nat.zero_le _, rfl, rfl⟩
  case round =>
    obtain ⟨k, H, h1, h2, hk, rfl, rfl⟩ := hrel
    by_cases hlt : k < len
    · obtain ⟨pb, po, rfl, hp, hby⟩ : ∃ pb po, sl = some ⟨pb, po, none⟩ ∧ pb < w.heap.size ∧ ∀ j, j < len → ∃ c : Int, 0 ≤ c ∧ c ≤ 255 ∧ w.cell? ⟨pb, po + j, none⟩ = some (.int .u8 c) := by
        rcases hC with h0 | h0
        · omega
        · exact h0
      obtain ⟨c, c1, c2, hc⟩ := hby k hlt
      have hH : Hid (∀ j, j < len → ∃ c : Int, 0 ≤ c ∧ c ≤ 255 ∧ w.cell? ⟨pb, po + j, none⟩ = some (.int .u8 c)) := hby
      clear hby hC
      by_cases h4 : k < 4000
      · go_wp2
        refine ⟨⟨k + 1, _, ?_, ?_, by omega, by go_num, rfl⟩, ?_⟩
        · rw [i64_and30]; omega
        · rw [i64_and30]; omega
        · simp [intOf]; omega
      · go_wp2
        go_ret
        exact ⟨_, rfl, Nat.le_refl _, bl_alloc (Below.refl _ _) _, cur_new w _ len cap H _ hl (Or.inr ⟨pb, po, rfl, hp, hH.out⟩)⟩
    · go_wp2
      go_ret
      exact ⟨_, rfl, Nat.le_refl _, bl_alloc (Below.refl _ _) _, cur_new w sl len cap H _ hl hC⟩
/-- a slice of whole numbers, as it can be read. -/
def Ints (w : World) (sl : Option Addr) (G : List Int) : Prop :=
  G = [] ∨ ∃ pb po, sl = some ⟨pb, po, none⟩ ∧ pb < w.heap.size ∧ ∀ j, j < G.length → w.cell? ⟨pb, po + j, none⟩ = some (.int .i64 (G.getD j 0))
theorem Ints.later {w w' : World} {sl : Option Addr} {G : List Int} (h : Ints w sl G) (hb : Below w.heap.size w w') : Ints w' sl G := by
  rcases h with h0 | ⟨pb, po, h0, h1, h2⟩
  · exact Or.inl h0
  · exact Or.inr ⟨pb, po, h0, Nat.lt_of_lt_of_le h1 hb.size, fun j hj => (hb.cell (p := ⟨pb, po + j, none⟩) h1).trans (h2 j hj)⟩
set_option maxHeartbeats 2000000 in
theorem l1PickInt_any (n : Nat) (pb po c : Nat) (L : List Int) (w : World) (hC : Cur n w) (hL : Ints w (some ⟨pb, po, none⟩) L) (h0 : 0 < L.length) (hl : L.length ≤ 1048576) (hp : ¬ pb = n) :
    Calls Try.prog 29 #[.pointer (some ⟨n, 0, none⟩), .slice (some ⟨pb, po, none⟩) L.length c] w fun e w' => ∃ r : Int, e = .returned (.int .i64 r) ∧ r ∈ L ∧ Keep n w w' ∧ Cur n w' := by
  have hcell : ∀ j, j < L.length → w.cell? ⟨pb, po + j, none⟩ = some (.int .i64 (L[j]?.getD 0)) := by
    rcases hL with h | ⟨pb', po', h, _, hc⟩
    · rw [h] at h0; simp at h0
    · simp only [Option.some.injEq, Addr.mk.injEq, and_true] at h
      obtain ⟨rfl, rfl⟩ := h
      exact hc
  go_enter Try.func29, Try.ntmps29
  go_wp2_with (go_at_call 27; refine (l1Below_any n (L.length : Int) _ hC (by omega)).mono ?_; rintro e w1 ⟨r, rfl, r1, r2, hK, hC1⟩; obtain ⟨q, rfl⟩ : ∃ q : Nat, r = (q : Int) := ⟨r.toNat, by omega⟩; have hq : q < L.length := (by omega); have hc1 := hK.cell hp (hcell q hq); have hqI : (q : Int) < (L.length : Int) := (by omega); clear hcell r2)
  go_ret
  exact ⟨_, rfl, by first | exact getD_mem hq | exact List.getElem_mem hq, hK, hC1⟩
end Go.Proofs.Ytpfamdpgcbpiaaa
