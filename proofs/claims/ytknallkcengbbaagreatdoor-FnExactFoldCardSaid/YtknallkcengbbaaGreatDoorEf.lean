import Derived.Test.YtknallkcengbbaaGreatDoorEg
namespace Go.Proofs.YtknallkcengbbaaGreatDoor
open Go.RowKit
set_option linter.unusedVariables false

theorem gensB_bad {G : List Int} {k : Nat} (hk : k < G.length) (h : ¬ (0 ≤ G[k]?.getD 0 ∧ G[k]?.getD 0 ≤ 1000000)) : gensB G = false := by
  simp only [gensB, decide_eq_false_iff_not]
  exact fun g => h (g _ (getD_mem hk))

theorem tmod64 (q : Nat) : (q : Int).tmod 64 = ((q % 64 : Nat) : Int) := by rw [Int.tmod_eq_emod_of_nonneg (by omega)]; omega
theorem tdiv64 (q : Nat) : (q : Int).tdiv 64 = ((q / 64 : Nat) : Int) := by rw [Int.tdiv_eq_ediv_of_nonneg (by omega)]; omega
theorem wrapu (n : Nat) (h : n < 18446744073709551616) : IntKind.u64.wrap (n : Int) = (n : Int) := by
  rw [IntKind.wrap_u64]; omega
theorem bitw {r : Nat} (h : r < 64) : IntKind.u64.wrap (2 ^ r) = (((1#64) <<< r).toNat : Int) := by
  have e : ((1#64) <<< r).toNat = 2 ^ r := by
    rw [BitVec.toNat_shiftLeft, Nat.shiftLeft_eq]
    simp
    exact Nat.pow_lt_pow_right (by omega) h
  rw [e]
  have : (2 : Nat) ^ r < 18446744073709551616 := Nat.pow_lt_pow_right (n := 64) (by omega) h
  have g := wrapu (2 ^ r) this
  simpa using g
theorem ofn (a : BitVec 64) : BitVec.ofInt 64 (a.toNat : Int) = a := by simp
theorem andw (a b : BitVec 64) : bits .and .u64 (a.toNat : Int) (b.toNat : Int) = ((a &&& b).toNat : Int) := by
  show IntKind.u64.wrap ((BitVec.ofInt 64 (a.toNat : Int) &&& BitVec.ofInt 64 (b.toNat : Int)).toNat : Nat) = _
  rw [ofn, ofn]
  exact wrapu _ (a &&& b).isLt
theorem orw (a b : BitVec 64) : bits .or .u64 (a.toNat : Int) (b.toNat : Int) = ((a ||| b).toNat : Int) := by
  show IntKind.u64.wrap ((BitVec.ofInt 64 (a.toNat : Int) ||| BitVec.ofInt 64 (b.toNat : Int)).toNat : Nat) = _
  rw [ofn, ofn]
  exact wrapu _ (a ||| b).isLt

theorem nats_succ {F : List Int} {m q : Nat} (hlt : m < F.length) (h : F[m]?.getD 0 = (q : Int)) : (F.take (m + 1)).map Int.toNat = (F.take m).map Int.toNat ++ [q] := by
  rw [take_succ' F m hlt, List.map_append, h]; simp

end Go.Proofs.YtknallkcengbbaaGreatDoor
