import Derived.Test.YtpgcianhppihiaaDoorG62
namespace Go.Proofs.YtpgcianhppihiaaDoor
open Go.RowKit
set_option linter.unusedVariables false
set_option linter.unusedSimpArgs false

theorem ints_eleven {w : World} {pb : Nat} {a b c d e f g h i j k : Int} (hB : Blk w pb #[.int .i64 a, .int .i64 b, .int .i64 c, .int .i64 d, .int .i64 e, .int .i64 f, .int .i64 g, .int .i64 h, .int .i64 i, .int .i64 j, .int .i64 k] 3) : Ints w (some ⟨pb, 0, none⟩) [a, b, c, d, e, f, g, h, i, j, k] := by
  right
  refine ⟨pb, 0, rfl, hB.lt, fun q hq => ?_⟩
  match q, hq with
  | 0, _ => exact hB.cell 0
  | 1, _ => exact hB.cell 1
  | 2, _ => exact hB.cell 2
  | 3, _ => exact hB.cell 3
  | 4, _ => exact hB.cell 4
  | 5, _ => exact hB.cell 5
  | 6, _ => exact hB.cell 6
  | 7, _ => exact hB.cell 7
  | 8, _ => exact hB.cell 8
  | 9, _ => exact hB.cell 9
  | 10, _ => exact hB.cell 10

set_option maxHeartbeats 4000000 in
theorem drawLinear_any (sl : Option Addr) (len cap : Nat) (w : World) (hl : len ≤ 1048576) (hC : Code w sl len) :
    Calls Tryd.prog 23 #[.slice sl len cap] w fun e w' => ∃ (x : Int) (s : Option Addr) (c : Nat) (L : List (Int × Int)) (k : Int), e = .returned (.tuple #[.int .i64 x, .slice s L.length c, .int .i64 k]) ∧ (-1 ≤ x ∧ x ≤ 17) ∧ L.length ≤ 300 ∧ ERow w' w.heap.size (.slice s L.length c) L ∧ Below w.heap.size w w' := by
  go_enter Tryd.func23, Tryd.ntmps23
  go_wp2_with fail
  refine (l1New_any sl len cap _ hl hC).mono ?_
  rintro e w1 ⟨n, rfl, hn, hb, hc⟩
  go_wp2_with fail
  refine (l14Some_any n 6 _ hc (by omega)).mono ?_
  rintro e w3 ⟨x, v, L, rfl, hx, hL, hD⟩
  obtain ⟨s, c, rfl⟩ := hD.slice
  have hn3 := hD.cu.lt
  have kb := Blk.new w3 #[.int .i64 (-1), .int .i64 0, .int .i64 1, .int .i64 2, .int .i64 3, .int .i64 5, .int .i64 9, .int .i64 23, .int .i64 100, .int .i64 719, .int .i64 720] 3
  have HD : Hid (Dge n w1 (w3.alloc (.cells #[.int .i64 (-1), .int .i64 0, .int .i64 1, .int .i64 2, .int .i64 3, .int .i64 5, .int .i64 9, .int .i64 23, .int .i64 100, .int .i64 719, .int .i64 720] 3)) (.slice s L.length c) L) := hD.alloc _
  clear hD
  go_wp2_with fail
  refine (l1PickInt_any n w3.heap.size 0 11 [-1, 0, 1, 2, 3, 5, 9, 23, 100, 719, 720] _ HD.out.cu (ints_eleven kb) (by simp) (by simp) (by omega)).mono ?_
  rintro e w5 ⟨g, rfl, hg, hk5, hc5⟩
  have HD : Hid (Dge n w1 w5 (.slice s L.length c) L) := HD.out.call hk5 hc5
  have hb3 : Below w.heap.size w w5 := HD.out.kp.below hb hn
  have ho : ERow w5 w.heap.size (.slice s L.length c) L := HD.out.o.mono hb.size
  clear hk5 hc5 kb hg HD
  go_wp2_with fail
  exact bodyPost_ret (v := .tuple #[.int .i64 x, .slice s L.length c, .int .i64 g]) (by simp [results, Tryd.results23]) rfl ⟨x, s, c, L, g, rfl, hx, hL, ho, hb3⟩

set_option maxHeartbeats 2000000 in
theorem sameEdges_same (s t : Option Addr) (c d : Nat) (A : List (Int × Int)) (w : World) (hA : Eds w s A) (hB : Eds w t A) (hl : A.length ≤ 1048576) :
    Calls Tryd.prog 22 #[.slice s A.length c, .slice t A.length d] w fun e w' => e = .returned (.bool true) ∧ Below w.heap.size w w' := by
  have hnn : ((A.length : Int) != (A.length : Int)) = false := by simp
  go_enter Tryd.func22, Tryd.ntmps22
  go_wp2_with fail
  go_loopw [5] (fun i wr => ∃ k : Nat, k ≤ A.length ∧ i = .int .i64 k ∧ Below w.heap.size w wr) (fun i _ => A.length - (intOf i).toNat)
  case atStart => exact ⟨0, Nat.zero_le _, rfl, Below.refl _ _⟩
  case round =>
    obtain ⟨k, hk, rfl, hbel⟩ := hrel
    by_cases hlt : k < A.length
    · obtain ⟨pb, po, rfl, hp, e1, e2⟩ := hA.get hlt
      obtain ⟨qb, qo, rfl, hq, f1, f2⟩ := hB.get hlt
      obtain ⟨⟨x, y⟩, hx⟩ : ∃ x, Hid (A[k]?.getD (0, 0) = x) := ⟨_, rfl⟩
      rw [hx.out] at e1 e2 f1 f2
      have e1 := (hbel.cell (p := ⟨pb, po + k * 2, none⟩) hp).trans e1
      have e2 := (hbel.cell (p := ⟨pb, po + k * 2 + 1, none⟩) hp).trans e2
      have f1 := (hbel.cell (p := ⟨qb, qo + k * 2, none⟩) hq).trans f1
      have f2 := (hbel.cell (p := ⟨qb, qo + k * 2 + 1, none⟩) hq).trans f2
      have hkI : (k : Int) < (A.length : Int) := by omega
      have hxx : (x != x) = false := by simp
      have hyy : (y != y) = false := by simp
      go_wp2_with fail
      go_quiet (fail)
      go_wp2_with fail
      go_roundw
      case rel =>
        refine ⟨k + 1, by omega, by go_num, ?_⟩
        (repeat (first | with_reducible exact Below.refl _ _ | with_reducible refine bl_alloc ?_ _ | with_reducible refine bl_drewN ?_ _ | with_reducible refine bl_drew ?_ | with_reducible refine bl_setCell ?_ (by first | exact Nat.le_refl _ | (dsimp only; omega) | (simp <;> omega)) _ | with_reducible refine bl_trans ?_ (by with_reducible assumption)))
      case measure => simp [intOf]; omega
    · go_wp2_with fail
      go_ret
      exact ⟨rfl, hbel⟩
end Go.Proofs.YtpgcianhppihiaaDoor
