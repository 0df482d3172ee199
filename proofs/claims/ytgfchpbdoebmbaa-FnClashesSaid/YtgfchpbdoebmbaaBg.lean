import Derived.Test.YtgfchpbdoebmbaaBb
import Derived.Test.YtgfchpbdoebmbaaDa
import Derived.Deep.RegionHeld3
namespace Go.Proofs.Ytgfchpbdoebmbaa
open Go.RowKit
set_option linter.unusedVariables false
set_option linter.unusedSimpArgs false

theorem OI.keep {n : Nat} {w w' : World} {B : Nat} {v : Value} {L : List Int} (h : OI w B v L) (hK : Keep n w w') (hn : n < B) : OI w' B v L :=
  h.same (fun g hg => hK.heap (by have := (h.lt g hg).1; omega) (h.lt g hg).2)
theorem keep_oi {n : Nat} {W X Y : World} {s : Option Addr} {L : List Int} {c : Nat} (hK : Keep n W X) (hn : n < W.heap.size) (hv : OI X W.heap.size (.slice s L.length c) L) (hg : X.grownBy Y (Value.slice s L.length c).ownBlock) : Keep n W Y := by
  refine ⟨hK.1.grown hg (by have := hK.1.size; omega) (fun q hq => by have := (hv.lt q hq).1; omega), fun k h1 h2 => ?_⟩
  rw [hg.block k (by have := hK.1.size; omega) (fun q => by have := (hv.lt k q.symm).1; omega)]
  exact hK.2 k h1 h2
theorem cur_oi {n : Nat} {W X Y : World} {s : Option Addr} {L : List Int} {c : Nat} (hC : Cur n X) (hK : Keep n W X) (hn : n < W.heap.size) (hv : OI X W.heap.size (.slice s L.length c) L) (hg : X.grownBy Y (Value.slice s L.length c).ownBlock) : Cur n Y :=
  hC.below ((Below.refl _ _).grown hg (by have := hK.1.size; omega) (fun q hq => by have := (hv.lt q hq).1; omega))

set_option maxRecDepth 100000 in
set_option maxHeartbeats 4000000 in
theorem l10List_any (n k : Nat) (w : World) (hC : Cur n w) (hk : k ≤ 5) :
    Calls Try.prog 48 #[.pointer (some ⟨n, 0, none⟩), .int .i64 k] w fun e w' => ∃ s c R, e = .returned (.slice s (List.length (α := Int) R) c) ∧ OI w' w.heap.size (.slice s R.length c) R ∧ R.length ≤ 6 ∧ Keep n w w' ∧ Cur n w' := by
  have hn := hC.lt
  have O0 : Hid (OI (w.alloc (.cells #[] 3)) w.heap.size (.slice (some ⟨w.heap.size, 0, none⟩) 0 0) []) := OI.empty (Blk.new w #[] 3)
  have K0 : Hid (Keep n w (w.alloc (.cells #[] 3))) := (Keep.refl n w).alloc (by omega) _
  have C0 : Hid (Cur n (w.alloc (.cells #[] 3))) := hC.alloc _
  clear hC
  go_enter Try.func48, Try.ntmps48
  go_wp2_with fail
  go_loopw [5, 6] (fun v i wr => ∃ (j : Nat) (s9 : Option Addr) (c9 : Nat) (R : List Int), j ≤ k ∧ i = .int .i64 j ∧ v = .slice s9 R.length c9 ∧ R.length ≤ j ∧ Hid (OI wr w.heap.size (.slice s9 R.length c9) R) ∧ Hid (Keep n w wr) ∧ Hid (Cur n wr)) (fun _ i _ => k - (intOf i).toNat)
  case atStart => exact ⟨0, _, 0, [], by omega, rfl, rfl, by simp, O0, K0, C0⟩
  case round =>
    clear O0 K0 C0
    obtain ⟨j, s9, c9, R, hj, rfl, rfl, hl, hO, hK, hC⟩ := hrel
    by_cases hlt : j < k
    · have d0 : decide ((j : Int) < (k : Int)) = true := by simp; omega
      go_wp2_with fail
      refine (l1Once_any n 3 _ hC.out (by omega)).mono ?_
      rintro e w1 ⟨b, rfl, k1, u1⟩
      have hK1 : Hid (Keep n w w1) := hK.out.trans k1
      have hO1 : Hid (OI w1 w.heap.size (.slice s9 R.length c9) R) := hO.out.keep k1 hn
      have hC1 : Hid (Cur n w1) := u1
      clear hK hO hC k1 u1
      cases b
      · go_wp2_with fail
        go_roundw
        case rel => exact ⟨j + 1, s9, c9, R, by omega, by go_num, rfl, by omega, hO1, hK1, hC1⟩
        case measure => simp [intOf]; omega
      · obtain ⟨R2, hR2⟩ : ∃ R2, Hid (R ++ [(j : Int)] = R2) := ⟨_, (rfl : R ++ [(j : Int)] = _)⟩
        have hl2 : R2.length ≤ j + 1 := by rw [← hR2.out]; simp; omega
        have hO2 : Hid (OI (w1.alloc (.cells #[.int .i64 (j : Int)] 3)) w.heap.size (.slice s9 R.length c9) R) := hO1.out.later (bl_alloc (Below.refl _ _) _)
        have hK2 : Hid (Keep n w (w1.alloc (.cells #[.int .i64 (j : Int)] 3))) := hK1.out.alloc (by have := hK1.out.1.size; omega) _
        have hC2 : Hid (Cur n (w1.alloc (.cells #[.int .i64 (j : Int)] 3))) := hC1.out.alloc _
        have E5 : Hid (Els 1 cInt (w1.alloc (.cells #[.int .i64 (j : Int)] 3)) w1.heap.size (some ⟨w1.heap.size, 0, none⟩) [(j : Int)]) := Els.one (Blk.new w1 #[.int .i64 (j : Int)] 3)
        have hs2 : Hid (w.heap.size ≤ (w1.alloc (.cells #[.int .i64 (j : Int)] 3)).heap.size) := by have := hK1.out.1.size; have := hK2.out.1.size; show _ ≤ _; simp; omega
        clear hO1 hK1 hC1
        go_wp2_with (at_builtin; refine wpList_append_ints rfl _ _ rfl w.heap.size s9 c9 R rfl hO2.out w1.heap.size _ 1 [(j : Int)] rfl E5.out R2 hR2.out (by simp; omega) hs2.out ?_; intro s' c' w4 hO4 hg4 hn4; have hO4 : Hid (OI w4 w.heap.size (.slice s' R2.length c') R2) := hO4; have hK4 : Hid (Keep n w w4) := keep_oi hK2.out hn hO2.out hg4; have hC4 : Hid (Cur n w4) := cur_oi hC2.out hK2.out hn hO2.out hg4; clear hg4 hn4 hO2 E5 hK2 hC2)
        go_roundw
        case rel => exact ⟨j + 1, s', c', R2, by omega, by go_num, rfl, hl2, hO4, hK4, hC4⟩
        case measure => simp [intOf]; omega
    · have d0 : decide ((j : Int) < (k : Int)) = false := by simp; omega
      go_wp2_with fail
      refine (l1Once_any n 20 _ hC.out (by omega)).mono ?_
      rintro e w1 ⟨b, rfl, k1, u1⟩
      have hK1 : Hid (Keep n w w1) := hK.out.trans k1
      have hO1 : Hid (OI w1 w.heap.size (.slice s9 R.length c9) R) := hO.out.keep k1 hn
      have hC1 : Hid (Cur n w1) := u1
      clear hK hO hC k1 u1
      cases b
      · go_wp2_with fail
        go_ret
        exact ⟨s9, c9, R, rfl, hO1.out, by omega, hK1.out, hC1.out⟩
      · go_wp2_with fail
        refine (l1Below_any n 9 _ hC1.out (by omega)).mono ?_
        rintro e w2 ⟨r, rfl, r0, r1, k2, u2⟩
        have hw : IntKind.i64.wrap (r - 2) = r - 2 := by rw [IntKind.wrap_i64]; omega
        have hK1 : Hid (Keep n w w2) := hK1.out.trans k2
        have hO1 : Hid (OI w2 w.heap.size (.slice s9 R.length c9) R) := hO1.out.keep k2 hn
        have hC1 : Hid (Cur n w2) := u2
        clear k2 u2
        obtain ⟨R2, hR2⟩ : ∃ R2, Hid (R ++ [r - 2] = R2) := ⟨_, (rfl : R ++ [r - 2] = _)⟩
        have hl2 : R2.length ≤ 6 := by rw [← hR2.out]; simp; omega
        have hO2 : Hid (OI (w2.alloc (.cells #[.int .i64 (r - 2)] 3)) w.heap.size (.slice s9 R.length c9) R) := hO1.out.later (bl_alloc (Below.refl _ _) _)
        have hK2 : Hid (Keep n w (w2.alloc (.cells #[.int .i64 (r - 2)] 3))) := hK1.out.alloc (by have := hK1.out.1.size; omega) _
        have hC2 : Hid (Cur n (w2.alloc (.cells #[.int .i64 (r - 2)] 3))) := hC1.out.alloc _
        have E5 : Hid (Els 1 cInt (w2.alloc (.cells #[.int .i64 (r - 2)] 3)) w2.heap.size (some ⟨w2.heap.size, 0, none⟩) [r - 2]) := Els.one (Blk.new w2 #[.int .i64 (r - 2)] 3)
        have hs2 : Hid (w.heap.size ≤ (w2.alloc (.cells #[.int .i64 (r - 2)] 3)).heap.size) := by have := hK1.out.1.size; have := hK2.out.1.size; show _ ≤ _; simp; omega
        clear hO1 hK1 hC1
        go_wp2_with (at_builtin; refine wpList_append_ints rfl _ _ rfl w.heap.size s9 c9 R rfl hO2.out w2.heap.size _ 1 [r - 2] rfl E5.out R2 hR2.out (by simp; omega) hs2.out ?_; intro s' c' w4 hO4 hg4 hn4; have hO4 : Hid (OI w4 w.heap.size (.slice s' R2.length c') R2) := hO4; have hK4 : Hid (Keep n w w4) := keep_oi hK2.out hn hO2.out hg4; have hC4 : Hid (Cur n w4) := cur_oi hC2.out hK2.out hn hO2.out hg4; clear hg4 hn4 hO2 E5 hK2 hC2)
        go_ret
        exact ⟨s', c', R2, rfl, hO4.out, hl2, hK4.out, hC4.out⟩
end Go.Proofs.Ytgfchpbdoebmbaa
