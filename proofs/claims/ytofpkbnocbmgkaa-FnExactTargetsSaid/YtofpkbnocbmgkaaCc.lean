import Derived.Test.YtofpkbnocbmgkaaCb
import Derived.Test.YtofpkbnocbmgkaaTf
namespace Go.Proofs.Ytofpkbnocbmgkaa
open Go.RowKit
set_option linter.unusedVariables false
set_option linter.unusedSimpArgs false

set_option maxHeartbeats 4000000 in
theorem eqCell_self (p0 p1 p2 : Int) (p3 p4 : Nat) (w : World) (lx : p3 < 18446744073709551616) (ly : p4 < 18446744073709551616) :
    Calls Try.prog 127 #[.agg #[.int .i64 p0, .int .i64 p1, .int .i64 p2, .float .f64 p3, .float .f64 p4], .agg #[.int .i64 p0, .int .i64 p1, .int .i64 p2, .float .f64 p3, .float .f64 p4]] w fun e w' => e = .returned (.bool true) ∧ Below w.heap.size w w' := by
  have hal := alloc_old
  have haf := alloc_oldf
  have HX : Hid (p3 < 18446744073709551616) := lx
  have HY : Hid (p4 < 18446744073709551616) := ly
  clear lx ly
  have q0 : (p0 != p0) = false := by simp
  go_enter Try.func127, Try.ntmps127
  go_wp2_with fail
  refine (eqVal_any p1 p2 p3 p4 p1 p2 p3 p4 _ HX.out HY.out HX.out HY.out).mono ?_
  rintro e w2 ⟨rfl, hb2⟩
  rw [eqB_self]
  have L2 : Below w.heap.size w w2 := by (repeat (first | with_reducible exact Below.refl _ _ | with_reducible refine bl_alloc ?_ _ | with_reducible refine bl_drewN ?_ _ | with_reducible refine bl_drew ?_ | with_reducible refine bl_setCell ?_ (by first | exact Nat.le_refl _ | (dsimp only; omega) | (simp <;> omega)) _ | with_reducible refine bl_trans ?_ (by with_reducible assumption)))
  go_wp2_with fail
  go_ret
  exact ⟨rfl, L2⟩

set_option maxHeartbeats 4000000 in
theorem eqCellS_gen (s t : Option Addr) (c d : Nat) (L : List C5) (B C : Nat) (w : World) (hs : Els 5 cCell w B s L) (ht : Els 5 cCell w C t L) (hl : L.length ≤ 1048576) :
    Calls Try.prog 96 #[.slice s L.length c, .slice t L.length d] w fun e w' => e = .returned (.bool true) ∧ Below w.heap.size w w' := by
  have hal := alloc_old
  have haf := alloc_oldf
  go_enter Try.func96, Try.ntmps96
  go_wp2_with fail
  go_loopw [5] (fun i wr => ∃ k : Nat, k ≤ L.length ∧ i = .int .i64 k ∧ Below w.heap.size w wr) (fun i _ => L.length - (intOf i).toNat)
  case atStart => exact ⟨0, Nat.zero_le _, rfl, Below.refl _ _⟩
  case round =>
    obtain ⟨k, hk, rfl, hb⟩ := hrel
    by_cases hlt : k < L.length
    · obtain ⟨a, ha⟩ := get_some hlt
      obtain ⟨b, o, rfl, _, hp, hok, e0, e1, e2, e3, e4⟩ := eCell_cells (hs.later cCell_keeps hb) ha
      obtain ⟨b', o', rfl, _, hp', _, f0, f1, f2, f3, f4⟩ := eCell_cells (ht.later cCell_keeps hb) ha
      obtain ⟨p0, p1, p2, p3, p4⟩ := a
      have HX : Hid (p3 < 18446744073709551616) := hok.2.1
      have HY : Hid (p4 < 18446744073709551616) := hok.2.2
      clear hs ht ha hok
      go_wp2_with fail
      go_region_with (first
        | (go_at_call 127; refine (eqCell_self p0 p1 p2 p3 p4 _ HX.out HY.out).mono ?_; rintro e w2 ⟨rfl, hb2⟩))
      all_goals
        go_wp2_with fail
        go_roundw
        case rel =>
          refine ⟨k + 1, by omega, by go_num, ?_⟩
          (repeat (first | with_reducible exact Below.refl _ _ | with_reducible refine bl_alloc ?_ _ | with_reducible refine bl_drewN ?_ _ | with_reducible refine bl_drew ?_ | with_reducible refine bl_setCell ?_ (by first | exact Nat.le_refl _ | (dsimp only; omega) | (simp <;> omega)) _ | with_reducible refine bl_trans ?_ (by with_reducible assumption)))
        case measure => simp [intOf]; omega
    · go_wp2_with fail
      go_ret
      exact ⟨rfl, hb⟩

set_option maxHeartbeats 4000000 in
theorem eqCmd_gen (s t : Option Addr) (cs ct : Nat) (c : Cm) (B C : Nat) (w : World) (hs : Els 5 cCell w B s c.list) (ht : Els 5 cCell w C t c.list) (ok : okV c.val) (hl : c.list.length ≤ 1048576) :
    Calls Try.prog 63 #[.agg #[.int .i64 c.kind, .int .i64 c.who.1, .int .i64 c.who.2, .int .i64 c.comp, .int .i64 c.val.1, .int .i64 c.val.2.1, .float .f64 c.val.2.2.1, .float .f64 c.val.2.2.2, .slice s c.list.length cs], .agg #[.int .i64 c.kind, .int .i64 c.who.1, .int .i64 c.who.2, .int .i64 c.comp, .int .i64 c.val.1, .int .i64 c.val.2.1, .float .f64 c.val.2.2.1, .float .f64 c.val.2.2.2, .slice t c.list.length ct]] w fun e w' => e = .returned (.bool true) ∧ Below w.heap.size w w' := by
  have hal := alloc_old
  have haf := alloc_oldf
  have HO : Hid (okV c.val) := ok
  clear ok
  have q0 : (c.kind != c.kind) = false := by simp
  have q1 : (c.comp != c.comp) = false := by simp
  obtain ⟨k0, k1⟩ := blk2 w #[.int .i64 c.kind, .int .i64 c.who.1, .int .i64 c.who.2, .int .i64 c.comp, .int .i64 c.val.1, .int .i64 c.val.2.1, .float .f64 c.val.2.2.1, .float .f64 c.val.2.2.2, .slice s c.list.length cs] #[.int .i64 c.kind, .int .i64 c.who.1, .int .i64 c.who.2, .int .i64 c.comp, .int .i64 c.val.1, .int .i64 c.val.2.1, .float .f64 c.val.2.2.1, .float .f64 c.val.2.2.2, .slice t c.list.length ct] 114 114
  have L0 : Below w.heap.size w ((w.alloc (.cells #[.int .i64 c.kind, .int .i64 c.who.1, .int .i64 c.who.2, .int .i64 c.comp, .int .i64 c.val.1, .int .i64 c.val.2.1, .float .f64 c.val.2.2.1, .float .f64 c.val.2.2.2, .slice s c.list.length cs] 114)).alloc (.cells #[.int .i64 c.kind, .int .i64 c.who.1, .int .i64 c.who.2, .int .i64 c.comp, .int .i64 c.val.1, .int .i64 c.val.2.1, .float .f64 c.val.2.2.1, .float .f64 c.val.2.2.2, .slice t c.list.length ct] 114)) := by (repeat (first | with_reducible exact Below.refl _ _ | with_reducible refine bl_alloc ?_ _ | with_reducible refine bl_drewN ?_ _ | with_reducible refine bl_drew ?_ | with_reducible refine bl_setCell ?_ (by first | exact Nat.le_refl _ | (dsimp only; omega) | (simp <;> omega)) _ | with_reducible refine bl_trans ?_ (by with_reducible assumption)))
  obtain ⟨x0, x1, x2, x3, x4, x5, x6, x7, x8, x9⟩ := k0.nine
  obtain ⟨y0, y1, y2, y3, y4, y5, y6, y7, y8, y9⟩ := k1.nine
  go_enter Try.func63, Try.ntmps63
  go_wp2_with fail
  refine (eqEnt_any c.who.1 c.who.2 c.who.1 c.who.2 _).mono ?_
  rintro e w1 ⟨rfl, hb1⟩
  rw [show (c.who.1 == c.who.1 && c.who.2 == c.who.2) = true by simp]
  have L1 := bl_trans L0 hb1
  have K0 := k0.later hb1
  have K1 := k1.later hb1
  clear k0 k1 x0 x1 x2 x3 x4 x5 x6 x7 x8 x9 y0 y1 y2 y3 y4 y5 y6 y7 y8 y9 hb1
  obtain ⟨x0, x1, x2, x3, x4, x5, x6, x7, x8, x9⟩ := K0.nine
  obtain ⟨y0, y1, y2, y3, y4, y5, y6, y7, y8, y9⟩ := K1.nine
  go_wp2_with fail
  refine (eqVal_any c.val.1 c.val.2.1 c.val.2.2.1 c.val.2.2.2 c.val.1 c.val.2.1 c.val.2.2.1 c.val.2.2.2 _ HO.out.2.1 HO.out.2.2 HO.out.2.1 HO.out.2.2).mono ?_
  rintro e w2 ⟨rfl, hb2⟩
  rw [eqB_self]
  have L2 := bl_trans L1 hb2
  have N0 := K0.later hb2
  have N1 := K1.later hb2
  clear K0 K1 x0 x1 x2 x3 x4 x5 x6 x7 x8 x9 y0 y1 y2 y3 y4 y5 y6 y7 y8 y9 hb2
  obtain ⟨x0, x1, x2, x3, x4, x5, x6, x7, x8, x9⟩ := N0.nine
  obtain ⟨y0, y1, y2, y3, y4, y5, y6, y7, y8, y9⟩ := N1.nine
  go_wp2_with fail
  refine (eqCellS_gen s t cs ct c.list B C _ (hs.later cCell_keeps L2) (ht.later cCell_keeps L2) hl).mono ?_
  rintro e w3 ⟨rfl, hb3⟩
  go_wp2_with fail
  go_ret
  exact ⟨rfl, bl_trans L2 hb3⟩

set_option maxHeartbeats 4000000 in
theorem eqCmdS_gen (s t : Option Addr) (c d : Nat) (L : List Cm) (B C : Nat) (w : World) (hs : Els 9 cCmd w B s L) (ht : Els 9 cCmd w C t L) (hl : kCs L) :
    Calls Try.prog 29 #[.slice s L.length c, .slice t L.length d] w fun e w' => e = .returned (.bool true) ∧ Below w.heap.size w w' := by
  have hal := alloc_old
  have haf := alloc_oldf
  obtain ⟨hl, hls⟩ := hl
  have HLS : Hid (∀ l ∈ L, l.list.length ≤ 1048576) := hls
  clear hls
  go_enter Try.func29, Try.ntmps29
  go_wp2_with fail
  go_loopw [5] (fun i wr => ∃ k : Nat, k ≤ L.length ∧ i = .int .i64 k ∧ Below w.heap.size w wr) (fun i _ => L.length - (intOf i).toNat)
  case atStart => exact ⟨0, Nat.zero_le _, rfl, Below.refl _ _⟩
  case round =>
    obtain ⟨k, hk, rfl, hb⟩ := hrel
    by_cases hlt : k < L.length
    · obtain ⟨a, ha⟩ := get_some hlt
      obtain ⟨b, o, rfl, _, hp, ok, s', c', e0, e1, e2, e3, e4, e5, e6, e7, e8, f⟩ := eCmd_cells (hs.later cCmd_keeps hb) ha
      obtain ⟨b', o', rfl, _, hp', _, t', d', f0, f1, f2, f3, f4, f5, f6, f7, f8, g⟩ := eCmd_cells (ht.later cCmd_keeps hb) ha
      have hal1 := HLS.out a (List.mem_of_getElem? ha)
      have HO : Hid (okV a.val) := ok
      have PH : Hid (Els 5 cCell wr B s' a.list ∧ Els 5 cCell wr C t' a.list) := ⟨f, g⟩
      clear hs ht ha f g ok
      go_wp2_with fail
      go_region_with (first
        | (go_at_call 63; refine (eqCmd_gen s' t' c' d' a B C _ (PH.out.1.later cCell_keeps (bl_drew (Below.refl _ _))) (PH.out.2.later cCell_keeps (bl_drew (Below.refl _ _))) HO.out hal1).mono ?_; rintro e w2 ⟨rfl, hb2⟩))
      all_goals
        go_wp2_with fail
        go_roundw
        case rel =>
          refine ⟨k + 1, by omega, by go_num, ?_⟩
          (repeat (first | with_reducible exact Below.refl _ _ | with_reducible refine bl_alloc ?_ _ | with_reducible refine bl_drewN ?_ _ | with_reducible refine bl_drew ?_ | with_reducible refine bl_setCell ?_ (by first | exact Nat.le_refl _ | (dsimp only; omega) | (simp <;> omega)) _ | with_reducible refine bl_trans ?_ (by with_reducible assumption)))
        case measure => simp [intOf]; omega
    · go_wp2_with fail
      go_ret
      exact ⟨rfl, hb⟩
end Go.Proofs.Ytofpkbnocbmgkaa
