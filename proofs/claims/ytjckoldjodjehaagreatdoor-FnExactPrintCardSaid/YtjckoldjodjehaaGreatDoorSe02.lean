import Derived.Test.YtjckoldjodjehaaGreatDoorSe01
import Derived.Maps.OwnSet
namespace Go.Proofs.YtjckoldjodjehaaGreatDoor
set_option linter.unusedVariables false
set_option linter.unusedSimpArgs false
section
open Go.RowKit
theorem OI.ofBlk {w : World} {b : Nat} (L : List Int) (hl : L.length ≤ 1000) (h : Blk w b (L.map (Value.int .i64)).toArray 3) : OI w b (.slice (some ⟨b, 0, none⟩) L.length L.length) L :=
 ⟨by simp, Or.inr ⟨b, L.length, _, rfl, Nat.le_refl _, h, Nat.le_refl _, by unfold maxLen; omega, by simp, by simp; exact List.take_of_length_le (by simp)⟩⟩
theorem Els.few {w : World} {B b : Nat} (L : List Int) (hl : L.length ≤ 1000) (hB : B ≤ b) (h : Blk w b (L.map (Value.int .i64)).toArray 3) : Els 1 cInt w B (some ⟨b, 0, none⟩) L := (OI.ofBlk L hl h).els.drop cInt_drops hB
def ShapeSays (w : World) (kind : Int) (kn : Nat) (e : Ending) (w' : World) : Prop := (∃ s c, e = .returned (.tuple #[.slice s (shp kind kn).length c, .bool (decide ((shp kind kn).length = kn))]) ∧ Els 1 cInt w' w.heap.size s (shp kind kn)) ∧ Below w.heap.size w w'
theorem rep_succ (m : Nat) (x : Int) : List.replicate (m + 1) x = List.replicate m x ++ [x] := List.replicate_succ'
set_option maxRecDepth 100000 in
set_option maxHeartbeats 4000000 in
theorem shape_1 (t : ByteArray) (q : Int) (s : Option Addr) (kn c : Nat) (hk : kn ≤ 1048576) (w : World) :
  Calls Tryz.prog 48 #[.agg #[.int .i64 1, .string t, .int .i64 q, .slice s kn c]] w fun e w' => ShapeSays w 1 kn e w' := by
 have hal := alloc_old
 have haf := alloc_oldf
 have k0 := Blk.new w #[.int .i64 1, .string t, .int .i64 q, .slice s kn c] 66
 have L0 := bl_alloc (Below.refl _ w) (.cells #[.int .i64 1, .string t, .int .i64 q, .slice s kn c] 66)
 obtain ⟨x0, x1, x2, x3, x4⟩ := k0.four'
 have HE : Hid (Els 1 cInt ((w.alloc (.cells #[.int .i64 1, .string t, .int .i64 q, .slice s kn c] 66)).alloc (.cells #[] 3)) w.heap.size (some ⟨(w.heap.size + 1), 0, none⟩) []) := Els.few [] (by simp) (by omega) (Blk.new' _ #[] 3 (by simp))
 have HB : Hid (Below w.heap.size w ((w.alloc (.cells #[.int .i64 1, .string t, .int .i64 q, .slice s kn c] 66)).alloc (.cells #[] 3))) := bl_alloc L0 _
 have hg : IntKind.i64.wrap (kn : Int) = kn := by rw [IntKind.wrap_i64]; omega
 have hd : ((0 : Int) == (kn : Int)) = decide (0 = kn) := by by_cases h : 0 = kn <;> simp [h] <;> omega
 go_enter Tryz.func48, Tryz.ntmps48
 go_wp2_with fail; go_ret2
 exact ⟨⟨some ⟨(w.heap.size + 1), 0, none⟩, 0, rfl, HE.out⟩, HB.out⟩
set_option maxRecDepth 100000 in
set_option maxHeartbeats 4000000 in
theorem shape_2 (t : ByteArray) (q : Int) (s : Option Addr) (kn c : Nat) (hk : kn ≤ 1048576) (w : World) :
  Calls Tryz.prog 48 #[.agg #[.int .i64 2, .string t, .int .i64 q, .slice s kn c]] w fun e w' => ShapeSays w 2 kn e w' := by
 have hal := alloc_old
 have haf := alloc_oldf
 have k0 := Blk.new w #[.int .i64 2, .string t, .int .i64 q, .slice s kn c] 66
 have L0 := bl_alloc (Below.refl _ w) (.cells #[.int .i64 2, .string t, .int .i64 q, .slice s kn c] 66)
 obtain ⟨x0, x1, x2, x3, x4⟩ := k0.four'
 have HE : Hid (Els 1 cInt ((w.alloc (.cells #[.int .i64 2, .string t, .int .i64 q, .slice s kn c] 66)).alloc (.cells #[] 3)) w.heap.size (some ⟨(w.heap.size + 1), 0, none⟩) []) := Els.few [] (by simp) (by omega) (Blk.new' _ #[] 3 (by simp))
 have HB : Hid (Below w.heap.size w ((w.alloc (.cells #[.int .i64 2, .string t, .int .i64 q, .slice s kn c] 66)).alloc (.cells #[] 3))) := bl_alloc L0 _
 have hg : IntKind.i64.wrap (kn : Int) = kn := by rw [IntKind.wrap_i64]; omega
 have hd : ((0 : Int) == (kn : Int)) = decide (0 = kn) := by by_cases h : 0 = kn <;> simp [h] <;> omega
 go_enter Tryz.func48, Tryz.ntmps48
 go_wp2_with fail; go_ret2
 exact ⟨⟨some ⟨(w.heap.size + 1), 0, none⟩, 0, rfl, HE.out⟩, HB.out⟩
set_option maxRecDepth 100000 in
set_option maxHeartbeats 4000000 in
theorem shape_3 (t : ByteArray) (q : Int) (s : Option Addr) (kn c : Nat) (hk : kn ≤ 1048576) (w : World) :
  Calls Tryz.prog 48 #[.agg #[.int .i64 3, .string t, .int .i64 q, .slice s kn c]] w fun e w' => ShapeSays w 3 kn e w' := by
 have hal := alloc_old
 have haf := alloc_oldf
 have k0 := Blk.new w #[.int .i64 3, .string t, .int .i64 q, .slice s kn c] 66
 have L0 := bl_alloc (Below.refl _ w) (.cells #[.int .i64 3, .string t, .int .i64 q, .slice s kn c] 66)
 obtain ⟨x0, x1, x2, x3, x4⟩ := k0.four'
 have HE : Hid (Els 1 cInt ((w.alloc (.cells #[.int .i64 3, .string t, .int .i64 q, .slice s kn c] 66)).alloc (.cells #[] 3)) w.heap.size (some ⟨(w.heap.size + 1), 0, none⟩) []) := Els.few [] (by simp) (by omega) (Blk.new' _ #[] 3 (by simp))
 have HB : Hid (Below w.heap.size w ((w.alloc (.cells #[.int .i64 3, .string t, .int .i64 q, .slice s kn c] 66)).alloc (.cells #[] 3))) := bl_alloc L0 _
 have hg : IntKind.i64.wrap (kn : Int) = kn := by rw [IntKind.wrap_i64]; omega
 have hd : ((0 : Int) == (kn : Int)) = decide (0 = kn) := by by_cases h : 0 = kn <;> simp [h] <;> omega
 go_enter Tryz.func48, Tryz.ntmps48
 go_wp2_with fail; go_ret2
 exact ⟨⟨some ⟨(w.heap.size + 1), 0, none⟩, 0, rfl, HE.out⟩, HB.out⟩
set_option maxRecDepth 100000 in
set_option maxHeartbeats 4000000 in
theorem shape_4 (t : ByteArray) (q : Int) (s : Option Addr) (kn c : Nat) (hk : kn ≤ 1048576) (w : World) :
  Calls Tryz.prog 48 #[.agg #[.int .i64 4, .string t, .int .i64 q, .slice s kn c]] w fun e w' => ShapeSays w 4 kn e w' := by
 have hal := alloc_old
 have haf := alloc_oldf
 have k0 := Blk.new w #[.int .i64 4, .string t, .int .i64 q, .slice s kn c] 66
 have L0 := bl_alloc (Below.refl _ w) (.cells #[.int .i64 4, .string t, .int .i64 q, .slice s kn c] 66)
 obtain ⟨x0, x1, x2, x3, x4⟩ := k0.four'
 have HE : Hid (Els 1 cInt ((w.alloc (.cells #[.int .i64 4, .string t, .int .i64 q, .slice s kn c] 66)).alloc (.cells #[] 3)) w.heap.size (some ⟨(w.heap.size + 1), 0, none⟩) []) := Els.few [] (by simp) (by omega) (Blk.new' _ #[] 3 (by simp))
 have HB : Hid (Below w.heap.size w ((w.alloc (.cells #[.int .i64 4, .string t, .int .i64 q, .slice s kn c] 66)).alloc (.cells #[] 3))) := bl_alloc L0 _
 have hg : IntKind.i64.wrap (kn : Int) = kn := by rw [IntKind.wrap_i64]; omega
 have hd : ((0 : Int) == (kn : Int)) = decide (0 = kn) := by by_cases h : 0 = kn <;> simp [h] <;> omega
 go_enter Tryz.func48, Tryz.ntmps48
 go_wp2_with fail; go_ret2
 exact ⟨⟨some ⟨(w.heap.size + 1), 0, none⟩, 0, rfl, HE.out⟩, HB.out⟩
set_option maxRecDepth 100000 in
set_option maxHeartbeats 4000000 in
theorem shape_5 (t : ByteArray) (q : Int) (s : Option Addr) (kn c : Nat) (hk : kn ≤ 1048576) (w : World) :
  Calls Tryz.prog 48 #[.agg #[.int .i64 5, .string t, .int .i64 q, .slice s kn c]] w fun e w' => ShapeSays w 5 kn e w' := by
 have hal := alloc_old
 have haf := alloc_oldf
 have k0 := Blk.new w #[.int .i64 5, .string t, .int .i64 q, .slice s kn c] 66
 have L0 := bl_alloc (Below.refl _ w) (.cells #[.int .i64 5, .string t, .int .i64 q, .slice s kn c] 66)
 obtain ⟨x0, x1, x2, x3, x4⟩ := k0.four'
 have HE : Hid (Els 1 cInt ((w.alloc (.cells #[.int .i64 5, .string t, .int .i64 q, .slice s kn c] 66)).alloc (.cells #[] 3)) w.heap.size (some ⟨(w.heap.size + 1), 0, none⟩) []) := Els.few [] (by simp) (by omega) (Blk.new' _ #[] 3 (by simp))
 have HB : Hid (Below w.heap.size w ((w.alloc (.cells #[.int .i64 5, .string t, .int .i64 q, .slice s kn c] 66)).alloc (.cells #[] 3))) := bl_alloc L0 _
 have hg : IntKind.i64.wrap (kn : Int) = kn := by rw [IntKind.wrap_i64]; omega
 have hd : ((0 : Int) == (kn : Int)) = decide (0 = kn) := by by_cases h : 0 = kn <;> simp [h] <;> omega
 go_enter Tryz.func48, Tryz.ntmps48
 go_wp2_with fail; go_ret2
 exact ⟨⟨some ⟨(w.heap.size + 1), 0, none⟩, 0, rfl, HE.out⟩, HB.out⟩
set_option maxRecDepth 100000 in
set_option maxHeartbeats 4000000 in
theorem shape_6 (t : ByteArray) (q : Int) (s : Option Addr) (kn c : Nat) (hk : kn ≤ 1048576) (w : World) :
  Calls Tryz.prog 48 #[.agg #[.int .i64 6, .string t, .int .i64 q, .slice s kn c]] w fun e w' => ShapeSays w 6 kn e w' := by
 have hal := alloc_old
 have haf := alloc_oldf
 have k0 := Blk.new w #[.int .i64 6, .string t, .int .i64 q, .slice s kn c] 66
 have L0 := bl_alloc (Below.refl _ w) (.cells #[.int .i64 6, .string t, .int .i64 q, .slice s kn c] 66)
 obtain ⟨x0, x1, x2, x3, x4⟩ := k0.four'
 have HE : Hid (Els 1 cInt ((w.alloc (.cells #[.int .i64 6, .string t, .int .i64 q, .slice s kn c] 66)).alloc (.cells #[] 3)) w.heap.size (some ⟨(w.heap.size + 1), 0, none⟩) []) := Els.few [] (by simp) (by omega) (Blk.new' _ #[] 3 (by simp))
 have HB : Hid (Below w.heap.size w ((w.alloc (.cells #[.int .i64 6, .string t, .int .i64 q, .slice s kn c] 66)).alloc (.cells #[] 3))) := bl_alloc L0 _
 have hg : IntKind.i64.wrap (kn : Int) = kn := by rw [IntKind.wrap_i64]; omega
 have hd : ((0 : Int) == (kn : Int)) = decide (0 = kn) := by by_cases h : 0 = kn <;> simp [h] <;> omega
 go_enter Tryz.func48, Tryz.ntmps48
 go_wp2_with fail; go_ret2
 exact ⟨⟨some ⟨(w.heap.size + 1), 0, none⟩, 0, rfl, HE.out⟩, HB.out⟩
set_option maxRecDepth 100000 in
set_option maxHeartbeats 4000000 in
theorem shape_8 (t : ByteArray) (q : Int) (s : Option Addr) (kn c : Nat) (hk : kn ≤ 1048576) (w : World) :
  Calls Tryz.prog 48 #[.agg #[.int .i64 8, .string t, .int .i64 q, .slice s kn c]] w fun e w' => ShapeSays w 8 kn e w' := by
 have hal := alloc_old
 have haf := alloc_oldf
 have k0 := Blk.new w #[.int .i64 8, .string t, .int .i64 q, .slice s kn c] 66
 have L0 := bl_alloc (Below.refl _ w) (.cells #[.int .i64 8, .string t, .int .i64 q, .slice s kn c] 66)
 obtain ⟨x0, x1, x2, x3, x4⟩ := k0.four'
 have HE : Hid (Els 1 cInt (((w.alloc (.cells #[.int .i64 8, .string t, .int .i64 q, .slice s kn c] 66)).alloc (.cells #[] 3)).alloc (.cells #[.int .i64 1, .int .i64 1] 3)) w.heap.size (some ⟨(w.heap.size + 2), 0, none⟩) [1, 1]) := Els.few [1, 1] (by simp) (by omega) (Blk.new' _ #[.int .i64 1, .int .i64 1] 3 (by simp))
 have HB : Hid (Below w.heap.size w (((w.alloc (.cells #[.int .i64 8, .string t, .int .i64 q, .slice s kn c] 66)).alloc (.cells #[] 3)).alloc (.cells #[.int .i64 1, .int .i64 1] 3))) := bl_alloc (bl_alloc L0 _) _
 have hg : IntKind.i64.wrap (kn : Int) = kn := by rw [IntKind.wrap_i64]; omega
 have hd : ((2 : Int) == (kn : Int)) = decide (2 = kn) := by by_cases h : 2 = kn <;> simp [h] <;> omega
 go_enter Tryz.func48, Tryz.ntmps48
 go_wp2_with fail; go_ret2
 exact ⟨⟨some ⟨(w.heap.size + 2), 0, none⟩, 2, rfl, HE.out⟩, HB.out⟩
set_option maxRecDepth 100000 in
set_option maxHeartbeats 4000000 in
theorem shape_9 (t : ByteArray) (q : Int) (s : Option Addr) (kn c : Nat) (hk : kn ≤ 1048576) (w : World) :
  Calls Tryz.prog 48 #[.agg #[.int .i64 9, .string t, .int .i64 q, .slice s kn c]] w fun e w' => ShapeSays w 9 kn e w' := by
 have hal := alloc_old
 have haf := alloc_oldf
 have k0 := Blk.new w #[.int .i64 9, .string t, .int .i64 q, .slice s kn c] 66
 have L0 := bl_alloc (Below.refl _ w) (.cells #[.int .i64 9, .string t, .int .i64 q, .slice s kn c] 66)
 obtain ⟨x0, x1, x2, x3, x4⟩ := k0.four'
 have HE : Hid (Els 1 cInt (((w.alloc (.cells #[.int .i64 9, .string t, .int .i64 q, .slice s kn c] 66)).alloc (.cells #[] 3)).alloc (.cells #[.int .i64 1] 3)) w.heap.size (some ⟨(w.heap.size + 2), 0, none⟩) [1]) := Els.few [1] (by simp) (by omega) (Blk.new' _ #[.int .i64 1] 3 (by simp))
 have HB : Hid (Below w.heap.size w (((w.alloc (.cells #[.int .i64 9, .string t, .int .i64 q, .slice s kn c] 66)).alloc (.cells #[] 3)).alloc (.cells #[.int .i64 1] 3))) := bl_alloc (bl_alloc L0 _) _
 have hg : IntKind.i64.wrap (kn : Int) = kn := by rw [IntKind.wrap_i64]; omega
 have hd : ((1 : Int) == (kn : Int)) = decide (1 = kn) := by by_cases h : 1 = kn <;> simp [h] <;> omega
 go_enter Tryz.func48, Tryz.ntmps48
 go_wp2_with fail; go_ret2
 exact ⟨⟨some ⟨(w.heap.size + 2), 0, none⟩, 1, rfl, HE.out⟩, HB.out⟩
set_option maxRecDepth 100000 in
set_option maxHeartbeats 4000000 in
theorem shape_10 (t : ByteArray) (q : Int) (s : Option Addr) (kn c : Nat) (hk : kn ≤ 1048576) (w : World) :
  Calls Tryz.prog 48 #[.agg #[.int .i64 10, .string t, .int .i64 q, .slice s kn c]] w fun e w' => ShapeSays w 10 kn e w' := by
 have hal := alloc_old
 have haf := alloc_oldf
 have k0 := Blk.new w #[.int .i64 10, .string t, .int .i64 q, .slice s kn c] 66
 have L0 := bl_alloc (Below.refl _ w) (.cells #[.int .i64 10, .string t, .int .i64 q, .slice s kn c] 66)
 obtain ⟨x0, x1, x2, x3, x4⟩ := k0.four'
 have HE : Hid (Els 1 cInt (((w.alloc (.cells #[.int .i64 10, .string t, .int .i64 q, .slice s kn c] 66)).alloc (.cells #[] 3)).alloc (.cells #[.int .i64 1, .int .i64 1] 3)) w.heap.size (some ⟨(w.heap.size + 2), 0, none⟩) [1, 1]) := Els.few [1, 1] (by simp) (by omega) (Blk.new' _ #[.int .i64 1, .int .i64 1] 3 (by simp))
 have HB : Hid (Below w.heap.size w (((w.alloc (.cells #[.int .i64 10, .string t, .int .i64 q, .slice s kn c] 66)).alloc (.cells #[] 3)).alloc (.cells #[.int .i64 1, .int .i64 1] 3))) := bl_alloc (bl_alloc L0 _) _
 have hg : IntKind.i64.wrap (kn : Int) = kn := by rw [IntKind.wrap_i64]; omega
 have hd : ((2 : Int) == (kn : Int)) = decide (2 = kn) := by by_cases h : 2 = kn <;> simp [h] <;> omega
 go_enter Tryz.func48, Tryz.ntmps48
 go_wp2_with fail; go_ret2
 exact ⟨⟨some ⟨(w.heap.size + 2), 0, none⟩, 2, rfl, HE.out⟩, HB.out⟩
set_option maxRecDepth 100000 in
set_option maxHeartbeats 4000000 in
theorem shape_12 (t : ByteArray) (q : Int) (s : Option Addr) (kn c : Nat) (hk : kn ≤ 1048576) (w : World) :
  Calls Tryz.prog 48 #[.agg #[.int .i64 12, .string t, .int .i64 q, .slice s kn c]] w fun e w' => ShapeSays w 12 kn e w' := by
 have hal := alloc_old
 have haf := alloc_oldf
 have k0 := Blk.new w #[.int .i64 12, .string t, .int .i64 q, .slice s kn c] 66
 have L0 := bl_alloc (Below.refl _ w) (.cells #[.int .i64 12, .string t, .int .i64 q, .slice s kn c] 66)
 obtain ⟨x0, x1, x2, x3, x4⟩ := k0.four'
 have HE : Hid (Els 1 cInt (((w.alloc (.cells #[.int .i64 12, .string t, .int .i64 q, .slice s kn c] 66)).alloc (.cells #[] 3)).alloc (.cells #[.int .i64 1] 3)) w.heap.size (some ⟨(w.heap.size + 2), 0, none⟩) [1]) := Els.few [1] (by simp) (by omega) (Blk.new' _ #[.int .i64 1] 3 (by simp))
 have HB : Hid (Below w.heap.size w (((w.alloc (.cells #[.int .i64 12, .string t, .int .i64 q, .slice s kn c] 66)).alloc (.cells #[] 3)).alloc (.cells #[.int .i64 1] 3))) := bl_alloc (bl_alloc L0 _) _
 have hg : IntKind.i64.wrap (kn : Int) = kn := by rw [IntKind.wrap_i64]; omega
 have hd : ((1 : Int) == (kn : Int)) = decide (1 = kn) := by by_cases h : 1 = kn <;> simp [h] <;> omega
 go_enter Tryz.func48, Tryz.ntmps48
 go_wp2_with fail; go_ret2
 exact ⟨⟨some ⟨(w.heap.size + 2), 0, none⟩, 1, rfl, HE.out⟩, HB.out⟩
set_option maxRecDepth 100000 in
set_option maxHeartbeats 4000000 in
theorem shape_13 (t : ByteArray) (q : Int) (s : Option Addr) (kn c : Nat) (hk : kn ≤ 1048576) (w : World) :
  Calls Tryz.prog 48 #[.agg #[.int .i64 13, .string t, .int .i64 q, .slice s kn c]] w fun e w' => ShapeSays w 13 kn e w' := by
 have hal := alloc_old
 have haf := alloc_oldf
 have k0 := Blk.new w #[.int .i64 13, .string t, .int .i64 q, .slice s kn c] 66
 have L0 := bl_alloc (Below.refl _ w) (.cells #[.int .i64 13, .string t, .int .i64 q, .slice s kn c] 66)
 obtain ⟨x0, x1, x2, x3, x4⟩ := k0.four'
 have HE : Hid (Els 1 cInt (((w.alloc (.cells #[.int .i64 13, .string t, .int .i64 q, .slice s kn c] 66)).alloc (.cells #[] 3)).alloc (.cells #[.int .i64 1] 3)) w.heap.size (some ⟨(w.heap.size + 2), 0, none⟩) [1]) := Els.few [1] (by simp) (by omega) (Blk.new' _ #[.int .i64 1] 3 (by simp))
 have HB : Hid (Below w.heap.size w (((w.alloc (.cells #[.int .i64 13, .string t, .int .i64 q, .slice s kn c] 66)).alloc (.cells #[] 3)).alloc (.cells #[.int .i64 1] 3))) := bl_alloc (bl_alloc L0 _) _
 have hg : IntKind.i64.wrap (kn : Int) = kn := by rw [IntKind.wrap_i64]; omega
 have hd : ((1 : Int) == (kn : Int)) = decide (1 = kn) := by by_cases h : 1 = kn <;> simp [h] <;> omega
 go_enter Tryz.func48, Tryz.ntmps48
 go_wp2_with fail; go_ret2
 exact ⟨⟨some ⟨(w.heap.size + 2), 0, none⟩, 1, rfl, HE.out⟩, HB.out⟩
set_option maxRecDepth 100000 in
set_option maxHeartbeats 4000000 in
theorem shape_14 (t : ByteArray) (q : Int) (s : Option Addr) (kn c : Nat) (hk : kn ≤ 1048576) (w : World) :
  Calls Tryz.prog 48 #[.agg #[.int .i64 14, .string t, .int .i64 q, .slice s kn c]] w fun e w' => ShapeSays w 14 kn e w' := by
 have hal := alloc_old
 have haf := alloc_oldf
 have k0 := Blk.new w #[.int .i64 14, .string t, .int .i64 q, .slice s kn c] 66
 have L0 := bl_alloc (Below.refl _ w) (.cells #[.int .i64 14, .string t, .int .i64 q, .slice s kn c] 66)
 obtain ⟨x0, x1, x2, x3, x4⟩ := k0.four'
 have HE : Hid (Els 1 cInt (((w.alloc (.cells #[.int .i64 14, .string t, .int .i64 q, .slice s kn c] 66)).alloc (.cells #[] 3)).alloc (.cells #[.int .i64 1] 3)) w.heap.size (some ⟨(w.heap.size + 2), 0, none⟩) [1]) := Els.few [1] (by simp) (by omega) (Blk.new' _ #[.int .i64 1] 3 (by simp))
 have HB : Hid (Below w.heap.size w (((w.alloc (.cells #[.int .i64 14, .string t, .int .i64 q, .slice s kn c] 66)).alloc (.cells #[] 3)).alloc (.cells #[.int .i64 1] 3))) := bl_alloc (bl_alloc L0 _) _
 have hg : IntKind.i64.wrap (kn : Int) = kn := by rw [IntKind.wrap_i64]; omega
 have hd : ((1 : Int) == (kn : Int)) = decide (1 = kn) := by by_cases h : 1 = kn <;> simp [h] <;> omega
 go_enter Tryz.func48, Tryz.ntmps48
 go_wp2_with fail; go_ret2
 exact ⟨⟨some ⟨(w.heap.size + 2), 0, none⟩, 1, rfl, HE.out⟩, HB.out⟩
set_option maxRecDepth 100000 in
set_option maxHeartbeats 4000000 in
theorem shape_15 (t : ByteArray) (q : Int) (s : Option Addr) (kn c : Nat) (hk : kn ≤ 1048576) (w : World) :
  Calls Tryz.prog 48 #[.agg #[.int .i64 15, .string t, .int .i64 q, .slice s kn c]] w fun e w' => ShapeSays w 15 kn e w' := by
 have hal := alloc_old
 have haf := alloc_oldf
 have k0 := Blk.new w #[.int .i64 15, .string t, .int .i64 q, .slice s kn c] 66
 have L0 := bl_alloc (Below.refl _ w) (.cells #[.int .i64 15, .string t, .int .i64 q, .slice s kn c] 66)
 obtain ⟨x0, x1, x2, x3, x4⟩ := k0.four'
 have HE : Hid (Els 1 cInt (((w.alloc (.cells #[.int .i64 15, .string t, .int .i64 q, .slice s kn c] 66)).alloc (.cells #[] 3)).alloc (.cells #[.int .i64 1] 3)) w.heap.size (some ⟨(w.heap.size + 2), 0, none⟩) [1]) := Els.few [1] (by simp) (by omega) (Blk.new' _ #[.int .i64 1] 3 (by simp))
 have HB : Hid (Below w.heap.size w (((w.alloc (.cells #[.int .i64 15, .string t, .int .i64 q, .slice s kn c] 66)).alloc (.cells #[] 3)).alloc (.cells #[.int .i64 1] 3))) := bl_alloc (bl_alloc L0 _) _
 have hg : IntKind.i64.wrap (kn : Int) = kn := by rw [IntKind.wrap_i64]; omega
 have hd : ((1 : Int) == (kn : Int)) = decide (1 = kn) := by by_cases h : 1 = kn <;> simp [h] <;> omega
 go_enter Tryz.func48, Tryz.ntmps48
 go_wp2_with fail; go_ret2
 exact ⟨⟨some ⟨(w.heap.size + 2), 0, none⟩, 1, rfl, HE.out⟩, HB.out⟩
set_option maxRecDepth 100000 in
set_option maxHeartbeats 4000000 in
theorem shape_17 (t : ByteArray) (q : Int) (s : Option Addr) (kn c : Nat) (hk : kn ≤ 1048576) (w : World) :
  Calls Tryz.prog 48 #[.agg #[.int .i64 17, .string t, .int .i64 q, .slice s kn c]] w fun e w' => ShapeSays w 17 kn e w' := by
 have hal := alloc_old
 have haf := alloc_oldf
 have k0 := Blk.new w #[.int .i64 17, .string t, .int .i64 q, .slice s kn c] 66
 have L0 := bl_alloc (Below.refl _ w) (.cells #[.int .i64 17, .string t, .int .i64 q, .slice s kn c] 66)
 obtain ⟨x0, x1, x2, x3, x4⟩ := k0.four'
 have HE : Hid (Els 1 cInt (((w.alloc (.cells #[.int .i64 17, .string t, .int .i64 q, .slice s kn c] 66)).alloc (.cells #[] 3)).alloc (.cells #[.int .i64 1, .int .i64 3] 3)) w.heap.size (some ⟨(w.heap.size + 2), 0, none⟩) [1, 3]) := Els.few [1, 3] (by simp) (by omega) (Blk.new' _ #[.int .i64 1, .int .i64 3] 3 (by simp))
 have HB : Hid (Below w.heap.size w (((w.alloc (.cells #[.int .i64 17, .string t, .int .i64 q, .slice s kn c] 66)).alloc (.cells #[] 3)).alloc (.cells #[.int .i64 1, .int .i64 3] 3))) := bl_alloc (bl_alloc L0 _) _
 have hg : IntKind.i64.wrap (kn : Int) = kn := by rw [IntKind.wrap_i64]; omega
 have hd : ((2 : Int) == (kn : Int)) = decide (2 = kn) := by by_cases h : 2 = kn <;> simp [h] <;> omega
 go_enter Tryz.func48, Tryz.ntmps48
 go_wp2_with fail; go_ret2
 exact ⟨⟨some ⟨(w.heap.size + 2), 0, none⟩, 2, rfl, HE.out⟩, HB.out⟩
set_option maxRecDepth 100000 in
set_option maxHeartbeats 4000000 in
theorem shape_18 (t : ByteArray) (q : Int) (s : Option Addr) (kn c : Nat) (hk : kn ≤ 1048576) (w : World) :
  Calls Tryz.prog 48 #[.agg #[.int .i64 18, .string t, .int .i64 q, .slice s kn c]] w fun e w' => ShapeSays w 18 kn e w' := by
 have hal := alloc_old
 have haf := alloc_oldf
 have k0 := Blk.new w #[.int .i64 18, .string t, .int .i64 q, .slice s kn c] 66
 have L0 := bl_alloc (Below.refl _ w) (.cells #[.int .i64 18, .string t, .int .i64 q, .slice s kn c] 66)
 obtain ⟨x0, x1, x2, x3, x4⟩ := k0.four'
 have HE : Hid (Els 1 cInt (((w.alloc (.cells #[.int .i64 18, .string t, .int .i64 q, .slice s kn c] 66)).alloc (.cells #[] 3)).alloc (.cells #[.int .i64 4, .int .i64 5, .int .i64 3] 3)) w.heap.size (some ⟨(w.heap.size + 2), 0, none⟩) [4, 5, 3]) := Els.few [4, 5, 3] (by simp) (by omega) (Blk.new' _ #[.int .i64 4, .int .i64 5, .int .i64 3] 3 (by simp))
 have HB : Hid (Below w.heap.size w (((w.alloc (.cells #[.int .i64 18, .string t, .int .i64 q, .slice s kn c] 66)).alloc (.cells #[] 3)).alloc (.cells #[.int .i64 4, .int .i64 5, .int .i64 3] 3))) := bl_alloc (bl_alloc L0 _) _
 have hg : IntKind.i64.wrap (kn : Int) = kn := by rw [IntKind.wrap_i64]; omega
 have hd : ((3 : Int) == (kn : Int)) = decide (3 = kn) := by by_cases h : 3 = kn <;> simp [h] <;> omega
 go_enter Tryz.func48, Tryz.ntmps48
 go_wp2_with fail; go_ret2
 exact ⟨⟨some ⟨(w.heap.size + 2), 0, none⟩, 3, rfl, HE.out⟩, HB.out⟩
set_option maxRecDepth 100000 in
set_option maxHeartbeats 4000000 in
theorem shape_19 (t : ByteArray) (q : Int) (s : Option Addr) (kn c : Nat) (hk : kn ≤ 1048576) (w : World) :
  Calls Tryz.prog 48 #[.agg #[.int .i64 19, .string t, .int .i64 q, .slice s kn c]] w fun e w' => ShapeSays w 19 kn e w' := by
 have hal := alloc_old
 have haf := alloc_oldf
 have k0 := Blk.new w #[.int .i64 19, .string t, .int .i64 q, .slice s kn c] 66
 have L0 := bl_alloc (Below.refl _ w) (.cells #[.int .i64 19, .string t, .int .i64 q, .slice s kn c] 66)
 obtain ⟨x0, x1, x2, x3, x4⟩ := k0.four'
 have HE : Hid (Els 1 cInt (((w.alloc (.cells #[.int .i64 19, .string t, .int .i64 q, .slice s kn c] 66)).alloc (.cells #[] 3)).alloc (.cells #[.int .i64 1] 3)) w.heap.size (some ⟨(w.heap.size + 2), 0, none⟩) [1]) := Els.few [1] (by simp) (by omega) (Blk.new' _ #[.int .i64 1] 3 (by simp))
 have HB : Hid (Below w.heap.size w (((w.alloc (.cells #[.int .i64 19, .string t, .int .i64 q, .slice s kn c] 66)).alloc (.cells #[] 3)).alloc (.cells #[.int .i64 1] 3))) := bl_alloc (bl_alloc L0 _) _
 have hg : IntKind.i64.wrap (kn : Int) = kn := by rw [IntKind.wrap_i64]; omega
 have hd : ((1 : Int) == (kn : Int)) = decide (1 = kn) := by by_cases h : 1 = kn <;> simp [h] <;> omega
 go_enter Tryz.func48, Tryz.ntmps48
 go_wp2_with fail; go_ret2
 exact ⟨⟨some ⟨(w.heap.size + 2), 0, none⟩, 1, rfl, HE.out⟩, HB.out⟩
set_option maxRecDepth 100000 in
set_option maxHeartbeats 4000000 in
theorem shape_20 (t : ByteArray) (q : Int) (s : Option Addr) (kn c : Nat) (hk : kn ≤ 1048576) (w : World) :
  Calls Tryz.prog 48 #[.agg #[.int .i64 20, .string t, .int .i64 q, .slice s kn c]] w fun e w' => ShapeSays w 20 kn e w' := by
 have hal := alloc_old
 have haf := alloc_oldf
 have k0 := Blk.new w #[.int .i64 20, .string t, .int .i64 q, .slice s kn c] 66
 have L0 := bl_alloc (Below.refl _ w) (.cells #[.int .i64 20, .string t, .int .i64 q, .slice s kn c] 66)
 obtain ⟨x0, x1, x2, x3, x4⟩ := k0.four'
 have HE : Hid (Els 1 cInt (((w.alloc (.cells #[.int .i64 20, .string t, .int .i64 q, .slice s kn c] 66)).alloc (.cells #[] 3)).alloc (.cells #[.int .i64 6, .int .i64 3] 3)) w.heap.size (some ⟨(w.heap.size + 2), 0, none⟩) [6, 3]) := Els.few [6, 3] (by simp) (by omega) (Blk.new' _ #[.int .i64 6, .int .i64 3] 3 (by simp))
 have HB : Hid (Below w.heap.size w (((w.alloc (.cells #[.int .i64 20, .string t, .int .i64 q, .slice s kn c] 66)).alloc (.cells #[] 3)).alloc (.cells #[.int .i64 6, .int .i64 3] 3))) := bl_alloc (bl_alloc L0 _) _
 have hg : IntKind.i64.wrap (kn : Int) = kn := by rw [IntKind.wrap_i64]; omega
 have hd : ((2 : Int) == (kn : Int)) = decide (2 = kn) := by by_cases h : 2 = kn <;> simp [h] <;> omega
 go_enter Tryz.func48, Tryz.ntmps48
 go_wp2_with fail; go_ret2
 exact ⟨⟨some ⟨(w.heap.size + 2), 0, none⟩, 2, rfl, HE.out⟩, HB.out⟩
set_option maxRecDepth 100000 in
set_option maxHeartbeats 4000000 in
theorem shape_22 (t : ByteArray) (q : Int) (s : Option Addr) (kn c : Nat) (hk : kn ≤ 1048576) (w : World) :
  Calls Tryz.prog 48 #[.agg #[.int .i64 22, .string t, .int .i64 q, .slice s kn c]] w fun e w' => ShapeSays w 22 kn e w' := by
 have hal := alloc_old
 have haf := alloc_oldf
 have k0 := Blk.new w #[.int .i64 22, .string t, .int .i64 q, .slice s kn c] 66
 have L0 := bl_alloc (Below.refl _ w) (.cells #[.int .i64 22, .string t, .int .i64 q, .slice s kn c] 66)
 obtain ⟨x0, x1, x2, x3, x4⟩ := k0.four'
 have HE : Hid (Els 1 cInt ((w.alloc (.cells #[.int .i64 22, .string t, .int .i64 q, .slice s kn c] 66)).alloc (.cells #[] 3)) w.heap.size (some ⟨(w.heap.size + 1), 0, none⟩) []) := Els.few [] (by simp) (by omega) (Blk.new' _ #[] 3 (by simp))
 have HB : Hid (Below w.heap.size w ((w.alloc (.cells #[.int .i64 22, .string t, .int .i64 q, .slice s kn c] 66)).alloc (.cells #[] 3))) := bl_alloc L0 _
 have hg : IntKind.i64.wrap (kn : Int) = kn := by rw [IntKind.wrap_i64]; omega
 have hd : ((0 : Int) == (kn : Int)) = decide (0 = kn) := by by_cases h : 0 = kn <;> simp [h] <;> omega
 go_enter Tryz.func48, Tryz.ntmps48
 go_wp2_with fail; go_ret2
 exact ⟨⟨some ⟨(w.heap.size + 1), 0, none⟩, 0, rfl, HE.out⟩, HB.out⟩
set_option maxRecDepth 100000 in
set_option maxHeartbeats 4000000 in
theorem shape_23 (t : ByteArray) (q : Int) (s : Option Addr) (kn c : Nat) (hk : kn ≤ 1048576) (w : World) :
  Calls Tryz.prog 48 #[.agg #[.int .i64 23, .string t, .int .i64 q, .slice s kn c]] w fun e w' => ShapeSays w 23 kn e w' := by
 have hal := alloc_old
 have haf := alloc_oldf
 have k0 := Blk.new w #[.int .i64 23, .string t, .int .i64 q, .slice s kn c] 66
 have L0 := bl_alloc (Below.refl _ w) (.cells #[.int .i64 23, .string t, .int .i64 q, .slice s kn c] 66)
 obtain ⟨x0, x1, x2, x3, x4⟩ := k0.four'
 have HE : Hid (Els 1 cInt (((w.alloc (.cells #[.int .i64 23, .string t, .int .i64 q, .slice s kn c] 66)).alloc (.cells #[] 3)).alloc (.cells #[.int .i64 1] 3)) w.heap.size (some ⟨(w.heap.size + 2), 0, none⟩) [1]) := Els.few [1] (by simp) (by omega) (Blk.new' _ #[.int .i64 1] 3 (by simp))
 have HB : Hid (Below w.heap.size w (((w.alloc (.cells #[.int .i64 23, .string t, .int .i64 q, .slice s kn c] 66)).alloc (.cells #[] 3)).alloc (.cells #[.int .i64 1] 3))) := bl_alloc (bl_alloc L0 _) _
 have hg : IntKind.i64.wrap (kn : Int) = kn := by rw [IntKind.wrap_i64]; omega
 have hd : ((1 : Int) == (kn : Int)) = decide (1 = kn) := by by_cases h : 1 = kn <;> simp [h] <;> omega
 go_enter Tryz.func48, Tryz.ntmps48
 go_wp2_with fail; go_ret2
 exact ⟨⟨some ⟨(w.heap.size + 2), 0, none⟩, 1, rfl, HE.out⟩, HB.out⟩
set_option maxRecDepth 100000 in
set_option maxHeartbeats 4000000 in
theorem shape_24 (t : ByteArray) (q : Int) (s : Option Addr) (kn c : Nat) (hk : kn ≤ 1048576) (w : World) :
  Calls Tryz.prog 48 #[.agg #[.int .i64 24, .string t, .int .i64 q, .slice s kn c]] w fun e w' => ShapeSays w 24 kn e w' := by
 have hal := alloc_old
 have haf := alloc_oldf
 have k0 := Blk.new w #[.int .i64 24, .string t, .int .i64 q, .slice s kn c] 66
 have L0 := bl_alloc (Below.refl _ w) (.cells #[.int .i64 24, .string t, .int .i64 q, .slice s kn c] 66)
 obtain ⟨x0, x1, x2, x3, x4⟩ := k0.four'
 have HE : Hid (Els 1 cInt ((w.alloc (.cells #[.int .i64 24, .string t, .int .i64 q, .slice s kn c] 66)).alloc (.cells #[] 3)) w.heap.size (some ⟨(w.heap.size + 1), 0, none⟩) []) := Els.few [] (by simp) (by omega) (Blk.new' _ #[] 3 (by simp))
 have HB : Hid (Below w.heap.size w ((w.alloc (.cells #[.int .i64 24, .string t, .int .i64 q, .slice s kn c] 66)).alloc (.cells #[] 3))) := bl_alloc L0 _
 have hg : IntKind.i64.wrap (kn : Int) = kn := by rw [IntKind.wrap_i64]; omega
 have hd : ((0 : Int) == (kn : Int)) = decide (0 = kn) := by by_cases h : 0 = kn <;> simp [h] <;> omega
 go_enter Tryz.func48, Tryz.ntmps48
 go_wp2_with fail; go_ret2
 exact ⟨⟨some ⟨(w.heap.size + 1), 0, none⟩, 0, rfl, HE.out⟩, HB.out⟩
set_option maxRecDepth 100000 in
set_option maxHeartbeats 4000000 in
theorem shape_25 (t : ByteArray) (q : Int) (s : Option Addr) (kn c : Nat) (hk : kn ≤ 1048576) (w : World) :
  Calls Tryz.prog 48 #[.agg #[.int .i64 25, .string t, .int .i64 q, .slice s kn c]] w fun e w' => ShapeSays w 25 kn e w' := by
 have hal := alloc_old
 have haf := alloc_oldf
 have k0 := Blk.new w #[.int .i64 25, .string t, .int .i64 q, .slice s kn c] 66
 have L0 := bl_alloc (Below.refl _ w) (.cells #[.int .i64 25, .string t, .int .i64 q, .slice s kn c] 66)
 obtain ⟨x0, x1, x2, x3, x4⟩ := k0.four'
 have HE : Hid (Els 1 cInt (((w.alloc (.cells #[.int .i64 25, .string t, .int .i64 q, .slice s kn c] 66)).alloc (.cells #[] 3)).alloc (.cells #[.int .i64 10] 3)) w.heap.size (some ⟨(w.heap.size + 2), 0, none⟩) [10]) := Els.few [10] (by simp) (by omega) (Blk.new' _ #[.int .i64 10] 3 (by simp))
 have HB : Hid (Below w.heap.size w (((w.alloc (.cells #[.int .i64 25, .string t, .int .i64 q, .slice s kn c] 66)).alloc (.cells #[] 3)).alloc (.cells #[.int .i64 10] 3))) := bl_alloc (bl_alloc L0 _) _
 have hg : IntKind.i64.wrap (kn : Int) = kn := by rw [IntKind.wrap_i64]; omega
 have hd : ((1 : Int) == (kn : Int)) = decide (1 = kn) := by by_cases h : 1 = kn <;> simp [h] <;> omega
 go_enter Tryz.func48, Tryz.ntmps48
 go_wp2_with fail; go_ret2
 exact ⟨⟨some ⟨(w.heap.size + 2), 0, none⟩, 1, rfl, HE.out⟩, HB.out⟩
set_option maxRecDepth 100000 in
set_option maxHeartbeats 4000000 in
theorem shape_26 (t : ByteArray) (q : Int) (s : Option Addr) (kn c : Nat) (hk : kn ≤ 1048576) (w : World) :
  Calls Tryz.prog 48 #[.agg #[.int .i64 26, .string t, .int .i64 q, .slice s kn c]] w fun e w' => ShapeSays w 26 kn e w' := by
 have hal := alloc_old
 have haf := alloc_oldf
 have k0 := Blk.new w #[.int .i64 26, .string t, .int .i64 q, .slice s kn c] 66
 have L0 := bl_alloc (Below.refl _ w) (.cells #[.int .i64 26, .string t, .int .i64 q, .slice s kn c] 66)
 obtain ⟨x0, x1, x2, x3, x4⟩ := k0.four'
 have HE : Hid (Els 1 cInt (((w.alloc (.cells #[.int .i64 26, .string t, .int .i64 q, .slice s kn c] 66)).alloc (.cells #[] 3)).alloc (.cells #[.int .i64 1] 3)) w.heap.size (some ⟨(w.heap.size + 2), 0, none⟩) [1]) := Els.few [1] (by simp) (by omega) (Blk.new' _ #[.int .i64 1] 3 (by simp))
 have HB : Hid (Below w.heap.size w (((w.alloc (.cells #[.int .i64 26, .string t, .int .i64 q, .slice s kn c] 66)).alloc (.cells #[] 3)).alloc (.cells #[.int .i64 1] 3))) := bl_alloc (bl_alloc L0 _) _
 have hg : IntKind.i64.wrap (kn : Int) = kn := by rw [IntKind.wrap_i64]; omega
 have hd : ((1 : Int) == (kn : Int)) = decide (1 = kn) := by by_cases h : 1 = kn <;> simp [h] <;> omega
 go_enter Tryz.func48, Tryz.ntmps48
 go_wp2_with fail; go_ret2
 exact ⟨⟨some ⟨(w.heap.size + 2), 0, none⟩, 1, rfl, HE.out⟩, HB.out⟩
set_option maxRecDepth 100000 in
set_option maxHeartbeats 4000000 in
theorem shape_28 (t : ByteArray) (q : Int) (s : Option Addr) (kn c : Nat) (hk : kn ≤ 1048576) (w : World) :
  Calls Tryz.prog 48 #[.agg #[.int .i64 28, .string t, .int .i64 q, .slice s kn c]] w fun e w' => ShapeSays w 28 kn e w' := by
 have hal := alloc_old
 have haf := alloc_oldf
 have k0 := Blk.new w #[.int .i64 28, .string t, .int .i64 q, .slice s kn c] 66
 have L0 := bl_alloc (Below.refl _ w) (.cells #[.int .i64 28, .string t, .int .i64 q, .slice s kn c] 66)
 obtain ⟨x0, x1, x2, x3, x4⟩ := k0.four'
 have HE : Hid (Els 1 cInt (((w.alloc (.cells #[.int .i64 28, .string t, .int .i64 q, .slice s kn c] 66)).alloc (.cells #[] 3)).alloc (.cells #[.int .i64 1] 3)) w.heap.size (some ⟨(w.heap.size + 2), 0, none⟩) [1]) := Els.few [1] (by simp) (by omega) (Blk.new' _ #[.int .i64 1] 3 (by simp))
 have HB : Hid (Below w.heap.size w (((w.alloc (.cells #[.int .i64 28, .string t, .int .i64 q, .slice s kn c] 66)).alloc (.cells #[] 3)).alloc (.cells #[.int .i64 1] 3))) := bl_alloc (bl_alloc L0 _) _
 have hg : IntKind.i64.wrap (kn : Int) = kn := by rw [IntKind.wrap_i64]; omega
 have hd : ((1 : Int) == (kn : Int)) = decide (1 = kn) := by by_cases h : 1 = kn <;> simp [h] <;> omega
 go_enter Tryz.func48, Tryz.ntmps48
 go_wp2_with fail; go_ret2
 exact ⟨⟨some ⟨(w.heap.size + 2), 0, none⟩, 1, rfl, HE.out⟩, HB.out⟩
set_option maxRecDepth 100000 in
set_option maxHeartbeats 4000000 in
theorem shape_31 (t : ByteArray) (q : Int) (s : Option Addr) (kn c : Nat) (hk : kn ≤ 1048576) (w : World) :
  Calls Tryz.prog 48 #[.agg #[.int .i64 31, .string t, .int .i64 q, .slice s kn c]] w fun e w' => ShapeSays w 31 kn e w' := by
 have hal := alloc_old
 have haf := alloc_oldf
 have k0 := Blk.new w #[.int .i64 31, .string t, .int .i64 q, .slice s kn c] 66
 have L0 := bl_alloc (Below.refl _ w) (.cells #[.int .i64 31, .string t, .int .i64 q, .slice s kn c] 66)
 obtain ⟨x0, x1, x2, x3, x4⟩ := k0.four'
 have HE : Hid (Els 1 cInt ((w.alloc (.cells #[.int .i64 31, .string t, .int .i64 q, .slice s kn c] 66)).alloc (.cells #[] 3)) w.heap.size (some ⟨(w.heap.size + 1), 0, none⟩) []) := Els.few [] (by simp) (by omega) (Blk.new' _ #[] 3 (by simp))
 have HB : Hid (Below w.heap.size w ((w.alloc (.cells #[.int .i64 31, .string t, .int .i64 q, .slice s kn c] 66)).alloc (.cells #[] 3))) := bl_alloc L0 _
 have hg : IntKind.i64.wrap (kn : Int) = kn := by rw [IntKind.wrap_i64]; omega
 have hd : ((0 : Int) == (kn : Int)) = decide (0 = kn) := by by_cases h : 0 = kn <;> simp [h] <;> omega
 go_enter Tryz.func48, Tryz.ntmps48
 go_wp2_with fail; go_ret2
 exact ⟨⟨some ⟨(w.heap.size + 1), 0, none⟩, 0, rfl, HE.out⟩, HB.out⟩
set_option maxRecDepth 100000 in
set_option maxHeartbeats 4000000 in
theorem shape_32 (t : ByteArray) (q : Int) (s : Option Addr) (kn c : Nat) (hk : kn ≤ 1048576) (w : World) :
  Calls Tryz.prog 48 #[.agg #[.int .i64 32, .string t, .int .i64 q, .slice s kn c]] w fun e w' => ShapeSays w 32 kn e w' := by
 have hal := alloc_old
 have haf := alloc_oldf
 have k0 := Blk.new w #[.int .i64 32, .string t, .int .i64 q, .slice s kn c] 66
 have L0 := bl_alloc (Below.refl _ w) (.cells #[.int .i64 32, .string t, .int .i64 q, .slice s kn c] 66)
 obtain ⟨x0, x1, x2, x3, x4⟩ := k0.four'
 have HE : Hid (Els 1 cInt ((w.alloc (.cells #[.int .i64 32, .string t, .int .i64 q, .slice s kn c] 66)).alloc (.cells #[] 3)) w.heap.size (some ⟨(w.heap.size + 1), 0, none⟩) []) := Els.few [] (by simp) (by omega) (Blk.new' _ #[] 3 (by simp))
 have HB : Hid (Below w.heap.size w ((w.alloc (.cells #[.int .i64 32, .string t, .int .i64 q, .slice s kn c] 66)).alloc (.cells #[] 3))) := bl_alloc L0 _
 have hg : IntKind.i64.wrap (kn : Int) = kn := by rw [IntKind.wrap_i64]; omega
 have hd : ((0 : Int) == (kn : Int)) = decide (0 = kn) := by by_cases h : 0 = kn <;> simp [h] <;> omega
 go_enter Tryz.func48, Tryz.ntmps48
 go_wp2_with fail; go_ret2
 exact ⟨⟨some ⟨(w.heap.size + 1), 0, none⟩, 0, rfl, HE.out⟩, HB.out⟩
set_option maxRecDepth 100000 in
set_option maxHeartbeats 4000000 in
theorem shape_34 (t : ByteArray) (q : Int) (s : Option Addr) (kn c : Nat) (hk : kn ≤ 1048576) (w : World) :
  Calls Tryz.prog 48 #[.agg #[.int .i64 34, .string t, .int .i64 q, .slice s kn c]] w fun e w' => ShapeSays w 34 kn e w' := by
 have hal := alloc_old
 have haf := alloc_oldf
 have k0 := Blk.new w #[.int .i64 34, .string t, .int .i64 q, .slice s kn c] 66
 have L0 := bl_alloc (Below.refl _ w) (.cells #[.int .i64 34, .string t, .int .i64 q, .slice s kn c] 66)
 obtain ⟨x0, x1, x2, x3, x4⟩ := k0.four'
 have HE : Hid (Els 1 cInt (((w.alloc (.cells #[.int .i64 34, .string t, .int .i64 q, .slice s kn c] 66)).alloc (.cells #[] 3)).alloc (.cells #[.int .i64 3] 3)) w.heap.size (some ⟨(w.heap.size + 2), 0, none⟩) [3]) := Els.few [3] (by simp) (by omega) (Blk.new' _ #[.int .i64 3] 3 (by simp))
 have HB : Hid (Below w.heap.size w (((w.alloc (.cells #[.int .i64 34, .string t, .int .i64 q, .slice s kn c] 66)).alloc (.cells #[] 3)).alloc (.cells #[.int .i64 3] 3))) := bl_alloc (bl_alloc L0 _) _
 have hg : IntKind.i64.wrap (kn : Int) = kn := by rw [IntKind.wrap_i64]; omega
 have hd : ((1 : Int) == (kn : Int)) = decide (1 = kn) := by by_cases h : 1 = kn <;> simp [h] <;> omega
 go_enter Tryz.func48, Tryz.ntmps48
 go_wp2_with fail; go_ret2
 exact ⟨⟨some ⟨(w.heap.size + 2), 0, none⟩, 1, rfl, HE.out⟩, HB.out⟩
set_option maxRecDepth 100000 in
set_option maxHeartbeats 4000000 in
theorem shape_7 (t : ByteArray) (q : Int) (s : Option Addr) (kn c : Nat) (hk : kn ≤ 1048576) (w : World) :
  Calls Tryz.prog 48 #[.agg #[.int .i64 7, .string t, .int .i64 q, .slice s kn c]] w fun e w' => ShapeSays w 7 kn e w' := by
 have hal := alloc_old
 have haf := alloc_oldf
 have k0 := Blk.new w #[.int .i64 7, .string t, .int .i64 q, .slice s kn c] 66
 have L0 := bl_alloc (Below.refl _ w) (.cells #[.int .i64 7, .string t, .int .i64 q, .slice s kn c] 66)
 obtain ⟨x0, x1, x2, x3, x4⟩ := k0.four'
 have O0 := OI.empty (Blk.new (w.alloc (.cells #[.int .i64 7, .string t, .int .i64 q, .slice s kn c] 66)) #[] 3)
 have L1 := bl_alloc L0 (.cells #[] 3)
 have O1 := O0.mono (B' := w.heap.size) (by simp)
 rw [show (w.alloc (.cells #[.int .i64 7, .string t, .int .i64 q, .slice s kn c] 66)).heap.size = w.heap.size + 1 by simp] at O1
 clear O0; go_enter Tryz.func48, Tryz.ntmps48
 go_wp2_with fail; clear x0 x1 x2 x3 x4 k0 L0; generalize hX : (w.alloc (.cells #[.int .i64 7, .string t, .int .i64 q, .slice s kn c] 66)).alloc (.cells #[] 3) = X at O1 L1 ⊢
 clear hX; go_loopw [5, 7] (fun v i wr => ∃ (m : Nat) (s8 : Option Addr) (c8 : Nat) (R8 : List Int), m ≤ kn ∧ i = .int .i64 m ∧ v = .slice s8 R8.length c8 ∧ Hid (R8 = List.replicate m 1) ∧ Hid (OI wr w.heap.size (.slice s8 R8.length c8) R8) ∧ Hid (Below w.heap.size w wr)) (fun _ i _ => kn - (intOf i).toNat)
 case atStart => exact ⟨0, _, 0, [], Nat.zero_le _, rfl, rfl, (by simp [Hid]), O1, L1⟩
 obtain ⟨m, s8, c8, R8, hm, rfl, rfl, hR8, hO8, hb8⟩ := hrel
 have l8 : Hid (R8.length = m) := by show _ = _; rw [hR8.out]; simp
 by_cases hlt : m < kn
 ·
  skip
  have hb3 : Below w.heap.size w (wr.alloc (.cells #[.int .i64 1] 3)) := bl_alloc hb8.out _
  have hO2 : Hid (OI (wr.alloc (.cells #[.int .i64 1] 3)) w.heap.size (.slice s8 R8.length c8) R8) := hO8.out.later (bl_alloc (Below.refl _ _) _)
  have E5 : Hid (Els 1 cInt (wr.alloc (.cells #[.int .i64 1] 3)) wr.heap.size (some ⟨wr.heap.size, 0, none⟩) [1]) := Els.one (Blk.new wr #[.int .i64 1] 3)
  obtain ⟨R2, hR2⟩ : ∃ R2, Hid (R8 ++ [1] = R2) := ⟨_, (rfl : R8 ++ [1] = _)⟩
  have HS : Hid (R2 = List.replicate (m + 1) 1) := by show R2 = _; rw [← hR2.out, hR8.out, rep_succ]
  have l8' : R8.length ≤ 1048576 := by have := l8.out; omega
  have ltI : (m : Int) < (kn : Int) := by omega
  clear hR8 hO8; go_wp2_with (at_builtin; refine wpList_append_ints rfl _ _ rfl w.heap.size s8 c8 R8 rfl hO2.out wr.heap.size _ 1 [1] rfl E5.out R2 hR2.out (by simp; omega) hb3.size ?_; intro s' c' w4 hO4 hg4 hn4)
  have hO4 : Hid (OI w4 w.heap.size (.slice s' R2.length c') R2) := hO4
  have hb4 : Hid (Below w.heap.size w w4) := grown_oi hb3 hb3.size hO2.out hg4
  clear hg4 hn4 hO2 E5 hb3; go_wp2_with fail; go_roundw
  case rel => exact ⟨m + 1, s', c', R2, by omega, by go_num, rfl, HS, hO4, hb4⟩
  case measure => simp [intOf]; omega
 have HS : Hid (R8 = shp 7 kn) := by show R8 = _; rw [hR8.out, show m = kn by omega]; rfl
 clear hR8; have hd : ((R8.length : Int) == (kn : Int)) = decide ((shp 7 kn).length = kn) := by rw [← HS.out]; by_cases h : R8.length = kn <;> simp [h] <;> omega
 go_wp2_with fail; go_ret2
 refine ⟨⟨s8, c8, ?_, ?_⟩, hb8.out⟩
 ·
  rw [← HS.out]; rfl
 rw [← HS.out]; exact hO8.out.els.drop cInt_drops (by first | exact Nat.le_refl _ | omega)
set_option maxRecDepth 100000 in
set_option maxHeartbeats 4000000 in
theorem shape_21 (t : ByteArray) (q : Int) (s : Option Addr) (kn c : Nat) (hk : kn ≤ 1048576) (w : World) :
  Calls Tryz.prog 48 #[.agg #[.int .i64 21, .string t, .int .i64 q, .slice s kn c]] w fun e w' => ShapeSays w 21 kn e w' := by
 have hal := alloc_old
 have haf := alloc_oldf
 have k0 := Blk.new w #[.int .i64 21, .string t, .int .i64 q, .slice s kn c] 66
 have L0 := bl_alloc (Below.refl _ w) (.cells #[.int .i64 21, .string t, .int .i64 q, .slice s kn c] 66)
 obtain ⟨x0, x1, x2, x3, x4⟩ := k0.four'
 have O0 := OI.empty (Blk.new (w.alloc (.cells #[.int .i64 21, .string t, .int .i64 q, .slice s kn c] 66)) #[] 3)
 have L1 := bl_alloc L0 (.cells #[] 3)
 have O1 := O0.mono (B' := w.heap.size) (by simp)
 rw [show (w.alloc (.cells #[.int .i64 21, .string t, .int .i64 q, .slice s kn c] 66)).heap.size = w.heap.size + 1 by simp] at O1
 clear O0; go_enter Tryz.func48, Tryz.ntmps48
 go_wp2_with fail; clear x0 x1 x2 x3 x4 k0 L0; generalize hX : (w.alloc (.cells #[.int .i64 21, .string t, .int .i64 q, .slice s kn c] 66)).alloc (.cells #[] 3) = X at O1 L1 ⊢
 clear hX; go_loopw [5, 7] (fun v i wr => ∃ (m : Nat) (s8 : Option Addr) (c8 : Nat) (R8 : List Int), m ≤ kn ∧ i = .int .i64 m ∧ v = .slice s8 R8.length c8 ∧ Hid (R8 = List.replicate m 8) ∧ Hid (OI wr w.heap.size (.slice s8 R8.length c8) R8) ∧ Hid (Below w.heap.size w wr)) (fun _ i _ => kn - (intOf i).toNat)
 case atStart => exact ⟨0, _, 0, [], Nat.zero_le _, rfl, rfl, (by simp [Hid]), O1, L1⟩
 obtain ⟨m, s8, c8, R8, hm, rfl, rfl, hR8, hO8, hb8⟩ := hrel
 have l8 : Hid (R8.length = m) := by show _ = _; rw [hR8.out]; simp
 by_cases hlt : m < kn
 ·
  skip
  have hb3 : Below w.heap.size w (wr.alloc (.cells #[.int .i64 8] 3)) := bl_alloc hb8.out _
  have hO2 : Hid (OI (wr.alloc (.cells #[.int .i64 8] 3)) w.heap.size (.slice s8 R8.length c8) R8) := hO8.out.later (bl_alloc (Below.refl _ _) _)
  have E5 : Hid (Els 1 cInt (wr.alloc (.cells #[.int .i64 8] 3)) wr.heap.size (some ⟨wr.heap.size, 0, none⟩) [8]) := Els.one (Blk.new wr #[.int .i64 8] 3)
  obtain ⟨R2, hR2⟩ : ∃ R2, Hid (R8 ++ [8] = R2) := ⟨_, (rfl : R8 ++ [8] = _)⟩
  have HS : Hid (R2 = List.replicate (m + 1) 8) := by show R2 = _; rw [← hR2.out, hR8.out, rep_succ]
  have l8' : R8.length ≤ 1048576 := by have := l8.out; omega
  have ltI : (m : Int) < (kn : Int) := by omega
  clear hR8 hO8; go_wp2_with (at_builtin; refine wpList_append_ints rfl _ _ rfl w.heap.size s8 c8 R8 rfl hO2.out wr.heap.size _ 1 [8] rfl E5.out R2 hR2.out (by simp; omega) hb3.size ?_; intro s' c' w4 hO4 hg4 hn4)
  have hO4 : Hid (OI w4 w.heap.size (.slice s' R2.length c') R2) := hO4
  have hb4 : Hid (Below w.heap.size w w4) := grown_oi hb3 hb3.size hO2.out hg4
  clear hg4 hn4 hO2 E5 hb3; go_wp2_with fail; go_roundw
  case rel => exact ⟨m + 1, s', c', R2, by omega, by go_num, rfl, HS, hO4, hb4⟩
  case measure => simp [intOf]; omega
 have HS : Hid (R8 = shp 21 kn) := by show R8 = _; rw [hR8.out, show m = kn by omega]; rfl
 clear hR8; have hd : ((R8.length : Int) == (kn : Int)) = decide ((shp 21 kn).length = kn) := by rw [← HS.out]; by_cases h : R8.length = kn <;> simp [h] <;> omega
 go_wp2_with fail; go_ret2
 refine ⟨⟨s8, c8, ?_, ?_⟩, hb8.out⟩
 ·
  rw [← HS.out]; rfl
 rw [← HS.out]; exact hO8.out.els.drop cInt_drops (by first | exact Nat.le_refl _ | omega)
set_option maxRecDepth 100000 in
set_option maxHeartbeats 4000000 in
theorem shape_27 (t : ByteArray) (q : Int) (s : Option Addr) (kn c : Nat) (hk : kn ≤ 1048576) (w : World) :
  Calls Tryz.prog 48 #[.agg #[.int .i64 27, .string t, .int .i64 q, .slice s kn c]] w fun e w' => ShapeSays w 27 kn e w' := by
 have hal := alloc_old
 have haf := alloc_oldf
 have k0 := Blk.new w #[.int .i64 27, .string t, .int .i64 q, .slice s kn c] 66
 have L0 := bl_alloc (Below.refl _ w) (.cells #[.int .i64 27, .string t, .int .i64 q, .slice s kn c] 66)
 obtain ⟨x0, x1, x2, x3, x4⟩ := k0.four'
 have O0 := OI.empty (Blk.new (w.alloc (.cells #[.int .i64 27, .string t, .int .i64 q, .slice s kn c] 66)) #[] 3)
 have L1 := bl_alloc L0 (.cells #[] 3)
 have O1 := O0.mono (B' := w.heap.size) (by simp)
 rw [show (w.alloc (.cells #[.int .i64 27, .string t, .int .i64 q, .slice s kn c] 66)).heap.size = w.heap.size + 1 by simp] at O1
 clear O0; go_enter Tryz.func48, Tryz.ntmps48
 go_wp2_with fail; clear x0 x1 x2 x3 x4 k0 L0; generalize hX : (w.alloc (.cells #[.int .i64 27, .string t, .int .i64 q, .slice s kn c] 66)).alloc (.cells #[] 3) = X at O1 L1 ⊢
 clear hX; go_loopw [5, 7] (fun v i wr => ∃ (m : Nat) (s8 : Option Addr) (c8 : Nat) (R8 : List Int), m ≤ kn ∧ i = .int .i64 m ∧ v = .slice s8 R8.length c8 ∧ Hid (R8 = List.replicate m 2) ∧ Hid (OI wr w.heap.size (.slice s8 R8.length c8) R8) ∧ Hid (Below w.heap.size w wr)) (fun _ i _ => kn - (intOf i).toNat)
 case atStart => exact ⟨0, _, 0, [], Nat.zero_le _, rfl, rfl, (by simp [Hid]), O1, L1⟩
 obtain ⟨m, s8, c8, R8, hm, rfl, rfl, hR8, hO8, hb8⟩ := hrel
 have l8 : Hid (R8.length = m) := by show _ = _; rw [hR8.out]; simp
 by_cases hlt : m < kn
 ·
  skip
  have hb3 : Below w.heap.size w (wr.alloc (.cells #[.int .i64 2] 3)) := bl_alloc hb8.out _
  have hO2 : Hid (OI (wr.alloc (.cells #[.int .i64 2] 3)) w.heap.size (.slice s8 R8.length c8) R8) := hO8.out.later (bl_alloc (Below.refl _ _) _)
  have E5 : Hid (Els 1 cInt (wr.alloc (.cells #[.int .i64 2] 3)) wr.heap.size (some ⟨wr.heap.size, 0, none⟩) [2]) := Els.one (Blk.new wr #[.int .i64 2] 3)
  obtain ⟨R2, hR2⟩ : ∃ R2, Hid (R8 ++ [2] = R2) := ⟨_, (rfl : R8 ++ [2] = _)⟩
  have HS : Hid (R2 = List.replicate (m + 1) 2) := by show R2 = _; rw [← hR2.out, hR8.out, rep_succ]
  have l8' : R8.length ≤ 1048576 := by have := l8.out; omega
  have ltI : (m : Int) < (kn : Int) := by omega
  clear hR8 hO8; go_wp2_with (at_builtin; refine wpList_append_ints rfl _ _ rfl w.heap.size s8 c8 R8 rfl hO2.out wr.heap.size _ 1 [2] rfl E5.out R2 hR2.out (by simp; omega) hb3.size ?_; intro s' c' w4 hO4 hg4 hn4)
  have hO4 : Hid (OI w4 w.heap.size (.slice s' R2.length c') R2) := hO4
  have hb4 : Hid (Below w.heap.size w w4) := grown_oi hb3 hb3.size hO2.out hg4
  clear hg4 hn4 hO2 E5 hb3; go_wp2_with fail; go_roundw
  case rel => exact ⟨m + 1, s', c', R2, by omega, by go_num, rfl, HS, hO4, hb4⟩
  case measure => simp [intOf]; omega
 have HS : Hid (R8 = shp 27 kn) := by show R8 = _; rw [hR8.out, show m = kn by omega]; rfl
 clear hR8; have hd : ((R8.length : Int) == (kn : Int)) = decide ((shp 27 kn).length = kn) := by rw [← HS.out]; by_cases h : R8.length = kn <;> simp [h] <;> omega
 go_wp2_with fail; go_ret2
 refine ⟨⟨s8, c8, ?_, ?_⟩, hb8.out⟩
 ·
  rw [← HS.out]; rfl
 rw [← HS.out]; exact hO8.out.els.drop cInt_drops (by first | exact Nat.le_refl _ | omega)
set_option maxRecDepth 100000 in
set_option maxHeartbeats 4000000 in
theorem shape_30 (t : ByteArray) (q : Int) (s : Option Addr) (kn c : Nat) (hk : kn ≤ 1048576) (w : World) :
  Calls Tryz.prog 48 #[.agg #[.int .i64 30, .string t, .int .i64 q, .slice s kn c]] w fun e w' => ShapeSays w 30 kn e w' := by
 have hal := alloc_old
 have haf := alloc_oldf
 have k0 := Blk.new w #[.int .i64 30, .string t, .int .i64 q, .slice s kn c] 66
 have L0 := bl_alloc (Below.refl _ w) (.cells #[.int .i64 30, .string t, .int .i64 q, .slice s kn c] 66)
 obtain ⟨x0, x1, x2, x3, x4⟩ := k0.four'
 have O0 := OI.empty (Blk.new (w.alloc (.cells #[.int .i64 30, .string t, .int .i64 q, .slice s kn c] 66)) #[] 3)
 have L1 := bl_alloc L0 (.cells #[] 3)
 have O1 := O0.mono (B' := w.heap.size) (by simp)
 rw [show (w.alloc (.cells #[.int .i64 30, .string t, .int .i64 q, .slice s kn c] 66)).heap.size = w.heap.size + 1 by simp] at O1
 clear O0; go_enter Tryz.func48, Tryz.ntmps48
 go_wp2_with fail; clear x0 x1 x2 x3 x4 k0 L0; generalize hX : (w.alloc (.cells #[.int .i64 30, .string t, .int .i64 q, .slice s kn c] 66)).alloc (.cells #[] 3) = X at O1 L1 ⊢
 clear hX; go_loopw [5, 7] (fun v i wr => ∃ (m : Nat) (s8 : Option Addr) (c8 : Nat) (R8 : List Int), m ≤ kn ∧ i = .int .i64 m ∧ v = .slice s8 R8.length c8 ∧ Hid (R8 = List.replicate m 6) ∧ Hid (OI wr w.heap.size (.slice s8 R8.length c8) R8) ∧ Hid (Below w.heap.size w wr)) (fun _ i _ => kn - (intOf i).toNat)
 case atStart => exact ⟨0, _, 0, [], Nat.zero_le _, rfl, rfl, (by simp [Hid]), O1, L1⟩
 obtain ⟨m, s8, c8, R8, hm, rfl, rfl, hR8, hO8, hb8⟩ := hrel
 have l8 : Hid (R8.length = m) := by show _ = _; rw [hR8.out]; simp
 by_cases hlt : m < kn
 ·
  skip
  have hb3 : Below w.heap.size w (wr.alloc (.cells #[.int .i64 6] 3)) := bl_alloc hb8.out _
  have hO2 : Hid (OI (wr.alloc (.cells #[.int .i64 6] 3)) w.heap.size (.slice s8 R8.length c8) R8) := hO8.out.later (bl_alloc (Below.refl _ _) _)
  have E5 : Hid (Els 1 cInt (wr.alloc (.cells #[.int .i64 6] 3)) wr.heap.size (some ⟨wr.heap.size, 0, none⟩) [6]) := Els.one (Blk.new wr #[.int .i64 6] 3)
  obtain ⟨R2, hR2⟩ : ∃ R2, Hid (R8 ++ [6] = R2) := ⟨_, (rfl : R8 ++ [6] = _)⟩
  have HS : Hid (R2 = List.replicate (m + 1) 6) := by show R2 = _; rw [← hR2.out, hR8.out, rep_succ]
  have l8' : R8.length ≤ 1048576 := by have := l8.out; omega
  have ltI : (m : Int) < (kn : Int) := by omega
  clear hR8 hO8; go_wp2_with (at_builtin; refine wpList_append_ints rfl _ _ rfl w.heap.size s8 c8 R8 rfl hO2.out wr.heap.size _ 1 [6] rfl E5.out R2 hR2.out (by simp; omega) hb3.size ?_; intro s' c' w4 hO4 hg4 hn4)
  have hO4 : Hid (OI w4 w.heap.size (.slice s' R2.length c') R2) := hO4
  have hb4 : Hid (Below w.heap.size w w4) := grown_oi hb3 hb3.size hO2.out hg4
  clear hg4 hn4 hO2 E5 hb3; go_wp2_with fail; go_roundw
  case rel => exact ⟨m + 1, s', c', R2, by omega, by go_num, rfl, HS, hO4, hb4⟩
  case measure => simp [intOf]; omega
 have HS : Hid (R8 = shp 30 kn) := by show R8 = _; rw [hR8.out, show m = kn by omega]; rfl
 clear hR8; have hd : ((R8.length : Int) == (kn : Int)) = decide ((shp 30 kn).length = kn) := by rw [← HS.out]; by_cases h : R8.length = kn <;> simp [h] <;> omega
 go_wp2_with fail; go_ret2
 refine ⟨⟨s8, c8, ?_, ?_⟩, hb8.out⟩
 ·
  rw [← HS.out]; rfl
 rw [← HS.out]; exact hO8.out.els.drop cInt_drops (by first | exact Nat.le_refl _ | omega)
set_option maxRecDepth 100000 in
set_option maxHeartbeats 4000000 in
theorem shape_11 (t : ByteArray) (q : Int) (s : Option Addr) (kn c : Nat) (hk : kn ≤ 1048576) (w : World) :
  Calls Tryz.prog 48 #[.agg #[.int .i64 11, .string t, .int .i64 q, .slice s kn c]] w fun e w' => ShapeSays w 11 kn e w' := by
 have hal := alloc_old
 have haf := alloc_oldf
 have k0 := Blk.new w #[.int .i64 11, .string t, .int .i64 q, .slice s kn c] 66
 have L0 := bl_alloc (Below.refl _ w) (.cells #[.int .i64 11, .string t, .int .i64 q, .slice s kn c] 66)
 obtain ⟨x0, x1, x2, x3, x4⟩ := k0.four'
 have O1 : OI (((w.alloc (.cells #[.int .i64 11, .string t, .int .i64 q, .slice s kn c] 66)).alloc (.cells #[] 3)).alloc (.cells #[.int .i64 1, .int .i64 6] 3)) w.heap.size (.slice (some ⟨w.heap.size + 2, 0, none⟩) 2 2) [1, 6] := (OI.ofBlk [1, 6] (by simp) (Blk.new' _ #[.int .i64 1, .int .i64 6] 3 (by simp))).mono (by omega)
 have L1 : Below w.heap.size w (((w.alloc (.cells #[.int .i64 11, .string t, .int .i64 q, .slice s kn c] 66)).alloc (.cells #[] 3)).alloc (.cells #[.int .i64 1, .int .i64 6] 3)) := bl_alloc (bl_alloc L0 _) _
 go_enter Tryz.func48, Tryz.ntmps48
 go_wp2_with fail; clear x0 x1 x2 x3 x4 k0 L0; generalize hX : ((w.alloc (.cells #[.int .i64 11, .string t, .int .i64 q, .slice s kn c] 66)).alloc (.cells #[] 3)).alloc (.cells #[.int .i64 1, .int .i64 6] 3) = X at O1 L1 ⊢
 clear hX; go_loopw [5] (fun v wr => ∃ (m : Nat) (s8 : Option Addr) (c8 : Nat) (R8 : List Int), m ≤ kn - 2 ∧ v = .slice s8 R8.length c8 ∧ Hid (R8 = [1, 6] ++ List.replicate m 6) ∧ Hid (OI wr w.heap.size (.slice s8 R8.length c8) R8) ∧ Hid (Below w.heap.size w wr)) (fun v _ => match v with | .slice _ n _ => kn - n | _ => 0)
 case atStart => exact ⟨0, _, 2, [1, 6], Nat.zero_le _, rfl, (by simp [Hid]), O1, L1⟩
 obtain ⟨m, s8, c8, R8, hm, rfl, hR8, hO8, hb8⟩ := hrel
 have l8 : Hid (R8.length = 2 + m) := by show _ = _; rw [hR8.out]; simp <;> omega
 by_cases hlt : R8.length < kn
 ·
  skip
  have hb3 : Below w.heap.size w (wr.alloc (.cells #[.int .i64 6] 3)) := bl_alloc hb8.out _
  have hO2 : Hid (OI (wr.alloc (.cells #[.int .i64 6] 3)) w.heap.size (.slice s8 R8.length c8) R8) := hO8.out.later (bl_alloc (Below.refl _ _) _)
  have E5 : Hid (Els 1 cInt (wr.alloc (.cells #[.int .i64 6] 3)) wr.heap.size (some ⟨wr.heap.size, 0, none⟩) [6]) := Els.one (Blk.new wr #[.int .i64 6] 3)
  obtain ⟨R2, hR2⟩ : ∃ R2, Hid (R8 ++ [6] = R2) := ⟨_, (rfl : R8 ++ [6] = _)⟩
  have HS : Hid (R2 = [1, 6] ++ List.replicate (m + 1) 6) := by show R2 = _; rw [← hR2.out, hR8.out, rep_succ, List.append_assoc]
  have hl2 : Hid (R2.length = R8.length + 1) := by show _ = _; rw [← hR2.out]; simp
  have l8' : R8.length ≤ 1048576 := by have := l8.out; omega
  have ltI : (R8.length : Int) < (kn : Int) := by omega
  clear hR8 hO8; go_wp2_with (at_builtin; refine wpList_append_ints rfl _ _ rfl w.heap.size s8 c8 R8 rfl hO2.out wr.heap.size _ 1 [6] rfl E5.out R2 hR2.out (by simp; omega) hb3.size ?_; intro s' c' w4 hO4 hg4 hn4)
  have hO4 : Hid (OI w4 w.heap.size (.slice s' R2.length c') R2) := hO4
  have hb4 : Hid (Below w.heap.size w w4) := grown_oi hb3 hb3.size hO2.out hg4
  clear hg4 hn4 hO2 E5 hb3; go_wp2_with fail; go_roundw
  case rel => exact ⟨m + 1, s', c', R2, by have := l8.out; omega, rfl, HS, hO4, hb4⟩
  case measure => have := hl2.out; simp only; omega
 have HS : Hid (R8 = shp 11 kn) := by show R8 = _; rw [hR8.out, show m = kn - 2 by have := l8.out; omega]; rfl
 have ltI : ¬ (R8.length : Int) < (kn : Int) := by omega
 clear hR8; have hd : ((R8.length : Int) == (kn : Int)) = decide ((shp 11 kn).length = kn) := by rw [← HS.out]; by_cases h : R8.length = kn <;> simp [h] <;> omega
 go_wp2_with fail; go_ret2
 refine ⟨⟨s8, c8, ?_, ?_⟩, hb8.out⟩
 ·
  rw [← HS.out]; rfl
 rw [← HS.out]; exact hO8.out.els.drop cInt_drops (by first | exact Nat.le_refl _ | omega)
set_option maxRecDepth 100000 in
set_option maxHeartbeats 4000000 in
theorem shape_29 (t : ByteArray) (q : Int) (s : Option Addr) (kn c : Nat) (hk : kn ≤ 1048576) (w : World) :
  Calls Tryz.prog 48 #[.agg #[.int .i64 29, .string t, .int .i64 q, .slice s kn c]] w fun e w' => ShapeSays w 29 kn e w' := by
 have hal := alloc_old
 have haf := alloc_oldf
 have k0 := Blk.new w #[.int .i64 29, .string t, .int .i64 q, .slice s kn c] 66
 have L0 := bl_alloc (Below.refl _ w) (.cells #[.int .i64 29, .string t, .int .i64 q, .slice s kn c] 66)
 obtain ⟨x0, x1, x2, x3, x4⟩ := k0.four'
 have O1 : OI (((w.alloc (.cells #[.int .i64 29, .string t, .int .i64 q, .slice s kn c] 66)).alloc (.cells #[] 3)).alloc (.cells #[.int .i64 6] 3)) w.heap.size (.slice (some ⟨w.heap.size + 2, 0, none⟩) 1 1) [6] := (OI.ofBlk [6] (by simp) (Blk.new' _ #[.int .i64 6] 3 (by simp))).mono (by omega)
 have L1 : Below w.heap.size w (((w.alloc (.cells #[.int .i64 29, .string t, .int .i64 q, .slice s kn c] 66)).alloc (.cells #[] 3)).alloc (.cells #[.int .i64 6] 3)) := bl_alloc (bl_alloc L0 _) _
 go_enter Tryz.func48, Tryz.ntmps48
 go_wp2_with fail; clear x0 x1 x2 x3 x4 k0 L0; generalize hX : ((w.alloc (.cells #[.int .i64 29, .string t, .int .i64 q, .slice s kn c] 66)).alloc (.cells #[] 3)).alloc (.cells #[.int .i64 6] 3) = X at O1 L1 ⊢
 clear hX; go_loopw [5] (fun v wr => ∃ (m : Nat) (s8 : Option Addr) (c8 : Nat) (R8 : List Int), m ≤ kn - 1 ∧ v = .slice s8 R8.length c8 ∧ Hid (R8 = [6] ++ List.replicate m 6) ∧ Hid (OI wr w.heap.size (.slice s8 R8.length c8) R8) ∧ Hid (Below w.heap.size w wr)) (fun v _ => match v with | .slice _ n _ => kn - n | _ => 0)
 case atStart => exact ⟨0, _, 1, [6], Nat.zero_le _, rfl, (by simp [Hid]), O1, L1⟩
 obtain ⟨m, s8, c8, R8, hm, rfl, hR8, hO8, hb8⟩ := hrel
 have l8 : Hid (R8.length = 1 + m) := by show _ = _; rw [hR8.out]; simp <;> omega
 by_cases hlt : R8.length < kn
 ·
  skip
  have hb3 : Below w.heap.size w (wr.alloc (.cells #[.int .i64 6] 3)) := bl_alloc hb8.out _
  have hO2 : Hid (OI (wr.alloc (.cells #[.int .i64 6] 3)) w.heap.size (.slice s8 R8.length c8) R8) := hO8.out.later (bl_alloc (Below.refl _ _) _)
  have E5 : Hid (Els 1 cInt (wr.alloc (.cells #[.int .i64 6] 3)) wr.heap.size (some ⟨wr.heap.size, 0, none⟩) [6]) := Els.one (Blk.new wr #[.int .i64 6] 3)
  obtain ⟨R2, hR2⟩ : ∃ R2, Hid (R8 ++ [6] = R2) := ⟨_, (rfl : R8 ++ [6] = _)⟩
  have HS : Hid (R2 = [6] ++ List.replicate (m + 1) 6) := by show R2 = _; rw [← hR2.out, hR8.out, rep_succ, List.append_assoc]
  have hl2 : Hid (R2.length = R8.length + 1) := by show _ = _; rw [← hR2.out]; simp
  have l8' : R8.length ≤ 1048576 := by have := l8.out; omega
  have ltI : (R8.length : Int) < (kn : Int) := by omega
  clear hR8 hO8; go_wp2_with (at_builtin; refine wpList_append_ints rfl _ _ rfl w.heap.size s8 c8 R8 rfl hO2.out wr.heap.size _ 1 [6] rfl E5.out R2 hR2.out (by simp; omega) hb3.size ?_; intro s' c' w4 hO4 hg4 hn4)
  have hO4 : Hid (OI w4 w.heap.size (.slice s' R2.length c') R2) := hO4
  have hb4 : Hid (Below w.heap.size w w4) := grown_oi hb3 hb3.size hO2.out hg4
  clear hg4 hn4 hO2 E5 hb3; go_wp2_with fail; go_roundw
  case rel => exact ⟨m + 1, s', c', R2, by have := l8.out; omega, rfl, HS, hO4, hb4⟩
  case measure => have := hl2.out; simp only; omega
 have HS : Hid (R8 = shp 29 kn) := by show R8 = _; rw [hR8.out, show m = kn - 1 by have := l8.out; omega]; rfl
 have ltI : ¬ (R8.length : Int) < (kn : Int) := by omega
 clear hR8; have hd : ((R8.length : Int) == (kn : Int)) = decide ((shp 29 kn).length = kn) := by rw [← HS.out]; by_cases h : R8.length = kn <;> simp [h] <;> omega
 go_wp2_with fail; go_ret2
 refine ⟨⟨s8, c8, ?_, ?_⟩, hb8.out⟩
 ·
  rw [← HS.out]; rfl
 rw [← HS.out]; exact hO8.out.els.drop cInt_drops (by first | exact Nat.le_refl _ | omega)
set_option maxRecDepth 100000 in
set_option maxHeartbeats 4000000 in
theorem shape_33 (t : ByteArray) (q : Int) (s : Option Addr) (kn c : Nat) (hk : kn ≤ 1048576) (w : World) :
  Calls Tryz.prog 48 #[.agg #[.int .i64 33, .string t, .int .i64 q, .slice s kn c]] w fun e w' => ShapeSays w 33 kn e w' := by
 have hal := alloc_old
 have haf := alloc_oldf
 have k0 := Blk.new w #[.int .i64 33, .string t, .int .i64 q, .slice s kn c] 66
 have L0 := bl_alloc (Below.refl _ w) (.cells #[.int .i64 33, .string t, .int .i64 q, .slice s kn c] 66)
 obtain ⟨x0, x1, x2, x3, x4⟩ := k0.four'
 have O1 : OI ((w.alloc (.cells #[.int .i64 33, .string t, .int .i64 q, .slice s kn c] 66)).alloc (.cells #[] 3)) w.heap.size (.slice (some ⟨w.heap.size + 1, 0, none⟩) 0 0) [] := (OI.empty (Blk.new' _ #[] 3 (by simp))).mono (by omega)
 have L1 : Below w.heap.size w ((w.alloc (.cells #[.int .i64 33, .string t, .int .i64 q, .slice s kn c] 66)).alloc (.cells #[] 3)) := bl_alloc L0 _
 go_enter Tryz.func48, Tryz.ntmps48
 go_wp2_with fail; clear x0 x1 x2 x3 x4 k0 L0; generalize hX : (w.alloc (.cells #[.int .i64 33, .string t, .int .i64 q, .slice s kn c] 66)).alloc (.cells #[] 3) = X at O1 L1 ⊢
 clear hX; go_loopw [5] (fun v wr => ∃ (m : Nat) (s8 : Option Addr) (c8 : Nat) (R8 : List Int), m ≤ kn - 1 ∧ v = .slice s8 R8.length c8 ∧ Hid (R8 = [] ++ List.replicate m 7) ∧ Hid (OI wr w.heap.size (.slice s8 R8.length c8) R8) ∧ Hid (Below w.heap.size w wr)) (fun v _ => match v with | .slice _ n _ => kn - n | _ => 0)
 case atStart => exact ⟨0, _, 0, [], Nat.zero_le _, rfl, (by simp [Hid]), O1, L1⟩
 obtain ⟨m, s8, c8, R8, hm, rfl, hR8, hO8, hb8⟩ := hrel
 have l8 : Hid (R8.length = 0 + m) := by show _ = _; rw [hR8.out]; simp <;> omega
 by_cases hlt : R8.length + 1 < kn
 ·
  skip
  have hb3 : Below w.heap.size w (wr.alloc (.cells #[.int .i64 7] 3)) := bl_alloc hb8.out _
  have hO2 : Hid (OI (wr.alloc (.cells #[.int .i64 7] 3)) w.heap.size (.slice s8 R8.length c8) R8) := hO8.out.later (bl_alloc (Below.refl _ _) _)
  have E5 : Hid (Els 1 cInt (wr.alloc (.cells #[.int .i64 7] 3)) wr.heap.size (some ⟨wr.heap.size, 0, none⟩) [7]) := Els.one (Blk.new wr #[.int .i64 7] 3)
  obtain ⟨R2, hR2⟩ : ∃ R2, Hid (R8 ++ [7] = R2) := ⟨_, (rfl : R8 ++ [7] = _)⟩
  have HS : Hid (R2 = [] ++ List.replicate (m + 1) 7) := by show R2 = _; rw [← hR2.out, hR8.out, rep_succ, List.append_assoc]
  have hl2 : Hid (R2.length = R8.length + 1) := by show _ = _; rw [← hR2.out]; simp
  have l8' : R8.length ≤ 1048576 := by have := l8.out; omega
  have ltI : (R8.length : Int) + 1 < (kn : Int) := by omega
  clear hR8 hO8; go_wp2_with (at_builtin; refine wpList_append_ints rfl _ _ rfl w.heap.size s8 c8 R8 rfl hO2.out wr.heap.size _ 1 [7] rfl E5.out R2 hR2.out (by simp; omega) hb3.size ?_; intro s' c' w4 hO4 hg4 hn4)
  have hO4 : Hid (OI w4 w.heap.size (.slice s' R2.length c') R2) := hO4
  have hb4 : Hid (Below w.heap.size w w4) := grown_oi hb3 hb3.size hO2.out hg4
  clear hg4 hn4 hO2 E5 hb3; go_wp2_with fail; go_roundw
  case rel => exact ⟨m + 1, s', c', R2, by have := l8.out; omega, rfl, HS, hO4, hb4⟩
  case measure => have := hl2.out; simp only; omega
 have HS0 : Hid (R8 = List.replicate (kn - 1) 7) := by show R8 = _; rw [hR8.out, show m = kn - 1 by have := l8.out; omega]; rfl
 have ltI : ¬ (R8.length : Int) + 1 < (kn : Int) := by omega
 have l8' : R8.length ≤ 1048576 := by have := l8.out; omega
 have hb3 : Below w.heap.size w (wr.alloc (.cells #[.int .i64 3] 3)) := bl_alloc hb8.out _
 have hO2 : Hid (OI (wr.alloc (.cells #[.int .i64 3] 3)) w.heap.size (.slice s8 R8.length c8) R8) := hO8.out.later (bl_alloc (Below.refl _ _) _)
 have E5 : Hid (Els 1 cInt (wr.alloc (.cells #[.int .i64 3] 3)) wr.heap.size (some ⟨wr.heap.size, 0, none⟩) [3]) := Els.one (Blk.new wr #[.int .i64 3] 3)
 obtain ⟨R2, hR2⟩ : ∃ R2, Hid (R8 ++ [3] = R2) := ⟨_, (rfl : R8 ++ [3] = _)⟩
 have hdn : ∀ n : Nat, ((n : Int) == (kn : Int)) = decide (n = kn) := fun n => by by_cases h : n = kn <;> simp [h] <;> omega
 have HS : Hid (R2 = shp 33 kn) := by show R2 = _; rw [← hR2.out, HS0.out]; rfl
 clear hR8 hO8; go_wp2_with (at_builtin; refine wpList_append_ints rfl _ _ rfl w.heap.size s8 c8 R8 rfl hO2.out wr.heap.size _ 1 [3] rfl E5.out R2 hR2.out (by simp; omega) hb3.size ?_; intro s' c' w4 hO4 hg4 hn4)
 have hO4 : Hid (OI w4 w.heap.size (.slice s' R2.length c') R2) := hO4
 have hb4 : Hid (Below w.heap.size w w4) := grown_oi hb3 hb3.size hO2.out hg4
 clear hg4 hn4 hO2 E5 hb3; have hd : ((R2.length : Int) == (kn : Int)) = decide ((shp 33 kn).length = kn) := by rw [← HS.out]; by_cases h : R2.length = kn <;> simp [h] <;> omega
 go_wp2_with fail; go_ret2
 refine ⟨⟨s', c', ?_, ?_⟩, hb4.out⟩
 ·
  rw [← HS.out]; rfl
 rw [← HS.out]; exact hO4.out.els.drop cInt_drops (by first | exact Nat.le_refl _ | omega)
set_option maxRecDepth 100000 in
set_option maxHeartbeats 4000000 in
theorem shape_16 (t : ByteArray) (q : Int) (s : Option Addr) (kn c : Nat) (hk : kn ≤ 1048576) (w : World) :
  Calls Tryz.prog 48 #[.agg #[.int .i64 16, .string t, .int .i64 q, .slice s kn c]] w fun e w' => ShapeSays w 16 kn e w' := by
 have hal := alloc_old
 have haf := alloc_oldf
 have k0 := Blk.new w #[.int .i64 16, .string t, .int .i64 q, .slice s kn c] 66
 have L0 := bl_alloc (Below.refl _ w) (.cells #[.int .i64 16, .string t, .int .i64 q, .slice s kn c] 66)
 obtain ⟨x0, x1, x2, x3, x4⟩ := k0.four'
 by_cases h3 : kn = 3
 ·
  subst h3
  have HE : Hid (Els 1 cInt ((((w.alloc (.cells #[.int .i64 16, .string t, .int .i64 q, .slice s 3 c] 66)).alloc (.cells #[] 3)).alloc (.cells #[.int .i64 1, .int .i64 3] 3)).alloc (.cells #[.int .i64 1, .int .i64 3, .int .i64 3] 3)) w.heap.size (some ⟨w.heap.size + 3, 0, none⟩) [1, 3, 3]) := Els.few [1, 3, 3] (by simp) (by omega) (Blk.new' _ #[.int .i64 1, .int .i64 3, .int .i64 3] 3 (by simp))
  have HB : Hid (Below w.heap.size w ((((w.alloc (.cells #[.int .i64 16, .string t, .int .i64 q, .slice s 3 c] 66)).alloc (.cells #[] 3)).alloc (.cells #[.int .i64 1, .int .i64 3] 3)).alloc (.cells #[.int .i64 1, .int .i64 3, .int .i64 3] 3))) := bl_alloc (bl_alloc (bl_alloc L0 _) _) _
  go_enter Tryz.func48, Tryz.ntmps48
  go_wp2_with fail; go_ret2
  exact ⟨⟨some ⟨w.heap.size + 3, 0, none⟩, 3, rfl, HE.out⟩, HB.out⟩
 have HS : Hid (shp 16 kn = [1, 3]) := by show _ = _; unfold shp; simp [h3]
 have HE : Hid (Els 1 cInt (((w.alloc (.cells #[.int .i64 16, .string t, .int .i64 q, .slice s kn c] 66)).alloc (.cells #[] 3)).alloc (.cells #[.int .i64 1, .int .i64 3] 3)) w.heap.size (some ⟨w.heap.size + 2, 0, none⟩) [1, 3]) := Els.few [1, 3] (by simp) (by omega) (Blk.new' _ #[.int .i64 1, .int .i64 3] 3 (by simp))
 have HB : Hid (Below w.heap.size w (((w.alloc (.cells #[.int .i64 16, .string t, .int .i64 q, .slice s kn c] 66)).alloc (.cells #[] 3)).alloc (.cells #[.int .i64 1, .int .i64 3] 3))) := bl_alloc (bl_alloc L0 _) _
 have hg : IntKind.i64.wrap (kn : Int) = kn := by rw [IntKind.wrap_i64]; omega
 have h3' : ((kn : Int) == 3) = false := by simp; omega
 have hd : ((2 : Int) == (kn : Int)) = decide (2 = kn) := by by_cases h : 2 = kn <;> simp [h] <;> omega
 clear h3; go_enter Tryz.func48, Tryz.ntmps48
 go_wp2_with fail; go_ret2
 refine ⟨⟨some ⟨w.heap.size + 2, 0, none⟩, 2, ?_, ?_⟩, HB.out⟩
 ·
  rw [HS.out]; rfl
 rw [HS.out]; exact HE.out
set_option maxRecDepth 100000 in
set_option maxHeartbeats 4000000 in
theorem shape_none (k : Int) (hn : k < 1 ∨ 34 < k) (t : ByteArray) (q : Int) (s : Option Addr) (kn c : Nat) (hk : kn ≤ 1048576) (w : World) :
  Calls Tryz.prog 48 #[.agg #[.int .i64 k, .string t, .int .i64 q, .slice s kn c]] w fun e w' => ShapeSays w k kn e w' := by
 have hal := alloc_old
 have haf := alloc_oldf
 have k0 := Blk.new w #[.int .i64 k, .string t, .int .i64 q, .slice s kn c] 66
 have L0 := bl_alloc (Below.refl _ w) (.cells #[.int .i64 k, .string t, .int .i64 q, .slice s kn c] 66)
 obtain ⟨x0, x1, x2, x3, x4⟩ := k0.four'
 have HS : Hid (shp k kn = []) := shp_none hn kn
 have HE : Hid (Els 1 cInt ((w.alloc (.cells #[.int .i64 k, .string t, .int .i64 q, .slice s kn c] 66)).alloc (.cells #[] 3)) w.heap.size (some ⟨w.heap.size + 1, 0, none⟩) (shp k kn)) := by rw [HS.out]; exact Or.inl rfl
 have HB : Hid (Below w.heap.size w ((w.alloc (.cells #[.int .i64 k, .string t, .int .i64 q, .slice s kn c] 66)).alloc (.cells #[] 3))) := bl_alloc L0 _
 have hg : IntKind.i64.wrap (kn : Int) = kn := by rw [IntKind.wrap_i64]; omega
 have hd : ((0 : Int) == (kn : Int)) = decide (0 = kn) := by by_cases h : 0 = kn <;> simp [h] <;> omega
 have e1 := (noKind hn).ne 1 (by omega) (by omega)
 have e2 := (noKind hn).ne 2 (by omega) (by omega)
 have e3 := (noKind hn).ne 3 (by omega) (by omega)
 have e4 := (noKind hn).ne 4 (by omega) (by omega)
 have e5 := (noKind hn).ne 5 (by omega) (by omega)
 have e6 := (noKind hn).ne 6 (by omega) (by omega)
 have e7 := (noKind hn).ne 7 (by omega) (by omega)
 have e8 := (noKind hn).ne 8 (by omega) (by omega)
 have e9 := (noKind hn).ne 9 (by omega) (by omega)
 have e10 := (noKind hn).ne 10 (by omega) (by omega)
 have e11 := (noKind hn).ne 11 (by omega) (by omega)
 have e12 := (noKind hn).ne 12 (by omega) (by omega)
 have e13 := (noKind hn).ne 13 (by omega) (by omega)
 have e14 := (noKind hn).ne 14 (by omega) (by omega)
 have e15 := (noKind hn).ne 15 (by omega) (by omega)
 have e16 := (noKind hn).ne 16 (by omega) (by omega)
 have e17 := (noKind hn).ne 17 (by omega) (by omega)
 have e18 := (noKind hn).ne 18 (by omega) (by omega)
 have e19 := (noKind hn).ne 19 (by omega) (by omega)
 have e20 := (noKind hn).ne 20 (by omega) (by omega)
 have e21 := (noKind hn).ne 21 (by omega) (by omega)
 have e22 := (noKind hn).ne 22 (by omega) (by omega)
 have e23 := (noKind hn).ne 23 (by omega) (by omega)
 have e24 := (noKind hn).ne 24 (by omega) (by omega)
 have e25 := (noKind hn).ne 25 (by omega) (by omega)
 have e26 := (noKind hn).ne 26 (by omega) (by omega)
 have e27 := (noKind hn).ne 27 (by omega) (by omega)
 have e28 := (noKind hn).ne 28 (by omega) (by omega)
 have e29 := (noKind hn).ne 29 (by omega) (by omega)
 have e30 := (noKind hn).ne 30 (by omega) (by omega)
 have e31 := (noKind hn).ne 31 (by omega) (by omega)
 have e32 := (noKind hn).ne 32 (by omega) (by omega)
 have e33 := (noKind hn).ne 33 (by omega) (by omega)
 have e34 := (noKind hn).ne 34 (by omega) (by omega)
 clear hn; go_enter Tryz.func48, Tryz.ntmps48
 go_wp2_with fail; go_ret2
 refine ⟨⟨some ⟨w.heap.size + 1, 0, none⟩, 0, ?_, HE.out⟩, HB.out⟩
 rw [HS.out]; rfl
theorem l8Shape_any (k : Int) (t : ByteArray) (q : Int) (s : Option Addr) (kn c : Nat) (hk : kn ≤ 1048576) (w : World) :
  Calls Tryz.prog 48 #[.agg #[.int .i64 k, .string t, .int .i64 q, .slice s kn c]] w fun e w' => ShapeSays w k kn e w' := by
 rcases kind_split k with h | h | rfl | rfl | rfl | rfl | rfl | rfl | rfl | rfl | rfl | rfl | rfl | rfl | rfl | rfl | rfl | rfl | rfl | rfl | rfl | rfl | rfl | rfl | rfl | rfl | rfl | rfl | rfl | rfl | rfl | rfl | rfl | rfl | rfl | rfl
 ·
  exact shape_none k (Or.inl h) t q s kn c hk w
 ·
  exact shape_none k (Or.inr h) t q s kn c hk w
 ·
  exact shape_1 t q s kn c hk w
 ·
  exact shape_2 t q s kn c hk w
 ·
  exact shape_3 t q s kn c hk w
 ·
  exact shape_4 t q s kn c hk w
 ·
  exact shape_5 t q s kn c hk w
 ·
  exact shape_6 t q s kn c hk w
 ·
  exact shape_7 t q s kn c hk w
 ·
  exact shape_8 t q s kn c hk w
 ·
  exact shape_9 t q s kn c hk w
 ·
  exact shape_10 t q s kn c hk w
 ·
  exact shape_11 t q s kn c hk w
 ·
  exact shape_12 t q s kn c hk w
 ·
  exact shape_13 t q s kn c hk w
 ·
  exact shape_14 t q s kn c hk w
 ·
  exact shape_15 t q s kn c hk w
 ·
  exact shape_16 t q s kn c hk w
 ·
  exact shape_17 t q s kn c hk w
 ·
  exact shape_18 t q s kn c hk w
 ·
  exact shape_19 t q s kn c hk w
 ·
  exact shape_20 t q s kn c hk w
 ·
  exact shape_21 t q s kn c hk w
 ·
  exact shape_22 t q s kn c hk w
 ·
  exact shape_23 t q s kn c hk w
 ·
  exact shape_24 t q s kn c hk w
 ·
  exact shape_25 t q s kn c hk w
 ·
  exact shape_26 t q s kn c hk w
 ·
  exact shape_27 t q s kn c hk w
 ·
  exact shape_28 t q s kn c hk w
 ·
  exact shape_29 t q s kn c hk w
 ·
  exact shape_30 t q s kn c hk w
 ·
  exact shape_31 t q s kn c hk w
 ·
  exact shape_32 t q s kn c hk w
 ·
  exact shape_33 t q s kn c hk w
 exact shape_34 t q s kn c hk w
end
section
open Go.RowKit Go.Maps Go.WideMaps
theorem upon_insert {H : Type} {P : Program} {w : World} {o : Oper} {a : Act} {K : Act → World → Prop} {X : Exit → Act → World → Prop} {f : Unit → World → Result Next} (t : TypeId)
  (k e : TypeId) (Kd : Keyed P k) (ht : P.underlying t = some (.map k e)) (R : Value → Option (DataW H × List MemPlace)) (b n : Nat) (D : DataW H)
  (hown : w.ownsMap P k R b n D) (hn : n < maxLen) (key val : Value) (kl : Lit) (hkey : keyOf P k key = some kl) (d : DataW H) (ps : List MemPlace) (hval : R val = some (d, ps))
  (hK : ∀ w', w'.ownsMap P k R b (n + 1) (D.put kl d) → w.grownBy w' (some b) → Oper.upon P o a K X (f () w')) :
  Oper.upon P o a K X (((Instr.mapUpdate t (.map (some b)) key val).run P w).andThen f) := by
 obtain ⟨w', hrun, r1, r2⟩ := hown.update Kd ht hn hkey hval
 rw [hrun]
 exact hK w' r1 r2
theorem skeyed : Keyed Tryz.prog 9 := string_keyed Tryz.underlying9
def words : List ByteArray := [⟨#[115, 121, 115, 116, 101, 109]⟩, ⟨#[102, 110]⟩, ⟨#[108, 101, 116]⟩, ⟨#[105, 102]⟩, ⟨#[101, 108, 115, 101]⟩, ⟨#[108, 111, 111, 112]⟩, ⟨#[101, 97, 99, 104]⟩, ⟨#[119, 105, 116, 104]⟩, ⟨#[119, 105, 116, 104, 111, 117, 116]⟩, ⟨#[101, 109, 105, 116]⟩, ⟨#[104, 101, 97, 114]⟩, ⟨#[97, 115]⟩, ⟨#[115, 112, 97, 119, 110]⟩, ⟨#[107, 105, 108, 108]⟩, ⟨#[112, 117, 116]⟩, ⟨#[100, 114, 111, 112]⟩, ⟨#[100, 111]⟩, ⟨#[114, 101, 116, 117, 114, 110]⟩, ⟨#[112, 105, 99, 107]⟩, ⟨#[111, 102]⟩, ⟨#[121, 101, 115]⟩, ⟨#[110, 111]⟩, ⟨#[97, 110, 100]⟩, ⟨#[111, 114]⟩, ⟨#[110, 111, 116]⟩, ⟨#[105, 110, 116]⟩, ⟨#[114, 101, 97, 108]⟩, ⟨#[112, 97, 105, 114]⟩, ⟨#[98, 111, 111, 108]⟩, ⟨#[114, 101]⟩, ⟨#[105, 109]⟩, ⟨#[115, 105, 122, 101]⟩]
def wkey (s : ByteArray) : Lit := .string s.data.toList
def wordMap : List ByteArray → DataW Unit → DataW Unit
 | [], D => D
 | s :: r, D => wordMap r (D.put (wkey s) (.agg []))
def isW (s : ByteArray) : Bool := words.any (fun t => decide (t = s))
theorem wkey_inj {s t : ByteArray} (h : wkey s = wkey t) : s = t := by
 simp only [wkey, Lit.string.injEq] at h
 have : s.data = t.data := Array.toList_inj.1 h
 cases s; cases t; simp_all
theorem has_put {D : DataW Unit} (hD : IsMap D) (s t : ByteArray) (d : DataW Unit) : Maps.has (D.put (wkey s) d) (wkey t) = (decide (s = t) || Maps.has D (wkey t)) := by
 by_cases h : s = t
 ·
  subst h
  rw [has_put_same hD (by trivial)]; simp
 have hne : wkey t ≠ wkey s := fun e => h (wkey_inj e).symm
 rw [has_put_other hne]; simp [h]
theorem has_words : ∀ (l : List ByteArray) (D : DataW Unit) (t : ByteArray), IsMap D → Maps.has (wordMap l D) (wkey t) = (l.any (fun s => decide (s = t)) || Maps.has D (wkey t))
 | [], D, t, h => by simp [wordMap]
 | s :: r, D, t, h => by
  rw [wordMap, has_words r _ t (h.put _ _), has_put h]
  simp only [List.any_cons]
  cases decide (s = t) <;> cases r.any (fun s => decide (s = t)) <;> simp
theorem has_word (t : ByteArray) : Maps.has (wordMap words (.map [])) (wkey t) = isW t := by
 rw [has_words _ _ _ isMap_empty]; simp [isW, Maps.has]
set_option maxRecDepth 100000 in
set_option maxHeartbeats 8000000 in
theorem wordSet_any (w : World) :
  Calls Tryz.prog 33 #[] w fun e w' => e = .returned (.map (some w.heap.size)) ∧ w'.ownsMap Tryz.prog 9 (unitElem (H := Unit)) w.heap.size 32 (wordMap words (.map [])) ∧ Below w.heap.size w w' := by
 have hmm := @run_makeMap Tryz.prog
 have hown := World.ownsMap_made w Tryz.prog 9 (unitElem (H := Unit))
 have hbl : Below w.heap.size w (w.alloc (.map #[] 0)) := bl_alloc (Below.refl _ w) _
 go_enter Tryz.func33, Tryz.ntmps33
 have k0 : ∀ s : ByteArray, s.size ≤ 9 → keyOf Tryz.prog 9 (.string s) = some (wkey s) := fun s hs => keyOf_string_mk Tryz.underlying9 (by unfold maxLen; omega)
 go_wp2_with (refine upon_insert 73 9 87 skeyed Tryz.underlying73 (unitElem (H := Unit)) w.heap.size _ _ hown (by unfold maxLen; omega) _ _ _ (k0 _ (by decide)) (.agg []) [] unitElem_mk ?_; intro w1 hown1 hgrow; have hbl1 := hbl.grown hgrow hbl.size (fun j hj => by cases hj; exact Nat.le_refl _); clear hown hbl hgrow; have hown := hown1; have hbl := hbl1; clear hown1 hbl1); go_ret; exact ⟨rfl, hown, hbl⟩
theorem zeroU (w : World) : (zeroValue 87).run Tryz.prog w = .ok (.agg #[]) w := by kernel_rfl
theorem word_look {w : World} {b : Nat} (h : w.ownsMap Tryz.prog 9 (unitElem (H := Unit)) b 32 (wordMap words (.map []))) (s : ByteArray) (hs : s.size ≤ maxLen) :
  (Instr.lookup 73 (.map (some b)) (.string s) true).run Tryz.prog w = .ok (.tuple #[.agg #[], .bool (isW s)]) w := by
 obtain ⟨v, ps, hrun, hv⟩ := h.look_ok (zd := .agg []) (zp := []) skeyed Tryz.underlying73 (zeroU w) unitElem_mk (kl := wkey s) (keyOf_string_mk Tryz.underlying9 hs)
 obtain ⟨rfl, _⟩ := unitElem_inv hv
 rw [has_word] at hrun
 exact hrun
end
section
open Go.RowKit Go.Maps Go.WideMaps
theorem ret_boolw {a b : Bool} (h : a = b) : Ending.returned (.bool a) = .returned (.bool b) := by rw [h]
theorem toList_same (t s : ByteArray) : (t.toList == s.toList) = decide (t = s) := by
 rw [ByteArray.toList_eq, ByteArray.toList_eq, Bool.eq_iff_iff]
 simp only [beq_iff_eq, decide_eq_true_eq]
 exact ⟨WideShapes.bytes_inj, fun h => by rw [h]⟩
theorem toList_ne {t s : ByteArray} (h : ¬ t = s) : (t.toList == s.toList) = false := by rw [toList_same]; simp [h]
theorem toList_eq' {t s : ByteArray} (h : t = s) : (t.toList == s.toList) = true := by rw [toList_same]; simp [h]
def wordAt (k : Nat) : ByteArray := words[k]?.getD ByteArray.empty
theorem isW_none {s : ByteArray} (h : ∀ j, j < 32 → ¬ wordAt j = s) : isW s = false := by
 unfold isW
 rw [List.any_eq_false]
 intro t ht
 obtain ⟨j, hj, rfl⟩ := List.getElem_of_mem ht
 have := h j hj
 simp only [wordAt, List.getElem?_eq_getElem hj, Option.getD_some] at this
 simpa using this
theorem isW_some {s : ByteArray} {j : Nat} (hj : j < 32) (h : wordAt j = s) : isW s = true := by
 unfold isW
 rw [List.any_eq_true]
 have hj' : j < words.length := hj
 refine ⟨words[j], List.getElem_mem hj', ?_⟩
 simp only [wordAt, List.getElem?_eq_getElem hj', Option.getD_some] at h
 simp [h]
theorem wordl_cell {j : Nat} (hj : j < 32) : ((words.map Value.string).toArray)[j]? = some (.string (wordAt j)) := by
 have hj' : j < words.length := hj
 simp [wordAt, List.getElem?_eq_getElem hj']
set_option maxRecDepth 100000 in
set_option maxHeartbeats 4000000 in
theorem l3Words_any (w : World) :
  Calls Tryz.prog 103 #[] w fun e w' => e = .returned (.slice (some ⟨w.heap.size, 0, none⟩) 32 32) ∧ (∀ j, j < 32 → w'.cell? ⟨w.heap.size, j, none⟩ = some (.string (wordAt j))) ∧ Below w.heap.size w w' := by
 go_enter Tryz.func103, Tryz.ntmps103
 go_wp2_with fail; go_ret; refine ⟨rfl, fun j hj => ?_, bl_alloc (Below.refl _ w) _⟩
 exact ((Blk.new w _ _).cell j).trans (wordl_cell hj)
set_option maxHeartbeats 2000000 in
theorem specIsWord_any (s : ByteArray) (w : World) :
  Calls Tryz.prog 89 #[.string s] w fun e w' => e = .returned (.bool (isW s)) ∧ Below w.heap.size w w' := by
 go_enter Tryz.func89, Tryz.ntmps89
 go_wp2_with fail; refine (l3Words_any _).mono ?_
 rintro e w1 ⟨rfl, hc, hb⟩
 go_wp2_with fail; go_loop [4] (fun i => ∃ k : Nat, k ≤ 32 ∧ i = .int .i64 k ∧ Hid (∀ j, j < k → ¬ wordAt j = s)) (fun i => 32 - (intOf i).toNat)
 case atStart => exact ⟨0, Nat.zero_le _, rfl, fun j hj => absurd hj (by omega)⟩
 obtain ⟨k, hk, rfl, hn⟩ := hrel
 by_cases hlt : k < 32
 ·
  have d1 := hc k hlt
  obtain ⟨t, ht⟩ : ∃ t, Hid (wordAt k = t) := ⟨_, rfl⟩
  rw [ht.out] at d1
  clear hc; by_cases he : t = s
  ·
   have hg : Hid (isW s = true) := isW_some hlt (ht.out.trans he)
   have hq := toList_eq' he
   go_wp2_with fail; go_ret; exact ⟨ret_boolw hg.out.symm, hb⟩
  have hs' : Hid (∀ j, j < k + 1 → ¬ wordAt j = s) := by
   intro j hj
   by_cases h : j = k
   ·
    subst h; rw [ht.out]; exact he
   exact hn.out j (by omega)
  have hq := toList_ne he
  go_wp2_with fail; go_round
  case rel => exact ⟨k + 1, by omega, by go_num, hs'⟩
  case measure => simp [intOf]; omega
 have hg : Hid (isW s = false) := isW_none (fun j hj => hn.out j (by omega))
 go_wp2_with fail; go_ret; exact ⟨ret_boolw hg.out.symm, hb⟩
def letB (c : Nat) : Bool := (decide ((97 : Int) ≤ c) && decide ((c : Int) ≤ 122)) || (decide ((65 : Int) ≤ c) && decide ((c : Int) ≤ 90))
set_option maxHeartbeats 2000000 in
theorem isLetter_any (c : Nat) (w : World) :
  Calls Tryz.prog 75 #[.int .i32 (c : Int)] w fun e w' => e = .returned (.bool (letB c)) ∧ w' = w := by
 cases h1 : decide ((97 : Int) ≤ c) <;> cases h2 : decide ((c : Int) ≤ 122) <;> cases h3 : decide ((65 : Int) ≤ c) <;> cases h4 : decide ((c : Int) ≤ 90)
 all_goals
  have E : Hid (_ = letB c) := (by unfold Hid letB; rw [h1, h2, h3, h4])
  go_enter Tryz.func75, Tryz.ntmps75
  go_wp2_with fail; go_ret; exact ⟨ret_boolw E.out, rfl⟩
set_option maxHeartbeats 2000000 in
theorem l3Letter_any (c : Nat) (w : World) :
  Calls Tryz.prog 88 #[.int .u8 (c : Int)] w fun e w' => e = .returned (.bool (letB c)) ∧ w' = w := by
 cases h1 : decide ((97 : Int) ≤ c) <;> cases h2 : decide ((c : Int) ≤ 122) <;> cases h3 : decide ((65 : Int) ≤ c) <;> cases h4 : decide ((c : Int) ≤ 90)
 all_goals
  have E : Hid (_ = letB c) := (by unfold Hid letB; rw [h1, h2, h3, h4])
  go_enter Tryz.func88, Tryz.ntmps88
  go_wp2_with fail; go_ret; exact ⟨ret_boolw E.out, rfl⟩
end
section
open Go.RowKit Go.Maps Go.WideMaps
def letAt (s : ByteArray) (k : Nat) : Bool := letB (s.data[k]?.getD 0).toNat
def lettersB (s : ByteArray) : Bool := decide (1 ≤ s.size) && decide (s.size ≤ 12) && decide (∀ j, j < s.size → letAt s j = true)
def nameB (s : ByteArray) : Bool := lettersB s && !isW s
theorem letAt_eq {s : ByteArray} {k : Nat} (h : k < s.size) : letB (s[k]'h).toNat = letAt s k := by
 unfold letAt
 have : s.data[k]? = some (s[k]'h) := Array.getElem?_eq_getElem h
 rw [this]; rfl
theorem run_index_at (s : ByteArray) (k : Nat) (h : k < s.size) (w : World) : (Instr.index 9 (.string s) (.int .i64 (k : Int))).run Tryz.prog w = .ok (.int .u8 ((s[k]'h).toNat : Int)) w := by
 rw [run_index_string w 9 s .i64 k Tryz.underlying9]
 have h' : 0 ≤ (k : Int) ∧ (k : Int) < s.size := by omega
 rw [dif_pos h']
 simp
theorem letB_high {c : Nat} (h : 128 ≤ c) : letB c = false := by
 unfold letB
 have e1 : decide ((c : Int) ≤ 122) = false := by simp; omega
 have e2 : decide ((c : Int) ≤ 90) = false := by simp; omega
 rw [e1, e2]; simp
theorem rune_let {s : ByteArray} {k : Nat} (h : k < s.size) : letB (Utf8.decode s k).1 = letAt s k ∧ (letAt s k = true → (Utf8.decode s k).2 = 1) := by
 by_cases ha : (s[k]'h).toNat < 128
 ·
  rw [decode_ascii s k h ha]
  exact ⟨letAt_eq h, fun _ => rfl⟩
 have hh := (decode_high s k h (by omega)).1
 have e : letAt s k = false := by rw [← letAt_eq h]; exact letB_high (by omega)
 rw [letB_high hh, e]
 exact ⟨rfl, fun q => by cases q⟩
set_option maxHeartbeats 2000000 in
theorem lettersOk_any (s : ByteArray) (w : World) :
  Calls Tryz.prog 54 #[.string s] w fun e w' => e = .returned (.bool (lettersB s)) ∧ Below w.heap.size w w' ∧ (lettersB s = true → ∃ pos, w' = w.alloc (.stringIter s pos)) := by
 obtain ⟨n, hn⟩ : ∃ n, Hid (s.size = n) := ⟨_, rfl⟩
 by_cases h1 : 1 ≤ s.size
 ·
  by_cases h2 : s.size ≤ 12
  ·
   have t1 : decide ((s.size : Int) < 1) = false := by simp; omega
   have t2 : decide ((12 : Int) < (s.size : Int)) = false := by simp; omega
   go_enter Tryz.func54, Tryz.ntmps54
   go_wp2_with fail; go_loopw [] (fun wr => ∃ k : Nat, k ≤ s.size ∧ wr = w.iter s k ∧ Hid (∀ j, j < k → letAt s j = true)) (fun wr => s.size - wr.iterPos w.heap.size)
   case atStart => exact ⟨0, Nat.zero_le _, rfl, fun j hj => absurd hj (by omega)⟩
   obtain ⟨k, hk, rfl, hall⟩ := hrel
   by_cases hlt : k < s.size
   ·
    have hnx := fun ty => run_next_any (P := Tryz.prog) w s k ty hlt
    obtain ⟨r1, r2⟩ := rune_let hlt
    obtain ⟨c, hc⟩ : ∃ c, (Utf8.decode s k).1 = c := ⟨_, rfl⟩
    obtain ⟨d, hd⟩ : ∃ d, (Utf8.decode s k).2 = d := ⟨_, rfl⟩
    rw [hc] at r1
    rw [hd] at r2
    simp only [hc, hd] at hnx
    clear hc hd; cases hb : letAt s k
    ·
     have E : Hid (lettersB s = false) := by
      unfold Hid lettersB
      simp only [Bool.and_eq_false_imp, decide_eq_false_iff_not]
      exact fun _ h => by rw [h k hlt] at hb; cases hb
     rw [hb] at r1
     go_wp2_with (go_at_call 75; refine (isLetter_any _ _).mono ?_; rintro e w' ⟨rfl, rfl⟩; rw [r1])
     go_ret; exact ⟨ret_boolw E.out.symm, bl_alloc (Below.refl _ _) _, fun q => by rw [E.out] at q; cases q⟩
    have hs' : Hid (∀ j, j < k + 1 → letAt s j = true) := by
     intro j hj
     by_cases h : j = k
     ·
      subst h; exact hb
     exact hall.out j (by omega)
    have hd1 := r2 hb
    rw [hd1] at hnx
    rw [hb] at r1
    clear r2 hd1; go_wp2_with (go_at_call 75; refine (isLetter_any _ _).mono ?_; rintro e w' ⟨rfl, rfl⟩; rw [r1])
    go_roundw
    case rel => exact ⟨k + 1, by omega, rfl, hs'⟩
    case measure => simp; omega
   have E : Hid (lettersB s = true) := by
    unfold Hid lettersB
    simp only [Bool.and_eq_true, decide_eq_true_eq]
    exact ⟨⟨h1, h2⟩, fun j hj => hall.out j (by omega)⟩
   have hnx := fun ty => run_next_end (P := Tryz.prog) w s k ty hlt
   go_wp2_with fail; go_ret; exact ⟨ret_boolw E.out.symm, bl_alloc (Below.refl _ _) _, fun _ => ⟨k, rfl⟩⟩
  have t1 : decide ((s.size : Int) < 1) = false := by simp; omega
  have t2 : decide ((12 : Int) < (s.size : Int)) = true := by simp; omega
  have E : Hid (lettersB s = false) := by simp [Hid, lettersB, h2]
  go_enter Tryz.func54, Tryz.ntmps54
  go_wp2_with fail; go_ret; exact ⟨ret_boolw E.out.symm, Below.refl _ _, fun q => by rw [E.out] at q; cases q⟩
 have t1 : decide ((s.size : Int) < 1) = true := by simp; omega
 have E : Hid (lettersB s = false) := by simp [Hid, lettersB, h1]
 go_enter Tryz.func54, Tryz.ntmps54
 go_wp2_with fail; go_ret; exact ⟨ret_boolw E.out.symm, Below.refl _ _, fun q => by rw [E.out] at q; cases q⟩
end
end Go.Proofs.YtjckoldjodjehaaGreatDoor
