import Derived.Test.YtknallkcengbbaaGreatDoorOb
namespace Go.Proofs.YtknallkcengbbaaGreatDoor
open Go.RowKit
set_option linter.unusedVariables false
set_option linter.unusedSimpArgs false

theorem OI.ofBlk {w : World} {b : Nat} (L : List Int) (hl : L.length ≤ 1000) (h : Blk w b (L.map (Value.int .i64)).toArray 3) : OI w b (.slice (some ⟨b, 0, none⟩) L.length L.length) L :=
  ⟨by simp, Or.inr ⟨b, L.length, _, rfl, Nat.le_refl _, h, Nat.le_refl _, by unfold maxLen; omega, by simp, by simp; exact List.take_of_length_le (by simp)⟩⟩
theorem Els.few {w : World} {B b : Nat} (L : List Int) (hl : L.length ≤ 1000) (hB : B ≤ b) (h : Blk w b (L.map (Value.int .i64)).toArray 3) : Els 1 cInt w B (some ⟨b, 0, none⟩) L := (OI.ofBlk L hl h).els.drop cInt_drops hB
/-- what l8Shape answers. -/
def ShapeSays (w : World) (kind : Int) (kn : Nat) (e : Ending) (w' : World) : Prop := (∃ s c, e = .returned (.tuple #[.slice s (shp kind kn).length c, .bool (decide ((shp kind kn).length = kn))]) ∧ Els 1 cInt w' w.heap.size s (shp kind kn)) ∧ Below w.heap.size w w'
theorem rep_succ (m : Nat) (x : Int) : List.replicate (m + 1) x = List.replicate m x ++ [x] := List.replicate_succ'

set_option maxRecDepth 100000 in
set_option maxHeartbeats 4000000 in
theorem shape_1 (t : ByteArray) (q : Int) (s : Option Addr) (kn c : Nat) (hk : kn ≤ 1048576) (w : World) :
    Calls Tryz.prog 49 #[.agg #[.int .i64 1, .string t, .int .i64 q, .slice s kn c]] w fun e w' => ShapeSays w 1 kn e w' := by
  have hal := alloc_old
  have haf := alloc_oldf
  have k0 := Blk.new w #[.int .i64 1, .string t, .int .i64 q, .slice s kn c] 57
  have L0 := bl_alloc (Below.refl _ w) (.cells #[.int .i64 1, .string t, .int .i64 q, .slice s kn c] 57)
  obtain ⟨x0, x1, x2, x3, x4⟩ := k0.four'
  have HE : Hid (Els 1 cInt ((w.alloc (.cells #[.int .i64 1, .string t, .int .i64 q, .slice s kn c] 57)).alloc (.cells #[] 3)) w.heap.size (some ⟨(w.heap.size + 1), 0, none⟩) []) := Els.few [] (by simp) (by omega) (Blk.new' _ #[] 3 (by simp))
  have HB : Hid (Below w.heap.size w ((w.alloc (.cells #[.int .i64 1, .string t, .int .i64 q, .slice s kn c] 57)).alloc (.cells #[] 3))) := bl_alloc L0 _
  have hg : IntKind.i64.wrap (kn : Int) = kn := by rw [IntKind.wrap_i64]; omega
  have hd : ((0 : Int) == (kn : Int)) = decide (0 = kn) := by by_cases h : 0 = kn <;> simp [h] <;> omega
  go_enter Tryz.func49, Tryz.ntmps49
  go_wp2_with fail
  go_ret2
  exact ⟨⟨some ⟨(w.heap.size + 1), 0, none⟩, 0, rfl, HE.out⟩, HB.out⟩

set_option maxRecDepth 100000 in
set_option maxHeartbeats 4000000 in
theorem shape_2 (t : ByteArray) (q : Int) (s : Option Addr) (kn c : Nat) (hk : kn ≤ 1048576) (w : World) :
    Calls Tryz.prog 49 #[.agg #[.int .i64 2, .string t, .int .i64 q, .slice s kn c]] w fun e w' => ShapeSays w 2 kn e w' := by
  have hal := alloc_old
  have haf := alloc_oldf
  have k0 := Blk.new w #[.int .i64 2, .string t, .int .i64 q, .slice s kn c] 57
  have L0 := bl_alloc (Below.refl _ w) (.cells #[.int .i64 2, .string t, .int .i64 q, .slice s kn c] 57)
  obtain ⟨x0, x1, x2, x3, x4⟩ := k0.four'
  have HE : Hid (Els 1 cInt ((w.alloc (.cells #[.int .i64 2, .string t, .int .i64 q, .slice s kn c] 57)).alloc (.cells #[] 3)) w.heap.size (some ⟨(w.heap.size + 1), 0, none⟩) []) := Els.few [] (by simp) (by omega) (Blk.new' _ #[] 3 (by simp))
  have HB : Hid (Below w.heap.size w ((w.alloc (.cells #[.int .i64 2, .string t, .int .i64 q, .slice s kn c] 57)).alloc (.cells #[] 3))) := bl_alloc L0 _
  have hg : IntKind.i64.wrap (kn : Int) = kn := by rw [IntKind.wrap_i64]; omega
  have hd : ((0 : Int) == (kn : Int)) = decide (0 = kn) := by by_cases h : 0 = kn <;> simp [h] <;> omega
  go_enter Tryz.func49, Tryz.ntmps49
  go_wp2_with fail
  go_ret2
  exact ⟨⟨some ⟨(w.heap.size + 1), 0, none⟩, 0, rfl, HE.out⟩, HB.out⟩

set_option maxRecDepth 100000 in
set_option maxHeartbeats 4000000 in
theorem shape_3 (t : ByteArray) (q : Int) (s : Option Addr) (kn c : Nat) (hk : kn ≤ 1048576) (w : World) :
    Calls Tryz.prog 49 #[.agg #[.int .i64 3, .string t, .int .i64 q, .slice s kn c]] w fun e w' => ShapeSays w 3 kn e w' := by
  have hal := alloc_old
  have haf := alloc_oldf
  have k0 := Blk.new w #[.int .i64 3, .string t, .int .i64 q, .slice s kn c] 57
  have L0 := bl_alloc (Below.refl _ w) (.cells #[.int .i64 3, .string t, .int .i64 q, .slice s kn c] 57)
  obtain ⟨x0, x1, x2, x3, x4⟩ := k0.four'
  have HE : Hid (Els 1 cInt ((w.alloc (.cells #[.int .i64 3, .string t, .int .i64 q, .slice s kn c] 57)).alloc (.cells #[] 3)) w.heap.size (some ⟨(w.heap.size + 1), 0, none⟩) []) := Els.few [] (by simp) (by omega) (Blk.new' _ #[] 3 (by simp))
  have HB : Hid (Below w.heap.size w ((w.alloc (.cells #[.int .i64 3, .string t, .int .i64 q, .slice s kn c] 57)).alloc (.cells #[] 3))) := bl_alloc L0 _
  have hg : IntKind.i64.wrap (kn : Int) = kn := by rw [IntKind.wrap_i64]; omega
  have hd : ((0 : Int) == (kn : Int)) = decide (0 = kn) := by by_cases h : 0 = kn <;> simp [h] <;> omega
  go_enter Tryz.func49, Tryz.ntmps49
  go_wp2_with fail
  go_ret2
  exact ⟨⟨some ⟨(w.heap.size + 1), 0, none⟩, 0, rfl, HE.out⟩, HB.out⟩

set_option maxRecDepth 100000 in
set_option maxHeartbeats 4000000 in
theorem shape_4 (t : ByteArray) (q : Int) (s : Option Addr) (kn c : Nat) (hk : kn ≤ 1048576) (w : World) :
    Calls Tryz.prog 49 #[.agg #[.int .i64 4, .string t, .int .i64 q, .slice s kn c]] w fun e w' => ShapeSays w 4 kn e w' := by
  have hal := alloc_old
  have haf := alloc_oldf
  have k0 := Blk.new w #[.int .i64 4, .string t, .int .i64 q, .slice s kn c] 57
  have L0 := bl_alloc (Below.refl _ w) (.cells #[.int .i64 4, .string t, .int .i64 q, .slice s kn c] 57)
  obtain ⟨x0, x1, x2, x3, x4⟩ := k0.four'
  have HE : Hid (Els 1 cInt ((w.alloc (.cells #[.int .i64 4, .string t, .int .i64 q, .slice s kn c] 57)).alloc (.cells #[] 3)) w.heap.size (some ⟨(w.heap.size + 1), 0, none⟩) []) := Els.few [] (by simp) (by omega) (Blk.new' _ #[] 3 (by simp))
  have HB : Hid (Below w.heap.size w ((w.alloc (.cells #[.int .i64 4, .string t, .int .i64 q, .slice s kn c] 57)).alloc (.cells #[] 3))) := bl_alloc L0 _
  have hg : IntKind.i64.wrap (kn : Int) = kn := by rw [IntKind.wrap_i64]; omega
  have hd : ((0 : Int) == (kn : Int)) = decide (0 = kn) := by by_cases h : 0 = kn <;> simp [h] <;> omega
  go_enter Tryz.func49, Tryz.ntmps49
  go_wp2_with fail
  go_ret2
  exact ⟨⟨some ⟨(w.heap.size + 1), 0, none⟩, 0, rfl, HE.out⟩, HB.out⟩

set_option maxRecDepth 100000 in
set_option maxHeartbeats 4000000 in
theorem shape_5 (t : ByteArray) (q : Int) (s : Option Addr) (kn c : Nat) (hk : kn ≤ 1048576) (w : World) :
    Calls Tryz.prog 49 #[.agg #[.int .i64 5, .string t, .int .i64 q, .slice s kn c]] w fun e w' => ShapeSays w 5 kn e w' := by
  have hal := alloc_old
  have haf := alloc_oldf
  have k0 := Blk.new w #[.int .i64 5, .string t, .int .i64 q, .slice s kn c] 57
  have L0 := bl_alloc (Below.refl _ w) (.cells #[.int .i64 5, .string t, .int .i64 q, .slice s kn c] 57)
  obtain ⟨x0, x1, x2, x3, x4⟩ := k0.four'
  have HE : Hid (Els 1 cInt ((w.alloc (.cells #[.int .i64 5, .string t, .int .i64 q, .slice s kn c] 57)).alloc (.cells #[] 3)) w.heap.size (some ⟨(w.heap.size + 1), 0, none⟩) []) := Els.few [] (by simp) (by omega) (Blk.new' _ #[] 3 (by simp))
  have HB : Hid (Below w.heap.size w ((w.alloc (.cells #[.int .i64 5, .string t, .int .i64 q, .slice s kn c] 57)).alloc (.cells #[] 3))) := bl_alloc L0 _
  have hg : IntKind.i64.wrap (kn : Int) = kn := by rw [IntKind.wrap_i64]; omega
  have hd : ((0 : Int) == (kn : Int)) = decide (0 = kn) := by by_cases h : 0 = kn <;> simp [h] <;> omega
  go_enter Tryz.func49, Tryz.ntmps49
  go_wp2_with fail
  go_ret2
  exact ⟨⟨some ⟨(w.heap.size + 1), 0, none⟩, 0, rfl, HE.out⟩, HB.out⟩

set_option maxRecDepth 100000 in
set_option maxHeartbeats 4000000 in
theorem shape_6 (t : ByteArray) (q : Int) (s : Option Addr) (kn c : Nat) (hk : kn ≤ 1048576) (w : World) :
    Calls Tryz.prog 49 #[.agg #[.int .i64 6, .string t, .int .i64 q, .slice s kn c]] w fun e w' => ShapeSays w 6 kn e w' := by
  have hal := alloc_old
  have haf := alloc_oldf
  have k0 := Blk.new w #[.int .i64 6, .string t, .int .i64 q, .slice s kn c] 57
  have L0 := bl_alloc (Below.refl _ w) (.cells #[.int .i64 6, .string t, .int .i64 q, .slice s kn c] 57)
  obtain ⟨x0, x1, x2, x3, x4⟩ := k0.four'
  have HE : Hid (Els 1 cInt ((w.alloc (.cells #[.int .i64 6, .string t, .int .i64 q, .slice s kn c] 57)).alloc (.cells #[] 3)) w.heap.size (some ⟨(w.heap.size + 1), 0, none⟩) []) := Els.few [] (by simp) (by omega) (Blk.new' _ #[] 3 (by simp))
  have HB : Hid (Below w.heap.size w ((w.alloc (.cells #[.int .i64 6, .string t, .int .i64 q, .slice s kn c] 57)).alloc (.cells #[] 3))) := bl_alloc L0 _
  have hg : IntKind.i64.wrap (kn : Int) = kn := by rw [IntKind.wrap_i64]; omega
  have hd : ((0 : Int) == (kn : Int)) = decide (0 = kn) := by by_cases h : 0 = kn <;> simp [h] <;> omega
  go_enter Tryz.func49, Tryz.ntmps49
  go_wp2_with fail
  go_ret2
  exact ⟨⟨some ⟨(w.heap.size + 1), 0, none⟩, 0, rfl, HE.out⟩, HB.out⟩

set_option maxRecDepth 100000 in
set_option maxHeartbeats 4000000 in
theorem shape_8 (t : ByteArray) (q : Int) (s : Option Addr) (kn c : Nat) (hk : kn ≤ 1048576) (w : World) :
    Calls Tryz.prog 49 #[.agg #[.int .i64 8, .string t, .int .i64 q, .slice s kn c]] w fun e w' => ShapeSays w 8 kn e w' := by
  have hal := alloc_old
  have haf := alloc_oldf
  have k0 := Blk.new w #[.int .i64 8, .string t, .int .i64 q, .slice s kn c] 57
  have L0 := bl_alloc (Below.refl _ w) (.cells #[.int .i64 8, .string t, .int .i64 q, .slice s kn c] 57)
  obtain ⟨x0, x1, x2, x3, x4⟩ := k0.four'
  have HE : Hid (Els 1 cInt (((w.alloc (.cells #[.int .i64 8, .string t, .int .i64 q, .slice s kn c] 57)).alloc (.cells #[] 3)).alloc (.cells #[.int .i64 1, .int .i64 1] 3)) w.heap.size (some ⟨(w.heap.size + 2), 0, none⟩) [1, 1]) := Els.few [1, 1] (by simp) (by omega) (Blk.new' _ #[.int .i64 1, .int .i64 1] 3 (by simp))
  have HB : Hid (Below w.heap.size w (((w.alloc (.cells #[.int .i64 8, .string t, .int .i64 q, .slice s kn c] 57)).alloc (.cells #[] 3)).alloc (.cells #[.int .i64 1, .int .i64 1] 3))) := bl_alloc (bl_alloc L0 _) _
  have hg : IntKind.i64.wrap (kn : Int) = kn := by rw [IntKind.wrap_i64]; omega
  have hd : ((2 : Int) == (kn : Int)) = decide (2 = kn) := by by_cases h : 2 = kn <;> simp [h] <;> omega
  go_enter Tryz.func49, Tryz.ntmps49
  go_wp2_with fail
  go_ret2
  exact ⟨⟨some ⟨(w.heap.size + 2), 0, none⟩, 2, rfl, HE.out⟩, HB.out⟩

set_option maxRecDepth 100000 in
set_option maxHeartbeats 4000000 in
theorem shape_9 (t : ByteArray) (q : Int) (s : Option Addr) (kn c : Nat) (hk : kn ≤ 1048576) (w : World) :
    Calls Tryz.prog 49 #[.agg #[.int .i64 9, .string t, .int .i64 q, .slice s kn c]] w fun e w' => ShapeSays w 9 kn e w' := by
  have hal := alloc_old
  have haf := alloc_oldf
  have k0 := Blk.new w #[.int .i64 9, .string t, .int .i64 q, .slice s kn c] 57
  have L0 := bl_alloc (Below.refl _ w) (.cells #[.int .i64 9, .string t, .int .i64 q, .slice s kn c] 57)
  obtain ⟨x0, x1, x2, x3, x4⟩ := k0.four'
  have HE : Hid (Els 1 cInt (((w.alloc (.cells #[.int .i64 9, .string t, .int .i64 q, .slice s kn c] 57)).alloc (.cells #[] 3)).alloc (.cells #[.int .i64 1] 3)) w.heap.size (some ⟨(w.heap.size + 2), 0, none⟩) [1]) := Els.few [1] (by simp) (by omega) (Blk.new' _ #[.int .i64 1] 3 (by simp))
  have HB : Hid (Below w.heap.size w (((w.alloc (.cells #[.int .i64 9, .string t, .int .i64 q, .slice s kn c] 57)).alloc (.cells #[] 3)).alloc (.cells #[.int .i64 1] 3))) := bl_alloc (bl_alloc L0 _) _
  have hg : IntKind.i64.wrap (kn : Int) = kn := by rw [IntKind.wrap_i64]; omega
  have hd : ((1 : Int) == (kn : Int)) = decide (1 = kn) := by by_cases h : 1 = kn <;> simp [h] <;> omega
  go_enter Tryz.func49, Tryz.ntmps49
  go_wp2_with fail
  go_ret2
  exact ⟨⟨some ⟨(w.heap.size + 2), 0, none⟩, 1, rfl, HE.out⟩, HB.out⟩

set_option maxRecDepth 100000 in
set_option maxHeartbeats 4000000 in
theorem shape_10 (t : ByteArray) (q : Int) (s : Option Addr) (kn c : Nat) (hk : kn ≤ 1048576) (w : World) :
    Calls Tryz.prog 49 #[.agg #[.int .i64 10, .string t, .int .i64 q, .slice s kn c]] w fun e w' => ShapeSays w 10 kn e w' := by
  have hal := alloc_old
  have haf := alloc_oldf
  have k0 := Blk.new w #[.int .i64 10, .string t, .int .i64 q, .slice s kn c] 57
  have L0 := bl_alloc (Below.refl _ w) (.cells #[.int .i64 10, .string t, .int .i64 q, .slice s kn c] 57)
  obtain ⟨x0, x1, x2, x3, x4⟩ := k0.four'
  have HE : Hid (Els 1 cInt (((w.alloc (.cells #[.int .i64 10, .string t, .int .i64 q, .slice s kn c] 57)).alloc (.cells #[] 3)).alloc (.cells #[.int .i64 1, .int .i64 1] 3)) w.heap.size (some ⟨(w.heap.size + 2), 0, none⟩) [1, 1]) := Els.few [1, 1] (by simp) (by omega) (Blk.new' _ #[.int .i64 1, .int .i64 1] 3 (by simp))
  have HB : Hid (Below w.heap.size w (((w.alloc (.cells #[.int .i64 10, .string t, .int .i64 q, .slice s kn c] 57)).alloc (.cells #[] 3)).alloc (.cells #[.int .i64 1, .int .i64 1] 3))) := bl_alloc (bl_alloc L0 _) _
  have hg : IntKind.i64.wrap (kn : Int) = kn := by rw [IntKind.wrap_i64]; omega
  have hd : ((2 : Int) == (kn : Int)) = decide (2 = kn) := by by_cases h : 2 = kn <;> simp [h] <;> omega
  go_enter Tryz.func49, Tryz.ntmps49
  go_wp2_with fail
  go_ret2
  exact ⟨⟨some ⟨(w.heap.size + 2), 0, none⟩, 2, rfl, HE.out⟩, HB.out⟩

set_option maxRecDepth 100000 in
set_option maxHeartbeats 4000000 in
theorem shape_12 (t : ByteArray) (q : Int) (s : Option Addr) (kn c : Nat) (hk : kn ≤ 1048576) (w : World) :
    Calls Tryz.prog 49 #[.agg #[.int .i64 12, .string t, .int .i64 q, .slice s kn c]] w fun e w' => ShapeSays w 12 kn e w' := by
  have hal := alloc_old
  have haf := alloc_oldf
  have k0 := Blk.new w #[.int .i64 12, .string t, .int .i64 q, .slice s kn c] 57
  have L0 := bl_alloc (Below.refl _ w) (.cells #[.int .i64 12, .string t, .int .i64 q, .slice s kn c] 57)
  obtain ⟨x0, x1, x2, x3, x4⟩ := k0.four'
  have HE : Hid (Els 1 cInt (((w.alloc (.cells #[.int .i64 12, .string t, .int .i64 q, .slice s kn c] 57)).alloc (.cells #[] 3)).alloc (.cells #[.int .i64 1] 3)) w.heap.size (some ⟨(w.heap.size + 2), 0, none⟩) [1]) := Els.few [1] (by simp) (by omega) (Blk.new' _ #[.int .i64 1] 3 (by simp))
  have HB : Hid (Below w.heap.size w (((w.alloc (.cells #[.int .i64 12, .string t, .int .i64 q, .slice s kn c] 57)).alloc (.cells #[] 3)).alloc (.cells #[.int .i64 1] 3))) := bl_alloc (bl_alloc L0 _) _
  have hg : IntKind.i64.wrap (kn : Int) = kn := by rw [IntKind.wrap_i64]; omega
  have hd : ((1 : Int) == (kn : Int)) = decide (1 = kn) := by by_cases h : 1 = kn <;> simp [h] <;> omega
  go_enter Tryz.func49, Tryz.ntmps49
  go_wp2_with fail
  go_ret2
  exact ⟨⟨some ⟨(w.heap.size + 2), 0, none⟩, 1, rfl, HE.out⟩, HB.out⟩

set_option maxRecDepth 100000 in
set_option maxHeartbeats 4000000 in
theorem shape_13 (t : ByteArray) (q : Int) (s : Option Addr) (kn c : Nat) (hk : kn ≤ 1048576) (w : World) :
    Calls Tryz.prog 49 #[.agg #[.int .i64 13, .string t, .int .i64 q, .slice s kn c]] w fun e w' => ShapeSays w 13 kn e w' := by
  have hal := alloc_old
  have haf := alloc_oldf
  have k0 := Blk.new w #[.int .i64 13, .string t, .int .i64 q, .slice s kn c] 57
  have L0 := bl_alloc (Below.refl _ w) (.cells #[.int .i64 13, .string t, .int .i64 q, .slice s kn c] 57)
  obtain ⟨x0, x1, x2, x3, x4⟩ := k0.four'
  have HE : Hid (Els 1 cInt (((w.alloc (.cells #[.int .i64 13, .string t, .int .i64 q, .slice s kn c] 57)).alloc (.cells #[] 3)).alloc (.cells #[.int .i64 1] 3)) w.heap.size (some ⟨(w.heap.size + 2), 0, none⟩) [1]) := Els.few [1] (by simp) (by omega) (Blk.new' _ #[.int .i64 1] 3 (by simp))
  have HB : Hid (Below w.heap.size w (((w.alloc (.cells #[.int .i64 13, .string t, .int .i64 q, .slice s kn c] 57)).alloc (.cells #[] 3)).alloc (.cells #[.int .i64 1] 3))) := bl_alloc (bl_alloc L0 _) _
  have hg : IntKind.i64.wrap (kn : Int) = kn := by rw [IntKind.wrap_i64]; omega
  have hd : ((1 : Int) == (kn : Int)) = decide (1 = kn) := by by_cases h : 1 = kn <;> simp [h] <;> omega
  go_enter Tryz.func49, Tryz.ntmps49
  go_wp2_with fail
  go_ret2
  exact ⟨⟨some ⟨(w.heap.size + 2), 0, none⟩, 1, rfl, HE.out⟩, HB.out⟩

set_option maxRecDepth 100000 in
set_option maxHeartbeats 4000000 in
theorem shape_14 (t : ByteArray) (q : Int) (s : Option Addr) (kn c : Nat) (hk : kn ≤ 1048576) (w : World) :
    Calls Tryz.prog 49 #[.agg #[.int .i64 14, .string t, .int .i64 q, .slice s kn c]] w fun e w' => ShapeSays w 14 kn e w' := by
  have hal := alloc_old
  have haf := alloc_oldf
  have k0 := Blk.new w #[.int .i64 14, .string t, .int .i64 q, .slice s kn c] 57
  have L0 := bl_alloc (Below.refl _ w) (.cells #[.int .i64 14, .string t, .int .i64 q, .slice s kn c] 57)
  obtain ⟨x0, x1, x2, x3, x4⟩ := k0.four'
  have HE : Hid (Els 1 cInt (((w.alloc (.cells #[.int .i64 14, .string t, .int .i64 q, .slice s kn c] 57)).alloc (.cells #[] 3)).alloc (.cells #[.int .i64 1] 3)) w.heap.size (some ⟨(w.heap.size + 2), 0, none⟩) [1]) := Els.few [1] (by simp) (by omega) (Blk.new' _ #[.int .i64 1] 3 (by simp))
  have HB : Hid (Below w.heap.size w (((w.alloc (.cells #[.int .i64 14, .string t, .int .i64 q, .slice s kn c] 57)).alloc (.cells #[] 3)).alloc (.cells #[.int .i64 1] 3))) := bl_alloc (bl_alloc L0 _) _
  have hg : IntKind.i64.wrap (kn : Int) = kn := by rw [IntKind.wrap_i64]; omega
  have hd : ((1 : Int) == (kn : Int)) = decide (1 = kn) := by by_cases h : 1 = kn <;> simp [h] <;> omega
  go_enter Tryz.func49, Tryz.ntmps49
  go_wp2_with fail
  go_ret2
  exact ⟨⟨some ⟨(w.heap.size + 2), 0, none⟩, 1, rfl, HE.out⟩, HB.out⟩

set_option maxRecDepth 100000 in
set_option maxHeartbeats 4000000 in
theorem shape_15 (t : ByteArray) (q : Int) (s : Option Addr) (kn c : Nat) (hk : kn ≤ 1048576) (w : World) :
    Calls Tryz.prog 49 #[.agg #[.int .i64 15, .string t, .int .i64 q, .slice s kn c]] w fun e w' => ShapeSays w 15 kn e w' := by
  have hal := alloc_old
  have haf := alloc_oldf
  have k0 := Blk.new w #[.int .i64 15, .string t, .int .i64 q, .slice s kn c] 57
  have L0 := bl_alloc (Below.refl _ w) (.cells #[.int .i64 15, .string t, .int .i64 q, .slice s kn c] 57)
  obtain ⟨x0, x1, x2, x3, x4⟩ := k0.four'
  have HE : Hid (Els 1 cInt (((w.alloc (.cells #[.int .i64 15, .string t, .int .i64 q, .slice s kn c] 57)).alloc (.cells #[] 3)).alloc (.cells #[.int .i64 1] 3)) w.heap.size (some ⟨(w.heap.size + 2), 0, none⟩) [1]) := Els.few [1] (by simp) (by omega) (Blk.new' _ #[.int .i64 1] 3 (by simp))
  have HB : Hid (Below w.heap.size w (((w.alloc (.cells #[.int .i64 15, .string t, .int .i64 q, .slice s kn c] 57)).alloc (.cells #[] 3)).alloc (.cells #[.int .i64 1] 3))) := bl_alloc (bl_alloc L0 _) _
  have hg : IntKind.i64.wrap (kn : Int) = kn := by rw [IntKind.wrap_i64]; omega
  have hd : ((1 : Int) == (kn : Int)) = decide (1 = kn) := by by_cases h : 1 = kn <;> simp [h] <;> omega
  go_enter Tryz.func49, Tryz.ntmps49
  go_wp2_with fail
  go_ret2
  exact ⟨⟨some ⟨(w.heap.size + 2), 0, none⟩, 1, rfl, HE.out⟩, HB.out⟩

set_option maxRecDepth 100000 in
set_option maxHeartbeats 4000000 in
theorem shape_17 (t : ByteArray) (q : Int) (s : Option Addr) (kn c : Nat) (hk : kn ≤ 1048576) (w : World) :
    Calls Tryz.prog 49 #[.agg #[.int .i64 17, .string t, .int .i64 q, .slice s kn c]] w fun e w' => ShapeSays w 17 kn e w' := by
  have hal := alloc_old
  have haf := alloc_oldf
  have k0 := Blk.new w #[.int .i64 17, .string t, .int .i64 q, .slice s kn c] 57
  have L0 := bl_alloc (Below.refl _ w) (.cells #[.int .i64 17, .string t, .int .i64 q, .slice s kn c] 57)
  obtain ⟨x0, x1, x2, x3, x4⟩ := k0.four'
  have HE : Hid (Els 1 cInt (((w.alloc (.cells #[.int .i64 17, .string t, .int .i64 q, .slice s kn c] 57)).alloc (.cells #[] 3)).alloc (.cells #[.int .i64 1, .int .i64 3] 3)) w.heap.size (some ⟨(w.heap.size + 2), 0, none⟩) [1, 3]) := Els.few [1, 3] (by simp) (by omega) (Blk.new' _ #[.int .i64 1, .int .i64 3] 3 (by simp))
  have HB : Hid (Below w.heap.size w (((w.alloc (.cells #[.int .i64 17, .string t, .int .i64 q, .slice s kn c] 57)).alloc (.cells #[] 3)).alloc (.cells #[.int .i64 1, .int .i64 3] 3))) := bl_alloc (bl_alloc L0 _) _
  have hg : IntKind.i64.wrap (kn : Int) = kn := by rw [IntKind.wrap_i64]; omega
  have hd : ((2 : Int) == (kn : Int)) = decide (2 = kn) := by by_cases h : 2 = kn <;> simp [h] <;> omega
  go_enter Tryz.func49, Tryz.ntmps49
  go_wp2_with fail
  go_ret2
  exact ⟨⟨some ⟨(w.heap.size + 2), 0, none⟩, 2, rfl, HE.out⟩, HB.out⟩

set_option maxRecDepth 100000 in
set_option maxHeartbeats 4000000 in
theorem shape_18 (t : ByteArray) (q : Int) (s : Option Addr) (kn c : Nat) (hk : kn ≤ 1048576) (w : World) :
    Calls Tryz.prog 49 #[.agg #[.int .i64 18, .string t, .int .i64 q, .slice s kn c]] w fun e w' => ShapeSays w 18 kn e w' := by
  have hal := alloc_old
  have haf := alloc_oldf
  have k0 := Blk.new w #[.int .i64 18, .string t, .int .i64 q, .slice s kn c] 57
  have L0 := bl_alloc (Below.refl _ w) (.cells #[.int .i64 18, .string t, .int .i64 q, .slice s kn c] 57)
  obtain ⟨x0, x1, x2, x3, x4⟩ := k0.four'
  have HE : Hid (Els 1 cInt (((w.alloc (.cells #[.int .i64 18, .string t, .int .i64 q, .slice s kn c] 57)).alloc (.cells #[] 3)).alloc (.cells #[.int .i64 4, .int .i64 5, .int .i64 3] 3)) w.heap.size (some ⟨(w.heap.size + 2), 0, none⟩) [4, 5, 3]) := Els.few [4, 5, 3] (by simp) (by omega) (Blk.new' _ #[.int .i64 4, .int .i64 5, .int .i64 3] 3 (by simp))
  have HB : Hid (Below w.heap.size w (((w.alloc (.cells #[.int .i64 18, .string t, .int .i64 q, .slice s kn c] 57)).alloc (.cells #[] 3)).alloc (.cells #[.int .i64 4, .int .i64 5, .int .i64 3] 3))) := bl_alloc (bl_alloc L0 _) _
  have hg : IntKind.i64.wrap (kn : Int) = kn := by rw [IntKind.wrap_i64]; omega
  have hd : ((3 : Int) == (kn : Int)) = decide (3 = kn) := by by_cases h : 3 = kn <;> simp [h] <;> omega
  go_enter Tryz.func49, Tryz.ntmps49
  go_wp2_with fail
  go_ret2
  exact ⟨⟨some ⟨(w.heap.size + 2), 0, none⟩, 3, rfl, HE.out⟩, HB.out⟩

set_option maxRecDepth 100000 in
set_option maxHeartbeats 4000000 in
theorem shape_19 (t : ByteArray) (q : Int) (s : Option Addr) (kn c : Nat) (hk : kn ≤ 1048576) (w : World) :
    Calls Tryz.prog 49 #[.agg #[.int .i64 19, .string t, .int .i64 q, .slice s kn c]] w fun e w' => ShapeSays w 19 kn e w' := by
  have hal := alloc_old
  have haf := alloc_oldf
  have k0 := Blk.new w #[.int .i64 19, .string t, .int .i64 q, .slice s kn c] 57
  have L0 := bl_alloc (Below.refl _ w) (.cells #[.int .i64 19, .string t, .int .i64 q, .slice s kn c] 57)
  obtain ⟨x0, x1, x2, x3, x4⟩ := k0.four'
  have HE : Hid (Els 1 cInt (((w.alloc (.cells #[.int .i64 19, .string t, .int .i64 q, .slice s kn c] 57)).alloc (.cells #[] 3)).alloc (.cells #[.int .i64 1] 3)) w.heap.size (some ⟨(w.heap.size + 2), 0, none⟩) [1]) := Els.few [1] (by simp) (by omega) (Blk.new' _ #[.int .i64 1] 3 (by simp))
  have HB : Hid (Below w.heap.size w (((w.alloc (.cells #[.int .i64 19, .string t, .int .i64 q, .slice s kn c] 57)).alloc (.cells #[] 3)).alloc (.cells #[.int .i64 1] 3))) := bl_alloc (bl_alloc L0 _) _
  have hg : IntKind.i64.wrap (kn : Int) = kn := by rw [IntKind.wrap_i64]; omega
  have hd : ((1 : Int) == (kn : Int)) = decide (1 = kn) := by by_cases h : 1 = kn <;> simp [h] <;> omega
  go_enter Tryz.func49, Tryz.ntmps49
  go_wp2_with fail
  go_ret2
  exact ⟨⟨some ⟨(w.heap.size + 2), 0, none⟩, 1, rfl, HE.out⟩, HB.out⟩

set_option maxRecDepth 100000 in
set_option maxHeartbeats 4000000 in
theorem shape_20 (t : ByteArray) (q : Int) (s : Option Addr) (kn c : Nat) (hk : kn ≤ 1048576) (w : World) :
    Calls Tryz.prog 49 #[.agg #[.int .i64 20, .string t, .int .i64 q, .slice s kn c]] w fun e w' => ShapeSays w 20 kn e w' := by
  have hal := alloc_old
  have haf := alloc_oldf
  have k0 := Blk.new w #[.int .i64 20, .string t, .int .i64 q, .slice s kn c] 57
  have L0 := bl_alloc (Below.refl _ w) (.cells #[.int .i64 20, .string t, .int .i64 q, .slice s kn c] 57)
  obtain ⟨x0, x1, x2, x3, x4⟩ := k0.four'
  have HE : Hid (Els 1 cInt (((w.alloc (.cells #[.int .i64 20, .string t, .int .i64 q, .slice s kn c] 57)).alloc (.cells #[] 3)).alloc (.cells #[.int .i64 6, .int .i64 3] 3)) w.heap.size (some ⟨(w.heap.size + 2), 0, none⟩) [6, 3]) := Els.few [6, 3] (by simp) (by omega) (Blk.new' _ #[.int .i64 6, .int .i64 3] 3 (by simp))
  have HB : Hid (Below w.heap.size w (((w.alloc (.cells #[.int .i64 20, .string t, .int .i64 q, .slice s kn c] 57)).alloc (.cells #[] 3)).alloc (.cells #[.int .i64 6, .int .i64 3] 3))) := bl_alloc (bl_alloc L0 _) _
  have hg : IntKind.i64.wrap (kn : Int) = kn := by rw [IntKind.wrap_i64]; omega
  have hd : ((2 : Int) == (kn : Int)) = decide (2 = kn) := by by_cases h : 2 = kn <;> simp [h] <;> omega
  go_enter Tryz.func49, Tryz.ntmps49
  go_wp2_with fail
  go_ret2
  exact ⟨⟨some ⟨(w.heap.size + 2), 0, none⟩, 2, rfl, HE.out⟩, HB.out⟩

set_option maxRecDepth 100000 in
set_option maxHeartbeats 4000000 in
theorem shape_22 (t : ByteArray) (q : Int) (s : Option Addr) (kn c : Nat) (hk : kn ≤ 1048576) (w : World) :
    Calls Tryz.prog 49 #[.agg #[.int .i64 22, .string t, .int .i64 q, .slice s kn c]] w fun e w' => ShapeSays w 22 kn e w' := by
  have hal := alloc_old
  have haf := alloc_oldf
  have k0 := Blk.new w #[.int .i64 22, .string t, .int .i64 q, .slice s kn c] 57
  have L0 := bl_alloc (Below.refl _ w) (.cells #[.int .i64 22, .string t, .int .i64 q, .slice s kn c] 57)
  obtain ⟨x0, x1, x2, x3, x4⟩ := k0.four'
  have HE : Hid (Els 1 cInt ((w.alloc (.cells #[.int .i64 22, .string t, .int .i64 q, .slice s kn c] 57)).alloc (.cells #[] 3)) w.heap.size (some ⟨(w.heap.size + 1), 0, none⟩) []) := Els.few [] (by simp) (by omega) (Blk.new' _ #[] 3 (by simp))
  have HB : Hid (Below w.heap.size w ((w.alloc (.cells #[.int .i64 22, .string t, .int .i64 q, .slice s kn c] 57)).alloc (.cells #[] 3))) := bl_alloc L0 _
  have hg : IntKind.i64.wrap (kn : Int) = kn := by rw [IntKind.wrap_i64]; omega
  have hd : ((0 : Int) == (kn : Int)) = decide (0 = kn) := by by_cases h : 0 = kn <;> simp [h] <;> omega
  go_enter Tryz.func49, Tryz.ntmps49
  go_wp2_with fail
  go_ret2
  exact ⟨⟨some ⟨(w.heap.size + 1), 0, none⟩, 0, rfl, HE.out⟩, HB.out⟩

set_option maxRecDepth 100000 in
set_option maxHeartbeats 4000000 in
theorem shape_23 (t : ByteArray) (q : Int) (s : Option Addr) (kn c : Nat) (hk : kn ≤ 1048576) (w : World) :
    Calls Tryz.prog 49 #[.agg #[.int .i64 23, .string t, .int .i64 q, .slice s kn c]] w fun e w' => ShapeSays w 23 kn e w' := by
  have hal := alloc_old
  have haf := alloc_oldf
  have k0 := Blk.new w #[.int .i64 23, .string t, .int .i64 q, .slice s kn c] 57
  have L0 := bl_alloc (Below.refl _ w) (.cells #[.int .i64 23, .string t, .int .i64 q, .slice s kn c] 57)
  obtain ⟨x0, x1, x2, x3, x4⟩ := k0.four'
  have HE : Hid (Els 1 cInt (((w.alloc (.cells #[.int .i64 23, .string t, .int .i64 q, .slice s kn c] 57)).alloc (.cells #[] 3)).alloc (.cells #[.int .i64 1] 3)) w.heap.size (some ⟨(w.heap.size + 2), 0, none⟩) [1]) := Els.few [1] (by simp) (by omega) (Blk.new' _ #[.int .i64 1] 3 (by simp))
  have HB : Hid (Below w.heap.size w (((w.alloc (.cells #[.int .i64 23, .string t, .int .i64 q, .slice s kn c] 57)).alloc (.cells #[] 3)).alloc (.cells #[.int .i64 1] 3))) := bl_alloc (bl_alloc L0 _) _
  have hg : IntKind.i64.wrap (kn : Int) = kn := by rw [IntKind.wrap_i64]; omega
  have hd : ((1 : Int) == (kn : Int)) = decide (1 = kn) := by by_cases h : 1 = kn <;> simp [h] <;> omega
  go_enter Tryz.func49, Tryz.ntmps49
  go_wp2_with fail
  go_ret2
  exact ⟨⟨some ⟨(w.heap.size + 2), 0, none⟩, 1, rfl, HE.out⟩, HB.out⟩

set_option maxRecDepth 100000 in
set_option maxHeartbeats 4000000 in
theorem shape_24 (t : ByteArray) (q : Int) (s : Option Addr) (kn c : Nat) (hk : kn ≤ 1048576) (w : World) :
    Calls Tryz.prog 49 #[.agg #[.int .i64 24, .string t, .int .i64 q, .slice s kn c]] w fun e w' => ShapeSays w 24 kn e w' := by
  have hal := alloc_old
  have haf := alloc_oldf
  have k0 := Blk.new w #[.int .i64 24, .string t, .int .i64 q, .slice s kn c] 57
  have L0 := bl_alloc (Below.refl _ w) (.cells #[.int .i64 24, .string t, .int .i64 q, .slice s kn c] 57)
  obtain ⟨x0, x1, x2, x3, x4⟩ := k0.four'
  have HE : Hid (Els 1 cInt ((w.alloc (.cells #[.int .i64 24, .string t, .int .i64 q, .slice s kn c] 57)).alloc (.cells #[] 3)) w.heap.size (some ⟨(w.heap.size + 1), 0, none⟩) []) := Els.few [] (by simp) (by omega) (Blk.new' _ #[] 3 (by simp))
  have HB : Hid (Below w.heap.size w ((w.alloc (.cells #[.int .i64 24, .string t, .int .i64 q, .slice s kn c] 57)).alloc (.cells #[] 3))) := bl_alloc L0 _
  have hg : IntKind.i64.wrap (kn : Int) = kn := by rw [IntKind.wrap_i64]; omega
  have hd : ((0 : Int) == (kn : Int)) = decide (0 = kn) := by by_cases h : 0 = kn <;> simp [h] <;> omega
  go_enter Tryz.func49, Tryz.ntmps49
  go_wp2_with fail
  go_ret2
  exact ⟨⟨some ⟨(w.heap.size + 1), 0, none⟩, 0, rfl, HE.out⟩, HB.out⟩

set_option maxRecDepth 100000 in
set_option maxHeartbeats 4000000 in
theorem shape_25 (t : ByteArray) (q : Int) (s : Option Addr) (kn c : Nat) (hk : kn ≤ 1048576) (w : World) :
    Calls Tryz.prog 49 #[.agg #[.int .i64 25, .string t, .int .i64 q, .slice s kn c]] w fun e w' => ShapeSays w 25 kn e w' := by
  have hal := alloc_old
  have haf := alloc_oldf
  have k0 := Blk.new w #[.int .i64 25, .string t, .int .i64 q, .slice s kn c] 57
  have L0 := bl_alloc (Below.refl _ w) (.cells #[.int .i64 25, .string t, .int .i64 q, .slice s kn c] 57)
  obtain ⟨x0, x1, x2, x3, x4⟩ := k0.four'
  have HE : Hid (Els 1 cInt (((w.alloc (.cells #[.int .i64 25, .string t, .int .i64 q, .slice s kn c] 57)).alloc (.cells #[] 3)).alloc (.cells #[.int .i64 10] 3)) w.heap.size (some ⟨(w.heap.size + 2), 0, none⟩) [10]) := Els.few [10] (by simp) (by omega) (Blk.new' _ #[.int .i64 10] 3 (by simp))
  have HB : Hid (Below w.heap.size w (((w.alloc (.cells #[.int .i64 25, .string t, .int .i64 q, .slice s kn c] 57)).alloc (.cells #[] 3)).alloc (.cells #[.int .i64 10] 3))) := bl_alloc (bl_alloc L0 _) _
  have hg : IntKind.i64.wrap (kn : Int) = kn := by rw [IntKind.wrap_i64]; omega
  have hd : ((1 : Int) == (kn : Int)) = decide (1 = kn) := by by_cases h : 1 = kn <;> simp [h] <;> omega
  go_enter Tryz.func49, Tryz.ntmps49
  go_wp2_with fail
  go_ret2
  exact ⟨⟨some ⟨(w.heap.size + 2), 0, none⟩, 1, rfl, HE.out⟩, HB.out⟩

set_option maxRecDepth 100000 in
set_option maxHeartbeats 4000000 in
theorem shape_26 (t : ByteArray) (q : Int) (s : Option Addr) (kn c : Nat) (hk : kn ≤ 1048576) (w : World) :
    Calls Tryz.prog 49 #[.agg #[.int .i64 26, .string t, .int .i64 q, .slice s kn c]] w fun e w' => ShapeSays w 26 kn e w' := by
  have hal := alloc_old
  have haf := alloc_oldf
  have k0 := Blk.new w #[.int .i64 26, .string t, .int .i64 q, .slice s kn c] 57
  have L0 := bl_alloc (Below.refl _ w) (.cells #[.int .i64 26, .string t, .int .i64 q, .slice s kn c] 57)
  obtain ⟨x0, x1, x2, x3, x4⟩ := k0.four'
  have HE : Hid (Els 1 cInt (((w.alloc (.cells #[.int .i64 26, .string t, .int .i64 q, .slice s kn c] 57)).alloc (.cells #[] 3)).alloc (.cells #[.int .i64 1] 3)) w.heap.size (some ⟨(w.heap.size + 2), 0, none⟩) [1]) := Els.few [1] (by simp) (by omega) (Blk.new' _ #[.int .i64 1] 3 (by simp))
  have HB : Hid (Below w.heap.size w (((w.alloc (.cells #[.int .i64 26, .string t, .int .i64 q, .slice s kn c] 57)).alloc (.cells #[] 3)).alloc (.cells #[.int .i64 1] 3))) := bl_alloc (bl_alloc L0 _) _
  have hg : IntKind.i64.wrap (kn : Int) = kn := by rw [IntKind.wrap_i64]; omega
  have hd : ((1 : Int) == (kn : Int)) = decide (1 = kn) := by by_cases h : 1 = kn <;> simp [h] <;> omega
  go_enter Tryz.func49, Tryz.ntmps49
  go_wp2_with fail
  go_ret2
  exact ⟨⟨some ⟨(w.heap.size + 2), 0, none⟩, 1, rfl, HE.out⟩, HB.out⟩

set_option maxRecDepth 100000 in
set_option maxHeartbeats 4000000 in
theorem shape_28 (t : ByteArray) (q : Int) (s : Option Addr) (kn c : Nat) (hk : kn ≤ 1048576) (w : World) :
    Calls Tryz.prog 49 #[.agg #[.int .i64 28, .string t, .int .i64 q, .slice s kn c]] w fun e w' => ShapeSays w 28 kn e w' := by
  have hal := alloc_old
  have haf := alloc_oldf
  have k0 := Blk.new w #[.int .i64 28, .string t, .int .i64 q, .slice s kn c] 57
  have L0 := bl_alloc (Below.refl _ w) (.cells #[.int .i64 28, .string t, .int .i64 q, .slice s kn c] 57)
  obtain ⟨x0, x1, x2, x3, x4⟩ := k0.four'
  have HE : Hid (Els 1 cInt (((w.alloc (.cells #[.int .i64 28, .string t, .int .i64 q, .slice s kn c] 57)).alloc (.cells #[] 3)).alloc (.cells #[.int .i64 1] 3)) w.heap.size (some ⟨(w.heap.size + 2), 0, none⟩) [1]) := Els.few [1] (by simp) (by omega) (Blk.new' _ #[.int .i64 1] 3 (by simp))
  have HB : Hid (Below w.heap.size w (((w.alloc (.cells #[.int .i64 28, .string t, .int .i64 q, .slice s kn c] 57)).alloc (.cells #[] 3)).alloc (.cells #[.int .i64 1] 3))) := bl_alloc (bl_alloc L0 _) _
  have hg : IntKind.i64.wrap (kn : Int) = kn := by rw [IntKind.wrap_i64]; omega
  have hd : ((1 : Int) == (kn : Int)) = decide (1 = kn) := by by_cases h : 1 = kn <;> simp [h] <;> omega
  go_enter Tryz.func49, Tryz.ntmps49
  go_wp2_with fail
  go_ret2
  exact ⟨⟨some ⟨(w.heap.size + 2), 0, none⟩, 1, rfl, HE.out⟩, HB.out⟩

set_option maxRecDepth 100000 in
set_option maxHeartbeats 4000000 in
theorem shape_31 (t : ByteArray) (q : Int) (s : Option Addr) (kn c : Nat) (hk : kn ≤ 1048576) (w : World) :
    Calls Tryz.prog 49 #[.agg #[.int .i64 31, .string t, .int .i64 q, .slice s kn c]] w fun e w' => ShapeSays w 31 kn e w' := by
  have hal := alloc_old
  have haf := alloc_oldf
  have k0 := Blk.new w #[.int .i64 31, .string t, .int .i64 q, .slice s kn c] 57
  have L0 := bl_alloc (Below.refl _ w) (.cells #[.int .i64 31, .string t, .int .i64 q, .slice s kn c] 57)
  obtain ⟨x0, x1, x2, x3, x4⟩ := k0.four'
  have HE : Hid (Els 1 cInt ((w.alloc (.cells #[.int .i64 31, .string t, .int .i64 q, .slice s kn c] 57)).alloc (.cells #[] 3)) w.heap.size (some ⟨(w.heap.size + 1), 0, none⟩) []) := Els.few [] (by simp) (by omega) (Blk.new' _ #[] 3 (by simp))
  have HB : Hid (Below w.heap.size w ((w.alloc (.cells #[.int .i64 31, .string t, .int .i64 q, .slice s kn c] 57)).alloc (.cells #[] 3))) := bl_alloc L0 _
  have hg : IntKind.i64.wrap (kn : Int) = kn := by rw [IntKind.wrap_i64]; omega
  have hd : ((0 : Int) == (kn : Int)) = decide (0 = kn) := by by_cases h : 0 = kn <;> simp [h] <;> omega
  go_enter Tryz.func49, Tryz.ntmps49
  go_wp2_with fail
  go_ret2
  exact ⟨⟨some ⟨(w.heap.size + 1), 0, none⟩, 0, rfl, HE.out⟩, HB.out⟩

set_option maxRecDepth 100000 in
set_option maxHeartbeats 4000000 in
theorem shape_32 (t : ByteArray) (q : Int) (s : Option Addr) (kn c : Nat) (hk : kn ≤ 1048576) (w : World) :
    Calls Tryz.prog 49 #[.agg #[.int .i64 32, .string t, .int .i64 q, .slice s kn c]] w fun e w' => ShapeSays w 32 kn e w' := by
  have hal := alloc_old
  have haf := alloc_oldf
  have k0 := Blk.new w #[.int .i64 32, .string t, .int .i64 q, .slice s kn c] 57
  have L0 := bl_alloc (Below.refl _ w) (.cells #[.int .i64 32, .string t, .int .i64 q, .slice s kn c] 57)
  obtain ⟨x0, x1, x2, x3, x4⟩ := k0.four'
  have HE : Hid (Els 1 cInt ((w.alloc (.cells #[.int .i64 32, .string t, .int .i64 q, .slice s kn c] 57)).alloc (.cells #[] 3)) w.heap.size (some ⟨(w.heap.size + 1), 0, none⟩) []) := Els.few [] (by simp) (by omega) (Blk.new' _ #[] 3 (by simp))
  have HB : Hid (Below w.heap.size w ((w.alloc (.cells #[.int .i64 32, .string t, .int .i64 q, .slice s kn c] 57)).alloc (.cells #[] 3))) := bl_alloc L0 _
  have hg : IntKind.i64.wrap (kn : Int) = kn := by rw [IntKind.wrap_i64]; omega
  have hd : ((0 : Int) == (kn : Int)) = decide (0 = kn) := by by_cases h : 0 = kn <;> simp [h] <;> omega
  go_enter Tryz.func49, Tryz.ntmps49
  go_wp2_with fail
  go_ret2
  exact ⟨⟨some ⟨(w.heap.size + 1), 0, none⟩, 0, rfl, HE.out⟩, HB.out⟩

set_option maxRecDepth 100000 in
set_option maxHeartbeats 4000000 in
theorem shape_34 (t : ByteArray) (q : Int) (s : Option Addr) (kn c : Nat) (hk : kn ≤ 1048576) (w : World) :
    Calls Tryz.prog 49 #[.agg #[.int .i64 34, .string t, .int .i64 q, .slice s kn c]] w fun e w' => ShapeSays w 34 kn e w' := by
  have hal := alloc_old
  have haf := alloc_oldf
  have k0 := Blk.new w #[.int .i64 34, .string t, .int .i64 q, .slice s kn c] 57
  have L0 := bl_alloc (Below.refl _ w) (.cells #[.int .i64 34, .string t, .int .i64 q, .slice s kn c] 57)
  obtain ⟨x0, x1, x2, x3, x4⟩ := k0.four'
  have HE : Hid (Els 1 cInt (((w.alloc (.cells #[.int .i64 34, .string t, .int .i64 q, .slice s kn c] 57)).alloc (.cells #[] 3)).alloc (.cells #[.int .i64 3] 3)) w.heap.size (some ⟨(w.heap.size + 2), 0, none⟩) [3]) := Els.few [3] (by simp) (by omega) (Blk.new' _ #[.int .i64 3] 3 (by simp))
  have HB : Hid (Below w.heap.size w (((w.alloc (.cells #[.int .i64 34, .string t, .int .i64 q, .slice s kn c] 57)).alloc (.cells #[] 3)).alloc (.cells #[.int .i64 3] 3))) := bl_alloc (bl_alloc L0 _) _
  have hg : IntKind.i64.wrap (kn : Int) = kn := by rw [IntKind.wrap_i64]; omega
  have hd : ((1 : Int) == (kn : Int)) = decide (1 = kn) := by by_cases h : 1 = kn <;> simp [h] <;> omega
  go_enter Tryz.func49, Tryz.ntmps49
  go_wp2_with fail
  go_ret2
  exact ⟨⟨some ⟨(w.heap.size + 2), 0, none⟩, 1, rfl, HE.out⟩, HB.out⟩

set_option maxRecDepth 100000 in
set_option maxHeartbeats 4000000 in
theorem shape_7 (t : ByteArray) (q : Int) (s : Option Addr) (kn c : Nat) (hk : kn ≤ 1048576) (w : World) :
    Calls Tryz.prog 49 #[.agg #[.int .i64 7, .string t, .int .i64 q, .slice s kn c]] w fun e w' => ShapeSays w 7 kn e w' := by
  have hal := alloc_old
  have haf := alloc_oldf
  have k0 := Blk.new w #[.int .i64 7, .string t, .int .i64 q, .slice s kn c] 57
  have L0 := bl_alloc (Below.refl _ w) (.cells #[.int .i64 7, .string t, .int .i64 q, .slice s kn c] 57)
  obtain ⟨x0, x1, x2, x3, x4⟩ := k0.four'
  have O0 := OI.empty (Blk.new (w.alloc (.cells #[.int .i64 7, .string t, .int .i64 q, .slice s kn c] 57)) #[] 3)
  have L1 := bl_alloc L0 (.cells #[] 3)
  have O1 := O0.mono (B' := w.heap.size) (by simp)
  rw [show (w.alloc (.cells #[.int .i64 7, .string t, .int .i64 q, .slice s kn c] 57)).heap.size = w.heap.size + 1 by simp] at O1
  clear O0
  go_enter Tryz.func49, Tryz.ntmps49
  go_wp2_with fail
  clear x0 x1 x2 x3 x4 k0 L0
  generalize hX : (w.alloc (.cells #[.int .i64 7, .string t, .int .i64 q, .slice s kn c] 57)).alloc (.cells #[] 3) = X at O1 L1 ⊢
  clear hX
  go_loopw [5, 7] (fun v i wr => ∃ (m : Nat) (s8 : Option Addr) (c8 : Nat) (R8 : List Int), m ≤ kn ∧ i = .int .i64 m ∧ v = .slice s8 R8.length c8 ∧ Hid (R8 = List.replicate m 1) ∧ Hid (OI wr w.heap.size (.slice s8 R8.length c8) R8) ∧ Hid (Below w.heap.size w wr)) (fun _ i _ => kn - (intOf i).toNat)
  case atStart => exact ⟨0, _, 0, [], Nat.zero_le _, rfl, rfl, (by simp [Hid]), O1, L1⟩
  case round =>
    obtain ⟨m, s8, c8, R8, hm, rfl, rfl, hR8, hO8, hb8⟩ := hrel
    have l8 : Hid (R8.length = m) := by show _ = _; rw [hR8.out]; simp
    by_cases hlt : m < kn
    · skip
      have hb3 : Below w.heap.size w (wr.alloc (.cells #[.int .i64 1] 3)) := bl_alloc hb8.out _
      have hO2 : Hid (OI (wr.alloc (.cells #[.int .i64 1] 3)) w.heap.size (.slice s8 R8.length c8) R8) := hO8.out.later (bl_alloc (Below.refl _ _) _)
      have E5 : Hid (Els 1 cInt (wr.alloc (.cells #[.int .i64 1] 3)) wr.heap.size (some ⟨wr.heap.size, 0, none⟩) [1]) := Els.one (Blk.new wr #[.int .i64 1] 3)
      obtain ⟨R2, hR2⟩ : ∃ R2, Hid (R8 ++ [1] = R2) := ⟨_, (rfl : R8 ++ [1] = _)⟩
      have HS : Hid (R2 = List.replicate (m + 1) 1) := by show R2 = _; rw [← hR2.out, hR8.out, rep_succ]
      have l8' : R8.length ≤ 1048576 := by have := l8.out; omega
      have ltI : (m : Int) < (kn : Int) := by omega
      clear hR8 hO8
      go_wp2_with (at_builtin; refine wpList_append_ints rfl _ _ rfl w.heap.size s8 c8 R8 rfl hO2.out wr.heap.size _ 1 [1] rfl E5.out R2 hR2.out (by simp; omega) hb3.size ?_; intro s' c' w4 hO4 hg4 hn4)
      have hO4 : Hid (OI w4 w.heap.size (.slice s' R2.length c') R2) := hO4
      have hb4 : Hid (Below w.heap.size w w4) := grown_oi hb3 hb3.size hO2.out hg4
      clear hg4 hn4 hO2 E5 hb3
      go_wp2_with fail
      go_roundw
      case rel => exact ⟨m + 1, s', c', R2, by omega, by go_num, rfl, HS, hO4, hb4⟩
      case measure => simp [intOf]; omega
    · have HS : Hid (R8 = shp 7 kn) := by show R8 = _; rw [hR8.out, show m = kn by omega]; rfl
      clear hR8
      have hd : ((R8.length : Int) == (kn : Int)) = decide ((shp 7 kn).length = kn) := by rw [← HS.out]; by_cases h : R8.length = kn <;> simp [h] <;> omega
      go_wp2_with fail
      go_ret2
      refine ⟨⟨s8, c8, ?_, ?_⟩, hb8.out⟩
      · rw [← HS.out]; rfl
      · rw [← HS.out]; exact hO8.out.els.drop cInt_drops (by first | exact Nat.le_refl _ | omega)

set_option maxRecDepth 100000 in
set_option maxHeartbeats 4000000 in
theorem shape_21 (t : ByteArray) (q : Int) (s : Option Addr) (kn c : Nat) (hk : kn ≤ 1048576) (w : World) :
    Calls Tryz.prog 49 #[.agg #[.int .i64 21, .string t, .int .i64 q, .slice s kn c]] w fun e w' => ShapeSays w 21 kn e w' := by
  have hal := alloc_old
  have haf := alloc_oldf
  have k0 := Blk.new w #[.int .i64 21, .string t, .int .i64 q, .slice s kn c] 57
  have L0 := bl_alloc (Below.refl _ w) (.cells #[.int .i64 21, .string t, .int .i64 q, .slice s kn c] 57)
  obtain ⟨x0, x1, x2, x3, x4⟩ := k0.four'
  have O0 := OI.empty (Blk.new (w.alloc (.cells #[.int .i64 21, .string t, .int .i64 q, .slice s kn c] 57)) #[] 3)
  have L1 := bl_alloc L0 (.cells #[] 3)
  have O1 := O0.mono (B' := w.heap.size) (by simp)
  rw [show (w.alloc (.cells #[.int .i64 21, .string t, .int .i64 q, .slice s kn c] 57)).heap.size = w.heap.size + 1 by simp] at O1
  clear O0
  go_enter Tryz.func49, Tryz.ntmps49
  go_wp2_with fail
  clear x0 x1 x2 x3 x4 k0 L0
  generalize hX : (w.alloc (.cells #[.int .i64 21, .string t, .int .i64 q, .slice s kn c] 57)).alloc (.cells #[] 3) = X at O1 L1 ⊢
  clear hX
  go_loopw [5, 7] (fun v i wr => ∃ (m : Nat) (s8 : Option Addr) (c8 : Nat) (R8 : List Int), m ≤ kn ∧ i = .int .i64 m ∧ v = .slice s8 R8.length c8 ∧ Hid (R8 = List.replicate m 8) ∧ Hid (OI wr w.heap.size (.slice s8 R8.length c8) R8) ∧ Hid (Below w.heap.size w wr)) (fun _ i _ => kn - (intOf i).toNat)
  case atStart => exact ⟨0, _, 0, [], Nat.zero_le _, rfl, rfl, (by simp [Hid]), O1, L1⟩
  case round =>
    obtain ⟨m, s8, c8, R8, hm, rfl, rfl, hR8, hO8, hb8⟩ := hrel
    have l8 : Hid (R8.length = m) := by show _ = _; rw [hR8.out]; simp
    by_cases hlt : m < kn
    · skip
      have hb3 : Below w.heap.size w (wr.alloc (.cells #[.int .i64 8] 3)) := bl_alloc hb8.out _
      have hO2 : Hid (OI (wr.alloc (.cells #[.int .i64 8] 3)) w.heap.size (.slice s8 R8.length c8) R8) := hO8.out.later (bl_alloc (Below.refl _ _) _)
      have E5 : Hid (Els 1 cInt (wr.alloc (.cells #[.int .i64 8] 3)) wr.heap.size (some ⟨wr.heap.size, 0, none⟩) [8]) := Els.one (Blk.new wr #[.int .i64 8] 3)
      obtain ⟨R2, hR2⟩ : ∃ R2, Hid (R8 ++ [8] = R2) := ⟨_, (rfl : R8 ++ [8] = _)⟩
      have HS : Hid (R2 = List.replicate (m + 1) 8) := by show R2 = _; rw [← hR2.out, hR8.out, rep_succ]
      have l8' : R8.length ≤ 1048576 := by have := l8.out; omega
      have ltI : (m : Int) < (kn : Int) := by omega
      clear hR8 hO8
      go_wp2_with (at_builtin; refine wpList_append_ints rfl _ _ rfl w.heap.size s8 c8 R8 rfl hO2.out wr.heap.size _ 1 [8] rfl E5.out R2 hR2.out (by simp; omega) hb3.size ?_; intro s' c' w4 hO4 hg4 hn4)
      have hO4 : Hid (OI w4 w.heap.size (.slice s' R2.length c') R2) := hO4
      have hb4 : Hid (Below w.heap.size w w4) := grown_oi hb3 hb3.size hO2.out hg4
      clear hg4 hn4 hO2 E5 hb3
      go_wp2_with fail
      go_roundw
      case rel => exact ⟨m + 1, s', c', R2, by omega, by go_num, rfl, HS, hO4, hb4⟩
      case measure => simp [intOf]; omega
    · have HS : Hid (R8 = shp 21 kn) := by show R8 = _; rw [hR8.out, show m = kn by omega]; rfl
      clear hR8
      have hd : ((R8.length : Int) == (kn : Int)) = decide ((shp 21 kn).length = kn) := by rw [← HS.out]; by_cases h : R8.length = kn <;> simp [h] <;> omega
      go_wp2_with fail
      go_ret2
      refine ⟨⟨s8, c8, ?_, ?_⟩, hb8.out⟩
      · rw [← HS.out]; rfl
      · rw [← HS.out]; exact hO8.out.els.drop cInt_drops (by first | exact Nat.le_refl _ | omega)

set_option maxRecDepth 100000 in
set_option maxHeartbeats 4000000 in
theorem shape_27 (t : ByteArray) (q : Int) (s : Option Addr) (kn c : Nat) (hk : kn ≤ 1048576) (w : World) :
    Calls Tryz.prog 49 #[.agg #[.int .i64 27, .string t, .int .i64 q, .slice s kn c]] w fun e w' => ShapeSays w 27 kn e w' := by
  have hal := alloc_old
  have haf := alloc_oldf
  have k0 := Blk.new w #[.int .i64 27, .string t, .int .i64 q, .slice s kn c] 57
  have L0 := bl_alloc (Below.refl _ w) (.cells #[.int .i64 27, .string t, .int .i64 q, .slice s kn c] 57)
  obtain ⟨x0, x1, x2, x3, x4⟩ := k0.four'
  have O0 := OI.empty (Blk.new (w.alloc (.cells #[.int .i64 27, .string t, .int .i64 q, .slice s kn c] 57)) #[] 3)
  have L1 := bl_alloc L0 (.cells #[] 3)
  have O1 := O0.mono (B' := w.heap.size) (by simp)
  rw [show (w.alloc (.cells #[.int .i64 27, .string t, .int .i64 q, .slice s kn c] 57)).heap.size = w.heap.size + 1 by simp] at O1
  clear O0
  go_enter Tryz.func49, Tryz.ntmps49
  go_wp2_with fail
  clear x0 x1 x2 x3 x4 k0 L0
  generalize hX : (w.alloc (.cells #[.int .i64 27, .string t, .int .i64 q, .slice s kn c] 57)).alloc (.cells #[] 3) = X at O1 L1 ⊢
  clear hX
  go_loopw [5, 7] (fun v i wr => ∃ (m : Nat) (s8 : Option Addr) (c8 : Nat) (R8 : List Int), m ≤ kn ∧ i = .int .i64 m ∧ v = .slice s8 R8.length c8 ∧ Hid (R8 = List.replicate m 2) ∧ Hid (OI wr w.heap.size (.slice s8 R8.length c8) R8) ∧ Hid (Below w.heap.size w wr)) (fun _ i _ => kn - (intOf i).toNat)
  case atStart => exact ⟨0, _, 0, [], Nat.zero_le _, rfl, rfl, (by simp [Hid]), O1, L1⟩
  case round =>
    obtain ⟨m, s8, c8, R8, hm, rfl, rfl, hR8, hO8, hb8⟩ := hrel
    have l8 : Hid (R8.length = m) := by show _ = _; rw [hR8.out]; simp
    by_cases hlt : m < kn
    · skip
      have hb3 : Below w.heap.size w (wr.alloc (.cells #[.int .i64 2] 3)) := bl_alloc hb8.out _
      have hO2 : Hid (OI (wr.alloc (.cells #[.int .i64 2] 3)) w.heap.size (.slice s8 R8.length c8) R8) := hO8.out.later (bl_alloc (Below.refl _ _) _)
      have E5 : Hid (Els 1 cInt (wr.alloc (.cells #[.int .i64 2] 3)) wr.heap.size (some ⟨wr.heap.size, 0, none⟩) [2]) := Els.one (Blk.new wr #[.int .i64 2] 3)
      obtain ⟨R2, hR2⟩ : ∃ R2, Hid (R8 ++ [2] = R2) := ⟨_, (rfl : R8 ++ [2] = _)⟩
      have HS : Hid (R2 = List.replicate (m + 1) 2) := by show R2 = _; rw [← hR2.out, hR8.out, rep_succ]
      have l8' : R8.length ≤ 1048576 := by have := l8.out; omega
      have ltI : (m : Int) < (kn : Int) := by omega
      clear hR8 hO8
      go_wp2_with (at_builtin; refine wpList_append_ints rfl _ _ rfl w.heap.size s8 c8 R8 rfl hO2.out wr.heap.size _ 1 [2] rfl E5.out R2 hR2.out (by simp; omega) hb3.size ?_; intro s' c' w4 hO4 hg4 hn4)
      have hO4 : Hid (OI w4 w.heap.size (.slice s' R2.length c') R2) := hO4
      have hb4 : Hid (Below w.heap.size w w4) := grown_oi hb3 hb3.size hO2.out hg4
      clear hg4 hn4 hO2 E5 hb3
      go_wp2_with fail
      go_roundw
      case rel => exact ⟨m + 1, s', c', R2, by omega, by go_num, rfl, HS, hO4, hb4⟩
      case measure => simp [intOf]; omega
    · have HS : Hid (R8 = shp 27 kn) := by show R8 = _; rw [hR8.out, show m = kn by omega]; rfl
      clear hR8
      have hd : ((R8.length : Int) == (kn : Int)) = decide ((shp 27 kn).length = kn) := by rw [← HS.out]; by_cases h : R8.length = kn <;> simp [h] <;> omega
      go_wp2_with fail
      go_ret2
      refine ⟨⟨s8, c8, ?_, ?_⟩, hb8.out⟩
      · rw [← HS.out]; rfl
      · rw [← HS.out]; exact hO8.out.els.drop cInt_drops (by first | exact Nat.le_refl _ | omega)

set_option maxRecDepth 100000 in
set_option maxHeartbeats 4000000 in
theorem shape_30 (t : ByteArray) (q : Int) (s : Option Addr) (kn c : Nat) (hk : kn ≤ 1048576) (w : World) :
    Calls Tryz.prog 49 #[.agg #[.int .i64 30, .string t, .int .i64 q, .slice s kn c]] w fun e w' => ShapeSays w 30 kn e w' := by
  have hal := alloc_old
  have haf := alloc_oldf
  have k0 := Blk.new w #[.int .i64 30, .string t, .int .i64 q, .slice s kn c] 57
  have L0 := bl_alloc (Below.refl _ w) (.cells #[.int .i64 30, .string t, .int .i64 q, .slice s kn c] 57)
  obtain ⟨x0, x1, x2, x3, x4⟩ := k0.four'
  have O0 := OI.empty (Blk.new (w.alloc (.cells #[.int .i64 30, .string t, .int .i64 q, .slice s kn c] 57)) #[] 3)
  have L1 := bl_alloc L0 (.cells #[] 3)
  have O1 := O0.mono (B' := w.heap.size) (by simp)
  rw [show (w.alloc (.cells #[.int .i64 30, .string t, .int .i64 q, .slice s kn c] 57)).heap.size = w.heap.size + 1 by simp] at O1
  clear O0
  go_enter Tryz.func49, Tryz.ntmps49
  go_wp2_with fail
  clear x0 x1 x2 x3 x4 k0 L0
  generalize hX : (w.alloc (.cells #[.int .i64 30, .string t, .int .i64 q, .slice s kn c] 57)).alloc (.cells #[] 3) = X at O1 L1 ⊢
  clear hX
  go_loopw [5, 7] (fun v i wr => ∃ (m : Nat) (s8 : Option Addr) (c8 : Nat) (R8 : List Int), m ≤ kn ∧ i = .int .i64 m ∧ v = .slice s8 R8.length c8 ∧ Hid (R8 = List.replicate m 6) ∧ Hid (OI wr w.heap.size (.slice s8 R8.length c8) R8) ∧ Hid (Below w.heap.size w wr)) (fun _ i _ => kn - (intOf i).toNat)
  case atStart => exact ⟨0, _, 0, [], Nat.zero_le _, rfl, rfl, (by simp [Hid]), O1, L1⟩
  case round =>
    obtain ⟨m, s8, c8, R8, hm, rfl, rfl, hR8, hO8, hb8⟩ := hrel
    have l8 : Hid (R8.length = m) := by show _ = _; rw [hR8.out]; simp
    by_cases hlt : m < kn
    · skip
      have hb3 : Below w.heap.size w (wr.alloc (.cells #[.int .i64 6] 3)) := bl_alloc hb8.out _
      have hO2 : Hid (OI (wr.alloc (.cells #[.int .i64 6] 3)) w.heap.size (.slice s8 R8.length c8) R8) := hO8.out.later (bl_alloc (Below.refl _ _) _)
      have E5 : Hid (Els 1 cInt (wr.alloc (.cells #[.int .i64 6] 3)) wr.heap.size (some ⟨wr.heap.size, 0, none⟩) [6]) := Els.one (Blk.new wr #[.int .i64 6] 3)
      obtain ⟨R2, hR2⟩ : ∃ R2, Hid (R8 ++ [6] = R2) := ⟨_, (rfl : R8 ++ [6] = _)⟩
      have HS : Hid (R2 = List.replicate (m + 1) 6) := by show R2 = _; rw [← hR2.out, hR8.out, rep_succ]
      have l8' : R8.length ≤ 1048576 := by have := l8.out; omega
      have ltI : (m : Int) < (kn : Int) := by omega
      clear hR8 hO8
      go_wp2_with (at_builtin; refine wpList_append_ints rfl _ _ rfl w.heap.size s8 c8 R8 rfl hO2.out wr.heap.size _ 1 [6] rfl E5.out R2 hR2.out (by simp; omega) hb3.size ?_; intro s' c' w4 hO4 hg4 hn4)
      have hO4 : Hid (OI w4 w.heap.size (.slice s' R2.length c') R2) := hO4
      have hb4 : Hid (Below w.heap.size w w4) := grown_oi hb3 hb3.size hO2.out hg4
      clear hg4 hn4 hO2 E5 hb3
      go_wp2_with fail
      go_roundw
      case rel => exact ⟨m + 1, s', c', R2, by omega, by go_num, rfl, HS, hO4, hb4⟩
      case measure => simp [intOf]; omega
    · have HS : Hid (R8 = shp 30 kn) := by show R8 = _; rw [hR8.out, show m = kn by omega]; rfl
      clear hR8
      have hd : ((R8.length : Int) == (kn : Int)) = decide ((shp 30 kn).length = kn) := by rw [← HS.out]; by_cases h : R8.length = kn <;> simp [h] <;> omega
      go_wp2_with fail
      go_ret2
      refine ⟨⟨s8, c8, ?_, ?_⟩, hb8.out⟩
      · rw [← HS.out]; rfl
      · rw [← HS.out]; exact hO8.out.els.drop cInt_drops (by first | exact Nat.le_refl _ | omega)

set_option maxRecDepth 100000 in
set_option maxHeartbeats 4000000 in
theorem shape_11 (t : ByteArray) (q : Int) (s : Option Addr) (kn c : Nat) (hk : kn ≤ 1048576) (w : World) :
    Calls Tryz.prog 49 #[.agg #[.int .i64 11, .string t, .int .i64 q, .slice s kn c]] w fun e w' => ShapeSays w 11 kn e w' := by
  have hal := alloc_old
  have haf := alloc_oldf
  have k0 := Blk.new w #[.int .i64 11, .string t, .int .i64 q, .slice s kn c] 57
  have L0 := bl_alloc (Below.refl _ w) (.cells #[.int .i64 11, .string t, .int .i64 q, .slice s kn c] 57)
  obtain ⟨x0, x1, x2, x3, x4⟩ := k0.four'
  have O1 : OI (((w.alloc (.cells #[.int .i64 11, .string t, .int .i64 q, .slice s kn c] 57)).alloc (.cells #[] 3)).alloc (.cells #[.int .i64 1, .int .i64 6] 3)) w.heap.size (.slice (some ⟨w.heap.size + 2, 0, none⟩) 2 2) [1, 6] := (OI.ofBlk [1, 6] (by simp) (Blk.new' _ #[.int .i64 1, .int .i64 6] 3 (by simp))).mono (by omega)
  have L1 : Below w.heap.size w (((w.alloc (.cells #[.int .i64 11, .string t, .int .i64 q, .slice s kn c] 57)).alloc (.cells #[] 3)).alloc (.cells #[.int .i64 1, .int .i64 6] 3)) := bl_alloc (bl_alloc L0 _) _
  go_enter Tryz.func49, Tryz.ntmps49
  go_wp2_with fail
  clear x0 x1 x2 x3 x4 k0 L0
  generalize hX : ((w.alloc (.cells #[.int .i64 11, .string t, .int .i64 q, .slice s kn c] 57)).alloc (.cells #[] 3)).alloc (.cells #[.int .i64 1, .int .i64 6] 3) = X at O1 L1 ⊢
  clear hX
  go_loopw [5] (fun v wr => ∃ (m : Nat) (s8 : Option Addr) (c8 : Nat) (R8 : List Int), m ≤ kn - 2 ∧ v = .slice s8 R8.length c8 ∧ Hid (R8 = [1, 6] ++ List.replicate m 6) ∧ Hid (OI wr w.heap.size (.slice s8 R8.length c8) R8) ∧ Hid (Below w.heap.size w wr)) (fun v _ => match v with | .slice _ n _ => kn - n | _ => 0)
  case atStart => exact ⟨0, _, 2, [1, 6], Nat.zero_le _, rfl, (by simp [Hid]), O1, L1⟩
  case round =>
    obtain ⟨m, s8, c8, R8, hm, rfl, hR8, hO8, hb8⟩ := hrel
    have l8 : Hid (R8.length = 2 + m) := by show _ = _; rw [hR8.out]; simp <;> omega
    by_cases hlt : R8.length < kn
    · skip
      have hb3 : Below w.heap.size w (wr.alloc (.cells #[.int .i64 6] 3)) := bl_alloc hb8.out _
      have hO2 : Hid (OI (wr.alloc (.cells #[.int .i64 6] 3)) w.heap.size (.slice s8 R8.length c8) R8) := hO8.out.later (bl_alloc (Below.refl _ _) _)
      have E5 : Hid (Els 1 cInt (wr.alloc (.cells #[.int .i64 6] 3)) wr.heap.size (some ⟨wr.heap.size, 0, none⟩) [6]) := Els.one (Blk.new wr #[.int .i64 6] 3)
      obtain ⟨R2, hR2⟩ : ∃ R2, Hid (R8 ++ [6] = R2) := ⟨_, (rfl : R8 ++ [6] = _)⟩
      have HS : Hid (R2 = [1, 6] ++ List.replicate (m + 1) 6) := by show R2 = _; rw [← hR2.out, hR8.out, rep_succ, List.append_assoc]
      have hl2 : Hid (R2.length = R8.length + 1) := by show _ = _; rw [← hR2.out]; simp
      have l8' : R8.length ≤ 1048576 := by have := l8.out; omega
      have ltI : (R8.length : Int) < (kn : Int) := by omega
      clear hR8 hO8
      go_wp2_with (at_builtin; refine wpList_append_ints rfl _ _ rfl w.heap.size s8 c8 R8 rfl hO2.out wr.heap.size _ 1 [6] rfl E5.out R2 hR2.out (by simp; omega) hb3.size ?_; intro s' c' w4 hO4 hg4 hn4)
      have hO4 : Hid (OI w4 w.heap.size (.slice s' R2.length c') R2) := hO4
      have hb4 : Hid (Below w.heap.size w w4) := grown_oi hb3 hb3.size hO2.out hg4
      clear hg4 hn4 hO2 E5 hb3
      go_wp2_with fail
      go_roundw
      case rel => exact ⟨m + 1, s', c', R2, by have := l8.out; omega, rfl, HS, hO4, hb4⟩
      case measure => have := hl2.out; simp only; omega
    · have HS : Hid (R8 = shp 11 kn) := by show R8 = _; rw [hR8.out, show m = kn - 2 by have := l8.out; omega]; rfl
      have ltI : ¬ (R8.length : Int) < (kn : Int) := by omega
      clear hR8
      have hd : ((R8.length : Int) == (kn : Int)) = decide ((shp 11 kn).length = kn) := by rw [← HS.out]; by_cases h : R8.length = kn <;> simp [h] <;> omega
      go_wp2_with fail
      go_ret2
      refine ⟨⟨s8, c8, ?_, ?_⟩, hb8.out⟩
      · rw [← HS.out]; rfl
      · rw [← HS.out]; exact hO8.out.els.drop cInt_drops (by first | exact Nat.le_refl _ | omega)

set_option maxRecDepth 100000 in
set_option maxHeartbeats 4000000 in
theorem shape_29 (t : ByteArray) (q : Int) (s : Option Addr) (kn c : Nat) (hk : kn ≤ 1048576) (w : World) :
    Calls Tryz.prog 49 #[.agg #[.int .i64 29, .string t, .int .i64 q, .slice s kn c]] w fun e w' => ShapeSays w 29 kn e w' := by
  have hal := alloc_old
  have haf := alloc_oldf
  have k0 := Blk.new w #[.int .i64 29, .string t, .int .i64 q, .slice s kn c] 57
  have L0 := bl_alloc (Below.refl _ w) (.cells #[.int .i64 29, .string t, .int .i64 q, .slice s kn c] 57)
  obtain ⟨x0, x1, x2, x3, x4⟩ := k0.four'
  have O1 : OI (((w.alloc (.cells #[.int .i64 29, .string t, .int .i64 q, .slice s kn c] 57)).alloc (.cells #[] 3)).alloc (.cells #[.int .i64 6] 3)) w.heap.size (.slice (some ⟨w.heap.size + 2, 0, none⟩) 1 1) [6] := (OI.ofBlk [6] (by simp) (Blk.new' _ #[.int .i64 6] 3 (by simp))).mono (by omega)
  have L1 : Below w.heap.size w (((w.alloc (.cells #[.int .i64 29, .string t, .int .i64 q, .slice s kn c] 57)).alloc (.cells #[] 3)).alloc (.cells #[.int .i64 6] 3)) := bl_alloc (bl_alloc L0 _) _
  go_enter Tryz.func49, Tryz.ntmps49
  go_wp2_with fail
  clear x0 x1 x2 x3 x4 k0 L0
  generalize hX : ((w.alloc (.cells #[.int .i64 29, .string t, .int .i64 q, .slice s kn c] 57)).alloc (.cells #[] 3)).alloc (.cells #[.int .i64 6] 3) = X at O1 L1 ⊢
  clear hX
  go_loopw [5] (fun v wr => ∃ (m : Nat) (s8 : Option Addr) (c8 : Nat) (R8 : List Int), m ≤ kn - 1 ∧ v = .slice s8 R8.length c8 ∧ Hid (R8 = [6] ++ List.replicate m 6) ∧ Hid (OI wr w.heap.size (.slice s8 R8.length c8) R8) ∧ Hid (Below w.heap.size w wr)) (fun v _ => match v with | .slice _ n _ => kn - n | _ => 0)
  case atStart => exact ⟨0, _, 1, [6], Nat.zero_le _, rfl, (by simp [Hid]), O1, L1⟩
  case round =>
    obtain ⟨m, s8, c8, R8, hm, rfl, hR8, hO8, hb8⟩ := hrel
    have l8 : Hid (R8.length = 1 + m) := by show _ = _; rw [hR8.out]; simp <;> omega
    by_cases hlt : R8.length < kn
    · skip
      have hb3 : Below w.heap.size w (wr.alloc (.cells #[.int .i64 6] 3)) := bl_alloc hb8.out _
      have hO2 : Hid (OI (wr.alloc (.cells #[.int .i64 6] 3)) w.heap.size (.slice s8 R8.length c8) R8) := hO8.out.later (bl_alloc (Below.refl _ _) _)
      have E5 : Hid (Els 1 cInt (wr.alloc (.cells #[.int .i64 6] 3)) wr.heap.size (some ⟨wr.heap.size, 0, none⟩) [6]) := Els.one (Blk.new wr #[.int .i64 6] 3)
      obtain ⟨R2, hR2⟩ : ∃ R2, Hid (R8 ++ [6] = R2) := ⟨_, (rfl : R8 ++ [6] = _)⟩
      have HS : Hid (R2 = [6] ++ List.replicate (m + 1) 6) := by show R2 = _; rw [← hR2.out, hR8.out, rep_succ, List.append_assoc]
      have hl2 : Hid (R2.length = R8.length + 1) := by show _ = _; rw [← hR2.out]; simp
      have l8' : R8.length ≤ 1048576 := by have := l8.out; omega
      have ltI : (R8.length : Int) < (kn : Int) := by omega
      clear hR8 hO8
      go_wp2_with (at_builtin; refine wpList_append_ints rfl _ _ rfl w.heap.size s8 c8 R8 rfl hO2.out wr.heap.size _ 1 [6] rfl E5.out R2 hR2.out (by simp; omega) hb3.size ?_; intro s' c' w4 hO4 hg4 hn4)
      have hO4 : Hid (OI w4 w.heap.size (.slice s' R2.length c') R2) := hO4
      have hb4 : Hid (Below w.heap.size w w4) := grown_oi hb3 hb3.size hO2.out hg4
      clear hg4 hn4 hO2 E5 hb3
      go_wp2_with fail
      go_roundw
      case rel => exact ⟨m + 1, s', c', R2, by have := l8.out; omega, rfl, HS, hO4, hb4⟩
      case measure => have := hl2.out; simp only; omega
    · have HS : Hid (R8 = shp 29 kn) := by show R8 = _; rw [hR8.out, show m = kn - 1 by have := l8.out; omega]; rfl
      have ltI : ¬ (R8.length : Int) < (kn : Int) := by omega
      clear hR8
      have hd : ((R8.length : Int) == (kn : Int)) = decide ((shp 29 kn).length = kn) := by rw [← HS.out]; by_cases h : R8.length = kn <;> simp [h] <;> omega
      go_wp2_with fail
      go_ret2
      refine ⟨⟨s8, c8, ?_, ?_⟩, hb8.out⟩
      · rw [← HS.out]; rfl
      · rw [← HS.out]; exact hO8.out.els.drop cInt_drops (by first | exact Nat.le_refl _ | omega)

set_option maxRecDepth 100000 in
set_option maxHeartbeats 4000000 in
theorem shape_33 (t : ByteArray) (q : Int) (s : Option Addr) (kn c : Nat) (hk : kn ≤ 1048576) (w : World) :
    Calls Tryz.prog 49 #[.agg #[.int .i64 33, .string t, .int .i64 q, .slice s kn c]] w fun e w' => ShapeSays w 33 kn e w' := by
  have hal := alloc_old
  have haf := alloc_oldf
  have k0 := Blk.new w #[.int .i64 33, .string t, .int .i64 q, .slice s kn c] 57
  have L0 := bl_alloc (Below.refl _ w) (.cells #[.int .i64 33, .string t, .int .i64 q, .slice s kn c] 57)
  obtain ⟨x0, x1, x2, x3, x4⟩ := k0.four'
  have O1 : OI ((w.alloc (.cells #[.int .i64 33, .string t, .int .i64 q, .slice s kn c] 57)).alloc (.cells #[] 3)) w.heap.size (.slice (some ⟨w.heap.size + 1, 0, none⟩) 0 0) [] := (OI.empty (Blk.new' _ #[] 3 (by simp))).mono (by omega)
  have L1 : Below w.heap.size w ((w.alloc (.cells #[.int .i64 33, .string t, .int .i64 q, .slice s kn c] 57)).alloc (.cells #[] 3)) := bl_alloc L0 _
  go_enter Tryz.func49, Tryz.ntmps49
  go_wp2_with fail
  clear x0 x1 x2 x3 x4 k0 L0
  generalize hX : (w.alloc (.cells #[.int .i64 33, .string t, .int .i64 q, .slice s kn c] 57)).alloc (.cells #[] 3) = X at O1 L1 ⊢
  clear hX
  go_loopw [5] (fun v wr => ∃ (m : Nat) (s8 : Option Addr) (c8 : Nat) (R8 : List Int), m ≤ kn - 1 ∧ v = .slice s8 R8.length c8 ∧ Hid (R8 = [] ++ List.replicate m 7) ∧ Hid (OI wr w.heap.size (.slice s8 R8.length c8) R8) ∧ Hid (Below w.heap.size w wr)) (fun v _ => match v with | .slice _ n _ => kn - n | _ => 0)
  case atStart => exact ⟨0, _, 0, [], Nat.zero_le _, rfl, (by simp [Hid]), O1, L1⟩
  case round =>
    obtain ⟨m, s8, c8, R8, hm, rfl, hR8, hO8, hb8⟩ := hrel
    have l8 : Hid (R8.length = 0 + m) := by show _ = _; rw [hR8.out]; simp <;> omega
    by_cases hlt : R8.length + 1 < kn
    · skip
      have hb3 : Below w.heap.size w (wr.alloc (.cells #[.int .i64 7] 3)) := bl_alloc hb8.out _
      have hO2 : Hid (OI (wr.alloc (.cells #[.int .i64 7] 3)) w.heap.size (.slice s8 R8.length c8) R8) := hO8.out.later (bl_alloc (Below.refl _ _) _)
      have E5 : Hid (Els 1 cInt (wr.alloc (.cells #[.int .i64 7] 3)) wr.heap.size (some ⟨wr.heap.size, 0, none⟩) [7]) := Els.one (Blk.new wr #[.int .i64 7] 3)
      obtain ⟨R2, hR2⟩ : ∃ R2, Hid (R8 ++ [7] = R2) := ⟨_, (rfl : R8 ++ [7] = _)⟩
      have HS : Hid (R2 = [] ++ List.replicate (m + 1) 7) := by show R2 = _; rw [← hR2.out, hR8.out, rep_succ, List.append_assoc]
      have hl2 : Hid (R2.length = R8.length + 1) := by show _ = _; rw [← hR2.out]; simp
      have l8' : R8.length ≤ 1048576 := by have := l8.out; omega
      have ltI : (R8.length : Int) + 1 < (kn : Int) := by omega
      clear hR8 hO8
      go_wp2_with (at_builtin; refine wpList_append_ints rfl _ _ rfl w.heap.size s8 c8 R8 rfl hO2.out wr.heap.size _ 1 [7] rfl E5.out R2 hR2.out (by simp; omega) hb3.size ?_; intro s' c' w4 hO4 hg4 hn4)
      have hO4 : Hid (OI w4 w.heap.size (.slice s' R2.length c') R2) := hO4
      have hb4 : Hid (Below w.heap.size w w4) := grown_oi hb3 hb3.size hO2.out hg4
      clear hg4 hn4 hO2 E5 hb3
      go_wp2_with fail
      go_roundw
      case rel => exact ⟨m + 1, s', c', R2, by have := l8.out; omega, rfl, HS, hO4, hb4⟩
      case measure => have := hl2.out; simp only; omega
    · have HS0 : Hid (R8 = List.replicate (kn - 1) 7) := by show R8 = _; rw [hR8.out, show m = kn - 1 by have := l8.out; omega]; rfl
      have ltI : ¬ (R8.length : Int) + 1 < (kn : Int) := by omega
      have l8' : R8.length ≤ 1048576 := by have := l8.out; omega
      have hb3 : Below w.heap.size w (wr.alloc (.cells #[.int .i64 3] 3)) := bl_alloc hb8.out _
      have hO2 : Hid (OI (wr.alloc (.cells #[.int .i64 3] 3)) w.heap.size (.slice s8 R8.length c8) R8) := hO8.out.later (bl_alloc (Below.refl _ _) _)
      have E5 : Hid (Els 1 cInt (wr.alloc (.cells #[.int .i64 3] 3)) wr.heap.size (some ⟨wr.heap.size, 0, none⟩) [3]) := Els.one (Blk.new wr #[.int .i64 3] 3)
      obtain ⟨R2, hR2⟩ : ∃ R2, Hid (R8 ++ [3] = R2) := ⟨_, (rfl : R8 ++ [3] = _)⟩
      have hdn : ∀ n : Nat, ((n : Int) == (kn : Int)) = decide (n = kn) := fun n => by by_cases h : n = kn <;> simp [h] <;> omega
      have HS : Hid (R2 = shp 33 kn) := by show R2 = _; rw [← hR2.out, HS0.out]; rfl
      clear hR8 hO8
      go_wp2_with (at_builtin; refine wpList_append_ints rfl _ _ rfl w.heap.size s8 c8 R8 rfl hO2.out wr.heap.size _ 1 [3] rfl E5.out R2 hR2.out (by simp; omega) hb3.size ?_; intro s' c' w4 hO4 hg4 hn4)
      have hO4 : Hid (OI w4 w.heap.size (.slice s' R2.length c') R2) := hO4
      have hb4 : Hid (Below w.heap.size w w4) := grown_oi hb3 hb3.size hO2.out hg4
      clear hg4 hn4 hO2 E5 hb3
      have hd : ((R2.length : Int) == (kn : Int)) = decide ((shp 33 kn).length = kn) := by rw [← HS.out]; by_cases h : R2.length = kn <;> simp [h] <;> omega
      go_wp2_with fail
      go_ret2
      refine ⟨⟨s', c', ?_, ?_⟩, hb4.out⟩
      · rw [← HS.out]; rfl
      · rw [← HS.out]; exact hO4.out.els.drop cInt_drops (by first | exact Nat.le_refl _ | omega)

set_option maxRecDepth 100000 in
set_option maxHeartbeats 4000000 in
theorem shape_16 (t : ByteArray) (q : Int) (s : Option Addr) (kn c : Nat) (hk : kn ≤ 1048576) (w : World) :
    Calls Tryz.prog 49 #[.agg #[.int .i64 16, .string t, .int .i64 q, .slice s kn c]] w fun e w' => ShapeSays w 16 kn e w' := by
  have hal := alloc_old
  have haf := alloc_oldf
  have k0 := Blk.new w #[.int .i64 16, .string t, .int .i64 q, .slice s kn c] 57
  have L0 := bl_alloc (Below.refl _ w) (.cells #[.int .i64 16, .string t, .int .i64 q, .slice s kn c] 57)
  obtain ⟨x0, x1, x2, x3, x4⟩ := k0.four'
  by_cases h3 : kn = 3
  · subst h3
    have HE : Hid (Els 1 cInt ((((w.alloc (.cells #[.int .i64 16, .string t, .int .i64 q, .slice s 3 c] 57)).alloc (.cells #[] 3)).alloc (.cells #[.int .i64 1, .int .i64 3] 3)).alloc (.cells #[.int .i64 1, .int .i64 3, .int .i64 3] 3)) w.heap.size (some ⟨w.heap.size + 3, 0, none⟩) [1, 3, 3]) := Els.few [1, 3, 3] (by simp) (by omega) (Blk.new' _ #[.int .i64 1, .int .i64 3, .int .i64 3] 3 (by simp))
    have HB : Hid (Below w.heap.size w ((((w.alloc (.cells #[.int .i64 16, .string t, .int .i64 q, .slice s 3 c] 57)).alloc (.cells #[] 3)).alloc (.cells #[.int .i64 1, .int .i64 3] 3)).alloc (.cells #[.int .i64 1, .int .i64 3, .int .i64 3] 3))) := bl_alloc (bl_alloc (bl_alloc L0 _) _) _
    go_enter Tryz.func49, Tryz.ntmps49
    go_wp2_with fail
    go_ret2
    exact ⟨⟨some ⟨w.heap.size + 3, 0, none⟩, 3, rfl, HE.out⟩, HB.out⟩
  · have HS : Hid (shp 16 kn = [1, 3]) := by show _ = _; unfold shp; simp [h3]
    have HE : Hid (Els 1 cInt (((w.alloc (.cells #[.int .i64 16, .string t, .int .i64 q, .slice s kn c] 57)).alloc (.cells #[] 3)).alloc (.cells #[.int .i64 1, .int .i64 3] 3)) w.heap.size (some ⟨w.heap.size + 2, 0, none⟩) [1, 3]) := Els.few [1, 3] (by simp) (by omega) (Blk.new' _ #[.int .i64 1, .int .i64 3] 3 (by simp))
    have HB : Hid (Below w.heap.size w (((w.alloc (.cells #[.int .i64 16, .string t, .int .i64 q, .slice s kn c] 57)).alloc (.cells #[] 3)).alloc (.cells #[.int .i64 1, .int .i64 3] 3))) := bl_alloc (bl_alloc L0 _) _
    have hg : IntKind.i64.wrap (kn : Int) = kn := by rw [IntKind.wrap_i64]; omega
    have h3' : ((kn : Int) == 3) = false := by simp; omega
    have hd : ((2 : Int) == (kn : Int)) = decide (2 = kn) := by by_cases h : 2 = kn <;> simp [h] <;> omega
    clear h3
    go_enter Tryz.func49, Tryz.ntmps49
    go_wp2_with fail
    go_ret2
    refine ⟨⟨some ⟨w.heap.size + 2, 0, none⟩, 2, ?_, ?_⟩, HB.out⟩
    · rw [HS.out]; rfl
    · rw [HS.out]; exact HE.out

set_option maxRecDepth 100000 in
set_option maxHeartbeats 4000000 in
theorem shape_none (k : Int) (hn : k < 1 ∨ 34 < k) (t : ByteArray) (q : Int) (s : Option Addr) (kn c : Nat) (hk : kn ≤ 1048576) (w : World) :
    Calls Tryz.prog 49 #[.agg #[.int .i64 k, .string t, .int .i64 q, .slice s kn c]] w fun e w' => ShapeSays w k kn e w' := by
  have hal := alloc_old
  have haf := alloc_oldf
  have k0 := Blk.new w #[.int .i64 k, .string t, .int .i64 q, .slice s kn c] 57
  have L0 := bl_alloc (Below.refl _ w) (.cells #[.int .i64 k, .string t, .int .i64 q, .slice s kn c] 57)
  obtain ⟨x0, x1, x2, x3, x4⟩ := k0.four'
  have HS : Hid (shp k kn = []) := shp_none hn kn
  have HE : Hid (Els 1 cInt ((w.alloc (.cells #[.int .i64 k, .string t, .int .i64 q, .slice s kn c] 57)).alloc (.cells #[] 3)) w.heap.size (some ⟨w.heap.size + 1, 0, none⟩) (shp k kn)) := by rw [HS.out]; exact Or.inl rfl
  have HB : Hid (Below w.heap.size w ((w.alloc (.cells #[.int .i64 k, .string t, .int .i64 q, .slice s kn c] 57)).alloc (.cells #[] 3))) := bl_alloc L0 _
  have hg : IntKind.i64.wrap (kn : Int) = kn := by rw [IntKind.wrap_i64]; omega
  have hd : ((0 : Int) == (kn : Int)) = decide (0 = kn) := by by_cases h : 0 = kn <;> simp [h] <;> omega
  have e1 := (noKind hn).ne 1 (by omega) (by omega)
  have e2 := (noKind hn).ne 2 (by omega) (by omega)
  have e3 := (noKind hn).ne 3 (by omega) (by omega)
  have e4 := (noKind hn).ne 4 (by omega) (by omega)
  have e5 := (noKind hn).ne 5 (by omega) (by omega)
  have e6 := (noKind hn).ne 6 (by omega) (by omega)
  have e7 := (noKind hn).ne 7 (by omega) (by omega)
  have e8 := (noKind hn).ne 8 (by omega) (by omega)
  have e9 := (noKind hn).ne 9 (by omega) (by omega)
  have e10 := (noKind hn).ne 10 (by omega) (by omega)
  have e11 := (noKind hn).ne 11 (by omega) (by omega)
  have e12 := (noKind hn).ne 12 (by omega) (by omega)
  have e13 := (noKind hn).ne 13 (by omega) (by omega)
  have e14 := (noKind hn).ne 14 (by omega) (by omega)
  have e15 := (noKind hn).ne 15 (by omega) (by omega)
  have e16 := (noKind hn).ne 16 (by omega) (by omega)
  have e17 := (noKind hn).ne 17 (by omega) (by omega)
  have e18 := (noKind hn).ne 18 (by omega) (by omega)
  have e19 := (noKind hn).ne 19 (by omega) (by omega)
  have e20 := (noKind hn).ne 20 (by omega) (by omega)
  have e21 := (noKind hn).ne 21 (by omega) (by omega)
  have e22 := (noKind hn).ne 22 (by omega) (by omega)
  have e23 := (noKind hn).ne 23 (by omega) (by omega)
  have e24 := (noKind hn).ne 24 (by omega) (by omega)
  have e25 := (noKind hn).ne 25 (by omega) (by omega)
  have e26 := (noKind hn).ne 26 (by omega) (by omega)
  have e27 := (noKind hn).ne 27 (by omega) (by omega)
  have e28 := (noKind hn).ne 28 (by omega) (by omega)
  have e29 := (noKind hn).ne 29 (by omega) (by omega)
  have e30 := (noKind hn).ne 30 (by omega) (by omega)
  have e31 := (noKind hn).ne 31 (by omega) (by omega)
  have e32 := (noKind hn).ne 32 (by omega) (by omega)
  have e33 := (noKind hn).ne 33 (by omega) (by omega)
  have e34 := (noKind hn).ne 34 (by omega) (by omega)
  clear hn
  go_enter Tryz.func49, Tryz.ntmps49
  go_wp2_with fail
  go_ret2
  refine ⟨⟨some ⟨w.heap.size + 1, 0, none⟩, 0, ?_, HE.out⟩, HB.out⟩
  rw [HS.out]; rfl

theorem l8Shape_any (k : Int) (t : ByteArray) (q : Int) (s : Option Addr) (kn c : Nat) (hk : kn ≤ 1048576) (w : World) :
    Calls Tryz.prog 49 #[.agg #[.int .i64 k, .string t, .int .i64 q, .slice s kn c]] w fun e w' => ShapeSays w k kn e w' := by
  rcases kind_split k with h | h | rfl | rfl | rfl | rfl | rfl | rfl | rfl | rfl | rfl | rfl | rfl | rfl | rfl | rfl | rfl | rfl | rfl | rfl | rfl | rfl | rfl | rfl | rfl | rfl | rfl | rfl | rfl | rfl | rfl | rfl | rfl | rfl | rfl | rfl
  · exact shape_none k (Or.inl h) t q s kn c hk w
  · exact shape_none k (Or.inr h) t q s kn c hk w
  · exact shape_1 t q s kn c hk w
  · exact shape_2 t q s kn c hk w
  · exact shape_3 t q s kn c hk w
  · exact shape_4 t q s kn c hk w
  · exact shape_5 t q s kn c hk w
  · exact shape_6 t q s kn c hk w
  · exact shape_7 t q s kn c hk w
  · exact shape_8 t q s kn c hk w
  · exact shape_9 t q s kn c hk w
  · exact shape_10 t q s kn c hk w
  · exact shape_11 t q s kn c hk w
  · exact shape_12 t q s kn c hk w
  · exact shape_13 t q s kn c hk w
  · exact shape_14 t q s kn c hk w
  · exact shape_15 t q s kn c hk w
  · exact shape_16 t q s kn c hk w
  · exact shape_17 t q s kn c hk w
  · exact shape_18 t q s kn c hk w
  · exact shape_19 t q s kn c hk w
  · exact shape_20 t q s kn c hk w
  · exact shape_21 t q s kn c hk w
  · exact shape_22 t q s kn c hk w
  · exact shape_23 t q s kn c hk w
  · exact shape_24 t q s kn c hk w
  · exact shape_25 t q s kn c hk w
  · exact shape_26 t q s kn c hk w
  · exact shape_27 t q s kn c hk w
  · exact shape_28 t q s kn c hk w
  · exact shape_29 t q s kn c hk w
  · exact shape_30 t q s kn c hk w
  · exact shape_31 t q s kn c hk w
  · exact shape_32 t q s kn c hk w
  · exact shape_33 t q s kn c hk w
  · exact shape_34 t q s kn c hk w
end Go.Proofs.YtknallkcengbbaaGreatDoor
