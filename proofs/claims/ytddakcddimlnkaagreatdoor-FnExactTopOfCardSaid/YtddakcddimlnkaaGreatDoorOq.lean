import Derived.Test.YtddakcddimlnkaaGreatDoorOm
import Derived.Test.YtddakcddimlnkaaGreatDoorJb
import Derived.Test.YtddakcddimlnkaaGreatDoorJc
import Derived.Deep.RegionHeld3
namespace Go.Proofs.YtddakcddimlnkaaGreatDoor
open Go.RowKit
set_option linter.unusedVariables false
set_option linter.unusedSimpArgs false

/-- the text of a node that is named by its number. -/
def txAt (t : Tre) (x : Int) : ByteArray := ((t.nodes[x.toNat]?).map Nd.text).getD ⟨#[]⟩
/-- the first top of a name. -/
def topF (t : Tre) (nm : ByteArray) : List Int → Int
  | [] => -1
  | x :: l => if ((txAt t x).toList == nm.toList) = true then x else topF t nm l
noncomputable def topV (t : Tre) (nm : ByteArray) : Int := if treB t = true then topF t nm t.tops else -1
theorem tops_valid {t : Tre} (h : treP t) : ∀ x ∈ t.tops, ∃ m : Nat, x = m ∧ m < t.nodes.length := run_valid (tre_run h)
theorem treB_get {t : Tre} (h : treB t = true) : treP t := by
  by_cases g : treP t
  · exact g
  · rw [treB_false g] at h; cases h
theorem topF_no {t : Tre} {nm : ByteArray} {l : List Int} {j : Nat} {x : Int} (hx : l[j]? = some x) (h : ((txAt t x).toList == nm.toList) = false) : topF t nm (l.drop j) = topF t nm (l.drop (j + 1)) := by
  obtain ⟨hj, rfl⟩ := List.getElem?_eq_some_iff.1 hx
  rw [List.drop_eq_getElem_cons hj, topF, h]
  rfl
theorem topF_yes {t : Tre} {nm : ByteArray} {l : List Int} {j : Nat} {x : Int} (hx : l[j]? = some x) (h : ((txAt t x).toList == nm.toList) = true) : topF t nm (l.drop j) = x := by
  obtain ⟨hj, rfl⟩ := List.getElem?_eq_some_iff.1 hx
  rw [List.drop_eq_getElem_cons hj, topF, h]
  rfl

set_option maxRecDepth 100000 in
set_option maxHeartbeats 4000000 in
theorem specTopOf_any (t : Tre) (nm : ByteArray) (s1 s2 : Option Addr) (c1 c2 B : Nat) (w : World) (hT : InT w B s1 s2 t) (hkt : kTre t) :
    Calls Tryz.prog 10 #[.agg #[.slice s1 t.nodes.length c1, .slice s2 t.tops.length c2], .string nm] w fun e w' => e = .returned (.int .i64 (topV t nm)) ∧ Below w.heap.size w w' := by
  have hal := alloc_old
  have haf := alloc_oldf
  have k0 := Blk.new w #[.slice s1 t.nodes.length c1, .slice s2 t.tops.length c2] 30
  have L0 := bl_alloc (Below.refl _ w) (.cells #[.slice s1 t.nodes.length c1, .slice s2 t.tops.length c2] 30)
  obtain ⟨x0, x1, x2⟩ := k0.two
  have hr := specTreeOk_any t s1 s2 c1 c2 B _ (hT.later L0) hkt
  have htl : t.tops.length ≤ 1048576 := hkt.2
  have hnl : t.nodes.length ≤ 1048576 := hkt.1.1
  have HT : Hid (InT w B s1 s2 t) := hT
  clear hkt hT
  go_enter Tryz.func10, Tryz.ntmps10
  go_wp2_with fail
  refine hr.mono ?_
  rintro e W1 ⟨rfl, hb1⟩
  have K1 : Hid (Blk W1 w.heap.size #[.slice s1 t.nodes.length c1, .slice s2 t.tops.length c2] 30) := k0.later hb1
  have L1 : Hid (Below w.heap.size w W1) := bl_trans L0 hb1
  have sz1 : w.heap.size < W1.heap.size := K1.out.lt
  clear hr x0 x1 x2 k0 L0 hb1
  cases hq : treB t
  · have HE : Hid (topV t nm = -1) := by show _ = _; unfold topV; rw [hq]; rfl
    go_wp2_with fail
    go_ret
    exact ⟨by rw [HE.out]; rfl, L1.out⟩
  have HE : Hid (topV t nm = topF t nm t.tops) := by show _ = _; unfold topV; rw [hq]; rfl
  have HV : Hid (∀ x ∈ t.tops, ∃ m : Nat, x = m ∧ m < t.nodes.length) := tops_valid (treB_get hq)
  clear hq
  obtain ⟨x0, x1, x2⟩ := K1.out.two
  go_wp2_with fail
  clear x0 x1 x2
  go_loopw [5] (fun i wr => ∃ j : Nat, j ≤ t.tops.length ∧ i = .int .i64 j ∧ Hid (topF t nm t.tops = topF t nm (t.tops.drop j)) ∧ Hid (Below W1.heap.size W1 wr)) (fun i _ => t.tops.length - (intOf i).toNat)
  case atStart => exact ⟨0, Nat.zero_le _, rfl, rfl, Below.refl _ _⟩
  case round =>
    obtain ⟨j, hj, rfl, hF, hb⟩ := hrel
    obtain ⟨x0, x1, x2⟩ := (K1.out.later hb.out).two
    have hbW : Hid (Below w.heap.size w wr) := Below.trans L1.out (by have := hb.out; exact ⟨this.os, this.tape, this.output, this.size, fun i hi => this.block i (by omega)⟩)
    by_cases hlt : j < t.tops.length
    · obtain ⟨x, hxj⟩ := get_some hlt
      obtain ⟨kb, ko, rfl, _, hkb, p00⟩ := eInt_cells HT.out.t hxj
      have p0 := (hbW.out.cell (p := ⟨kb, ko + j, none⟩) hkb).trans p00
      obtain ⟨m, rfl, hm⟩ := HV.out x (List.mem_of_getElem? hxj)
      obtain ⟨nd, hnd⟩ := get_some hm
      obtain ⟨b, o, rfl, _, hbb, s9, c9, _, e1, _, _, _⟩ := eNode_cells HT.out.n hnd
      have p1 := (hbW.out.cell (p := ⟨b, o + m * 4 + 1, none⟩) hbb).trans e1
      have HK : Hid (txAt t (m : Int) = nd.text) := by show _ = _; simp [txAt, hnd]
      have HX : Hid (t.tops[j]? = some (m : Int)) := hxj
      have hmI : (m : Int) < (t.nodes.length : Int) := by omega
      have hjI : (j : Int) < (t.tops.length : Int) := by omega
      clear hxj hnd e1 p00 x2
      cases q : (nd.text.toList == nm.toList)
      · have HN : Hid (topF t nm t.tops = topF t nm (t.tops.drop (j + 1))) := by
          show _ = _
          rw [hF.out, topF_no HX.out (by rw [HK.out]; exact q)]
        go_upto_region 6 with fail
        refine wp_region_held_drew (S := (fun w' => w'.cell? ⟨w.heap.size, 0, none⟩ = some (.slice (some ⟨b, o, none⟩) t.nodes.length c1) ∧ w'.cell? ⟨w.heap.size, 1, none⟩ = some (.slice (some ⟨kb, ko, none⟩) t.tops.length c2) ∧ w'.cell? ⟨kb, ko + j, none⟩ = some (.int .i64 (m : Int)) ∧ w'.cell? ⟨b, o + m * 4 + 1, none⟩ = some (.string nd.text))) (by kernel_rfl) ?_ (fun hHeld => ?_)
        · exact ⟨x0, x1, p0, p1⟩
        refine wpAnyH_one (i := 0) (d := 16) (v := ?_) rfl rfl (by kernel_rfl) (by kernel_rfl) (by kernel_rfl) (fun _ _ _ h => h) (by rfl) (by assumption) ?_ ?_
        rotate_left 1
        · intro w hSw; (try dsimp only at hSw); go_simp <;> with_reducible rfl
        simp only [List.foldl, Act.put, List.setIfInBounds_toArray, List.set_cons_zero, List.set_cons_succ]
        refine wpAnyH_one (i := 1) (d := 17) (v := ?_) rfl rfl (by kernel_rfl) (by kernel_rfl) (by kernel_rfl) (fun _ _ _ h => h) (by rfl) (by assumption) ?_ ?_
        rotate_left 1
        · intro w hSw; (try dsimp only at hSw); go_simp <;> with_reducible rfl
        simp only [List.foldl, Act.put, List.setIfInBounds_toArray, List.set_cons_zero, List.set_cons_succ]
        refine wpAnyH_one (i := 2) (d := 18) (v := ?_) rfl rfl (by kernel_rfl) (by kernel_rfl) (by kernel_rfl) (fun _ _ _ h => h) (by rfl) (by assumption) ?_ ?_
        rotate_left 1
        · intro w hSw; (try dsimp only at hSw); go_simp <;> with_reducible rfl
        simp only [List.foldl, Act.put, List.setIfInBounds_toArray, List.set_cons_zero, List.set_cons_succ]
        refine wpAnyH_one (i := 3) (d := 19) (v := ?_) rfl rfl (by kernel_rfl) (by kernel_rfl) (by kernel_rfl) (fun _ _ _ h => h) (by rfl) (by assumption) ?_ ?_
        rotate_left 1
        · intro w hSw; (try dsimp only at hSw); go_simp <;> with_reducible rfl
        simp only [List.foldl, Act.put, List.setIfInBounds_toArray, List.set_cons_zero, List.set_cons_succ]
        refine wpAnyH_one (i := 4) (d := 20) (v := ?_) rfl rfl (by kernel_rfl) (by kernel_rfl) (by kernel_rfl) (fun _ _ _ h => h) (by rfl) (by assumption) ?_ ?_
        rotate_left 1
        · intro w hSw; (try dsimp only at hSw); go_simp <;> with_reducible rfl
        simp only [List.foldl, Act.put, List.setIfInBounds_toArray, List.set_cons_zero, List.set_cons_succ]
        refine wpAnyH_one (i := 5) (d := 21) (v := ?_) rfl rfl (by kernel_rfl) (by kernel_rfl) (by kernel_rfl) (fun _ _ _ h => h) (by rfl) (by assumption) ?_ ?_
        rotate_left 1
        · intro w hSw; (try dsimp only at hSw); go_simp <;> with_reducible rfl
        simp only [List.foldl, Act.put, List.setIfInBounds_toArray, List.set_cons_zero, List.set_cons_succ]
        refine wpAnyH_one (i := 6) (d := 22) (v := ?_) rfl rfl (by kernel_rfl) (by kernel_rfl) (by kernel_rfl) (fun _ _ _ h => h) (by rfl) (by assumption) ?_ ?_
        rotate_left 1
        · intro w hSw; (try dsimp only at hSw); go_simp <;> with_reducible rfl
        simp only [List.foldl, Act.put, List.setIfInBounds_toArray, List.set_cons_zero, List.set_cons_succ]
        refine wpAnyH_one (i := 7) (d := 23) (v := ?_) rfl rfl (by kernel_rfl) (by kernel_rfl) (by kernel_rfl) (fun _ _ _ h => h) (by rfl) (by assumption) ?_ ?_
        rotate_left 1
        · intro w hSw; (try dsimp only at hSw); go_simp <;> with_reducible rfl
        simp only [List.foldl, Act.put, List.setIfInBounds_toArray, List.set_cons_zero, List.set_cons_succ]
        refine wpAnyH_one (i := 8) (d := 24) (v := ?_) rfl rfl (by kernel_rfl) (by kernel_rfl) (by kernel_rfl) (fun _ _ _ h => h) (by rfl) (by assumption) ?_ ?_
        rotate_left 1
        · intro w hSw; (try dsimp only at hSw); go_simp <;> with_reducible rfl
        simp only [List.foldl, Act.put, List.setIfInBounds_toArray, List.set_cons_zero, List.set_cons_succ]
        refine wpAnyH_one (i := 9) (d := 25) (v := ?_) rfl rfl (by kernel_rfl) (by kernel_rfl) (by kernel_rfl) (fun _ _ _ h => h) (by rfl) (by assumption) ?_ ?_
        rotate_left 1
        · intro w hSw; (try dsimp only at hSw); go_simp <;> with_reducible rfl
        simp only [List.foldl, Act.put, List.setIfInBounds_toArray, List.set_cons_zero, List.set_cons_succ]
        refine wpAnyH_one (i := 10) (d := 26) (v := ?_) rfl rfl (by kernel_rfl) (by kernel_rfl) (by kernel_rfl) (fun _ _ _ h => h) (by rfl) (by assumption) ?_ ?_
        rotate_left 1
        · intro w hSw; (try dsimp only at hSw); go_simp <;> with_reducible rfl
        simp only [List.foldl, Act.put, List.setIfInBounds_toArray, List.set_cons_zero, List.set_cons_succ]
        refine wpAnyH_one (i := 11) (d := 27) (v := ?_) rfl rfl (by kernel_rfl) (by kernel_rfl) (by kernel_rfl) (fun _ _ _ h => h) (by rfl) (by assumption) ?_ ?_
        rotate_left 1
        · intro w hSw; (try dsimp only at hSw); go_simp <;> with_reducible rfl
        simp only [List.foldl, Act.put, List.setIfInBounds_toArray, List.set_cons_zero, List.set_cons_succ]
        refine wpAnyH_done (by kernel_rfl) ?_ _
        go_wp2_with fail
        go_roundw
        case rel => exact ⟨j + 1, by omega, by go_num, HN, bl_drew hb.out⟩
        case measure => simp [intOf]; omega
      · have HY : Hid (topV t nm = (m : Int)) := by
          show _ = _
          rw [HE.out, hF.out, topF_yes HX.out (by rw [HK.out]; exact q)]
        go_upto_region 6 with fail
        refine wp_region_held_drew (S := (fun w' => w'.cell? ⟨w.heap.size, 0, none⟩ = some (.slice (some ⟨b, o, none⟩) t.nodes.length c1) ∧ w'.cell? ⟨w.heap.size, 1, none⟩ = some (.slice (some ⟨kb, ko, none⟩) t.tops.length c2) ∧ w'.cell? ⟨kb, ko + j, none⟩ = some (.int .i64 (m : Int)) ∧ w'.cell? ⟨b, o + m * 4 + 1, none⟩ = some (.string nd.text))) (by kernel_rfl) ?_ (fun hHeld => ?_)
        · exact ⟨x0, x1, p0, p1⟩
        refine wpAnyH_one (i := 0) (d := 16) (v := ?_) rfl rfl (by kernel_rfl) (by kernel_rfl) (by kernel_rfl) (fun _ _ _ h => h) (by rfl) (by assumption) ?_ ?_
        rotate_left 1
        · intro w hSw; (try dsimp only at hSw); go_simp <;> with_reducible rfl
        simp only [List.foldl, Act.put, List.setIfInBounds_toArray, List.set_cons_zero, List.set_cons_succ]
        refine wpAnyH_one (i := 1) (d := 17) (v := ?_) rfl rfl (by kernel_rfl) (by kernel_rfl) (by kernel_rfl) (fun _ _ _ h => h) (by rfl) (by assumption) ?_ ?_
        rotate_left 1
        · intro w hSw; (try dsimp only at hSw); go_simp <;> with_reducible rfl
        simp only [List.foldl, Act.put, List.setIfInBounds_toArray, List.set_cons_zero, List.set_cons_succ]
        refine wpAnyH_one (i := 2) (d := 18) (v := ?_) rfl rfl (by kernel_rfl) (by kernel_rfl) (by kernel_rfl) (fun _ _ _ h => h) (by rfl) (by assumption) ?_ ?_
        rotate_left 1
        · intro w hSw; (try dsimp only at hSw); go_simp <;> with_reducible rfl
        simp only [List.foldl, Act.put, List.setIfInBounds_toArray, List.set_cons_zero, List.set_cons_succ]
        refine wpAnyH_one (i := 3) (d := 19) (v := ?_) rfl rfl (by kernel_rfl) (by kernel_rfl) (by kernel_rfl) (fun _ _ _ h => h) (by rfl) (by assumption) ?_ ?_
        rotate_left 1
        · intro w hSw; (try dsimp only at hSw); go_simp <;> with_reducible rfl
        simp only [List.foldl, Act.put, List.setIfInBounds_toArray, List.set_cons_zero, List.set_cons_succ]
        refine wpAnyH_one (i := 4) (d := 20) (v := ?_) rfl rfl (by kernel_rfl) (by kernel_rfl) (by kernel_rfl) (fun _ _ _ h => h) (by rfl) (by assumption) ?_ ?_
        rotate_left 1
        · intro w hSw; (try dsimp only at hSw); go_simp <;> with_reducible rfl
        simp only [List.foldl, Act.put, List.setIfInBounds_toArray, List.set_cons_zero, List.set_cons_succ]
        refine wpAnyH_one (i := 5) (d := 21) (v := ?_) rfl rfl (by kernel_rfl) (by kernel_rfl) (by kernel_rfl) (fun _ _ _ h => h) (by rfl) (by assumption) ?_ ?_
        rotate_left 1
        · intro w hSw; (try dsimp only at hSw); go_simp <;> with_reducible rfl
        simp only [List.foldl, Act.put, List.setIfInBounds_toArray, List.set_cons_zero, List.set_cons_succ]
        refine wpAnyH_one (i := 6) (d := 22) (v := ?_) rfl rfl (by kernel_rfl) (by kernel_rfl) (by kernel_rfl) (fun _ _ _ h => h) (by rfl) (by assumption) ?_ ?_
        rotate_left 1
        · intro w hSw; (try dsimp only at hSw); go_simp <;> with_reducible rfl
        simp only [List.foldl, Act.put, List.setIfInBounds_toArray, List.set_cons_zero, List.set_cons_succ]
        refine wpAnyH_one (i := 7) (d := 23) (v := ?_) rfl rfl (by kernel_rfl) (by kernel_rfl) (by kernel_rfl) (fun _ _ _ h => h) (by rfl) (by assumption) ?_ ?_
        rotate_left 1
        · intro w hSw; (try dsimp only at hSw); go_simp <;> with_reducible rfl
        simp only [List.foldl, Act.put, List.setIfInBounds_toArray, List.set_cons_zero, List.set_cons_succ]
        refine wpAnyH_one (i := 8) (d := 24) (v := ?_) rfl rfl (by kernel_rfl) (by kernel_rfl) (by kernel_rfl) (fun _ _ _ h => h) (by rfl) (by assumption) ?_ ?_
        rotate_left 1
        · intro w hSw; (try dsimp only at hSw); go_simp <;> with_reducible rfl
        simp only [List.foldl, Act.put, List.setIfInBounds_toArray, List.set_cons_zero, List.set_cons_succ]
        refine wpAnyH_one (i := 9) (d := 25) (v := ?_) rfl rfl (by kernel_rfl) (by kernel_rfl) (by kernel_rfl) (fun _ _ _ h => h) (by rfl) (by assumption) ?_ ?_
        rotate_left 1
        · intro w hSw; (try dsimp only at hSw); go_simp <;> with_reducible rfl
        simp only [List.foldl, Act.put, List.setIfInBounds_toArray, List.set_cons_zero, List.set_cons_succ]
        refine wpAnyH_one (i := 10) (d := 26) (v := ?_) rfl rfl (by kernel_rfl) (by kernel_rfl) (by kernel_rfl) (fun _ _ _ h => h) (by rfl) (by assumption) ?_ ?_
        rotate_left 1
        · intro w hSw; (try dsimp only at hSw); go_simp <;> with_reducible rfl
        simp only [List.foldl, Act.put, List.setIfInBounds_toArray, List.set_cons_zero, List.set_cons_succ]
        refine wpAnyH_one (i := 11) (d := 27) (v := ?_) rfl rfl (by kernel_rfl) (by kernel_rfl) (by kernel_rfl) (fun _ _ _ h => h) (by rfl) (by assumption) ?_ ?_
        rotate_left 1
        · intro w hSw; (try dsimp only at hSw); go_simp <;> with_reducible rfl
        simp only [List.foldl, Act.put, List.setIfInBounds_toArray, List.set_cons_zero, List.set_cons_succ]
        refine wpAnyH_done (by kernel_rfl) ?_ _
        go_wp2_with fail
        go_ret
        exact ⟨by rw [HY.out]; rfl, bl_drew hbW.out⟩
    · have HY : Hid (topV t nm = -1) := by
        show _ = _
        rw [HE.out, hF.out, List.drop_eq_nil_of_le (by omega)]
        rfl
      have hjI : ¬ (j : Int) < (t.tops.length : Int) := by omega
      go_wp2_with fail
      go_ret
      exact ⟨by rw [HY.out]; rfl, hbW.out⟩

set_option maxRecDepth 100000 in
set_option maxHeartbeats 4000000 in
theorem implTopOf_any (t : Tre) (nm : ByteArray) (s1 s2 : Option Addr) (c1 c2 B : Nat) (w : World) (hT : InT w B s1 s2 t) (hkt : kTre t) :
    Calls Tryz.prog 11 #[.agg #[.slice s1 t.nodes.length c1, .slice s2 t.tops.length c2], .string nm] w fun e w' => e = .returned (.int .i64 (topV t nm)) ∧ Below w.heap.size w w' := by
  have hal := alloc_old
  have haf := alloc_oldf
  have k0 := Blk.new w #[.slice s1 t.nodes.length c1, .slice s2 t.tops.length c2] 30
  have L0 := bl_alloc (Below.refl _ w) (.cells #[.slice s1 t.nodes.length c1, .slice s2 t.tops.length c2] 30)
  obtain ⟨x0, x1, x2⟩ := k0.two
  have hr := implTreeOk_any t s1 s2 c1 c2 B _ (hT.later L0) hkt
  have htl : t.tops.length ≤ 1048576 := hkt.2
  have hnl : t.nodes.length ≤ 1048576 := hkt.1.1
  have HT : Hid (InT w B s1 s2 t) := hT
  clear hkt hT
  go_enter Tryz.func11, Tryz.ntmps11
  go_wp2_with fail
  refine hr.mono ?_
  rintro e W1 ⟨rfl, hb1⟩
  have K1 : Hid (Blk W1 w.heap.size #[.slice s1 t.nodes.length c1, .slice s2 t.tops.length c2] 30) := k0.later hb1
  have L1 : Hid (Below w.heap.size w W1) := bl_trans L0 hb1
  have sz1 : w.heap.size < W1.heap.size := K1.out.lt
  clear hr x0 x1 x2 k0 L0 hb1
  cases hq : treB t
  · have HE : Hid (topV t nm = -1) := by show _ = _; unfold topV; rw [hq]; rfl
    go_wp2_with fail
    go_ret
    exact ⟨by rw [HE.out]; rfl, L1.out⟩
  have HE : Hid (topV t nm = topF t nm t.tops) := by show _ = _; unfold topV; rw [hq]; rfl
  have HV : Hid (∀ x ∈ t.tops, ∃ m : Nat, x = m ∧ m < t.nodes.length) := tops_valid (treB_get hq)
  clear hq
  obtain ⟨x0, x1, x2⟩ := K1.out.two
  go_wp2_with fail
  clear x0 x1 x2
  go_loopw [13] (fun i wr => ∃ j : Nat, j ≤ t.tops.length ∧ i = .int .i64 j ∧ Hid (topF t nm t.tops = topF t nm (t.tops.drop j)) ∧ wr = W1) (fun i _ => t.tops.length - (intOf i).toNat)
  case atStart => exact ⟨0, Nat.zero_le _, rfl, rfl, rfl⟩
  case round =>
    obtain ⟨j, hj, rfl, hF, hwr⟩ := hrel
    have hwr2 := hwr.symm
    clear hwr
    subst hwr2
    obtain ⟨x0, x1, x2⟩ := K1.out.two
    have hbW : Hid (Below w.heap.size w W1) := L1
    by_cases hlt : j < t.tops.length
    · obtain ⟨x, hxj⟩ := get_some hlt
      obtain ⟨kb, ko, rfl, _, hkb, p00⟩ := eInt_cells HT.out.t hxj
      have p0 := (hbW.out.cell (p := ⟨kb, ko + j, none⟩) hkb).trans p00
      obtain ⟨m, rfl, hm⟩ := HV.out x (List.mem_of_getElem? hxj)
      obtain ⟨nd, hnd⟩ := get_some hm
      obtain ⟨b, o, rfl, _, hbb, s9, c9, _, e1, _, _, _⟩ := eNode_cells HT.out.n hnd
      have p1 := (hbW.out.cell (p := ⟨b, o + m * 4 + 1, none⟩) hbb).trans e1
      have HK : Hid (txAt t (m : Int) = nd.text) := by show _ = _; simp [txAt, hnd]
      have HX : Hid (t.tops[j]? = some (m : Int)) := hxj
      have hmI : (m : Int) < (t.nodes.length : Int) := by omega
      have hjI : (j : Int) < (t.tops.length : Int) := by omega
      clear hxj hnd e1 p00 x2
      cases q : (nd.text.toList == nm.toList)
      · have HN : Hid (topF t nm t.tops = topF t nm (t.tops.drop (j + 1))) := by
          show _ = _
          rw [hF.out, topF_no HX.out (by rw [HK.out]; exact q)]
        go_wp2_with fail
        go_roundw
        case rel => exact ⟨j + 1, by omega, by go_num, HN, (by first | rfl | trivial)⟩
        case measure => simp [intOf]; omega
      · have HY : Hid (topV t nm = (m : Int)) := by
          show _ = _
          rw [HE.out, hF.out, topF_yes HX.out (by rw [HK.out]; exact q)]
        go_wp2_with fail
        go_ret
        exact ⟨by rw [HY.out]; rfl, hbW.out⟩
    · have HY : Hid (topV t nm = -1) := by
        show _ = _
        rw [HE.out, hF.out, List.drop_eq_nil_of_le (by omega)]
        rfl
      have hjI : ¬ (j : Int) < (t.tops.length : Int) := by omega
      go_wp2_with fail
      go_ret
      exact ⟨by rw [HY.out]; rfl, hbW.out⟩

set_option maxRecDepth 100000 in
set_option maxHeartbeats 4000000 in
theorem exactTopOf_any (a1 a2 : Option Addr) (c1 c2 : Nat) (V : Tre) (nm : ByteArray) (w : World) (hV : InT w 0 a1 a2 V) (mV : mTre V) (hz : nm.size ≤ maxLen) :
    Calls Tryz.prog 4 #[.agg #[.slice a1 V.nodes.length c1, .slice a2 V.tops.length c2], .string nm] w fun e w' => e = .returned (.bool true) ∧ Below w.heap.size w w' := by
  have hal := alloc_old
  have haf := alloc_oldf
  have k0 := Blk.new w #[.slice a1 V.nodes.length c1, .slice a2 V.tops.length c2] 25
  have L0 := bl_alloc (Below.refl _ w) (.cells #[.slice a1 V.nodes.length c1, .slice a2 V.tops.length c2] 25)
  obtain ⟨x0, x1, x2⟩ := k0.two
  by_cases hnm : nm.size ≤ 1048576
  rotate_left
  · have q0 : decide ((1048576 : Int) < (nm.size : Int)) = true := by simp; omega
    go_enter Tryz.func4, Tryz.ntmps4
    go_wp2_with fail
    go_ret
    exact ⟨rfl, L0⟩
  have q0 : decide ((1048576 : Int) < (nm.size : Int)) = false := by simp; omega
  go_enter Tryz.func4, Tryz.ntmps4
  go_wp2_with fail
  refine (szTree_gen a1 a2 c1 c2 V 0 1048576 _ (hV.later L0) mV (by omega) (by omega)).mono ?_
  rintro e w1 ⟨⟨r, rfl, hr⟩, hb1⟩
  have L1 := bl_trans L0 hb1
  have k0 := k0.later hb1
  clear x0 x1 x2 hb1 L0
  rcases hr with rfl | ⟨r0, r1, kv⟩
  · go_wp2_with fail
    go_ret
    exact ⟨rfl, L1⟩
  have t1 : decide (r < 0) = false := by simp; omega
  have hI := hV.later L1
  obtain ⟨x0, x1, x2⟩ := k0.two
  clear hV mV r1
  go_wp2_with fail
  refine (toTree_made a1 a2 c1 c2 V 0 _ hI kv).mono ?_
  rintro e wa ⟨⟨h1, h2, rfl, hIa⟩, hba⟩
  have La := bl_trans L1 hba
  clear x0 x1 x2 t1
  go_wp2_with fail
  refine (specTopOf_any V nm _ _ _ _ _ _ hIa kv).mono ?_
  rintro e wc ⟨rfl, hbc⟩
  have Lc := bl_trans La hbc
  have K0 := (k0.later hba).later hbc
  have hI := (hI.later hba).later hbc
  clear hIa hba hbc La L1 k0
  obtain ⟨x0, x1, x2⟩ := K0.two
  go_wp2_with fail
  refine (toTree_made a1 a2 c1 c2 V 0 _ hI kv).mono ?_
  rintro e wd ⟨⟨h1, h2, rfl, hx⟩, hbd⟩
  have LD := bl_trans Lc hbd
  have KX := Blk.new wd #[.slice (some ⟨h1, 0, none⟩) V.nodes.length V.nodes.length, .slice (some ⟨h2, 0, none⟩) V.tops.length V.tops.length] 30
  have LY : Below wd.heap.size wd (wd.alloc (.cells #[.slice (some ⟨h1, 0, none⟩) V.nodes.length V.nodes.length, .slice (some ⟨h2, 0, none⟩) V.tops.length V.tops.length] 30)) := bl_alloc (Below.refl _ _) _
  have K0 := (K0.later hbd).later LY
  have hI := (hI.later hbd).later LY
  have hx := hx.later LY
  have LD := bl_trans LD LY
  clear x0 x1 x2 Lc hbd LY
  obtain ⟨x0, x1, x2⟩ := KX.two
  go_wp2_with fail
  generalize hZ : wd.alloc (.cells #[.slice (some ⟨h1, 0, none⟩) V.nodes.length V.nodes.length, .slice (some ⟨h2, 0, none⟩) V.tops.length V.tops.length] 30) = Z at KX K0 LD hI hx x0 x1 x2 ⊢
  clear hZ
  refine (implTopOf_any V nm _ _ _ _ _ Z hx kv).mono ?_
  rintro e wf ⟨rfl, hbf⟩
  have LF := bl_trans LD hbf
  have KX := KX.later hbf
  have K0 := K0.later hbf
  have hI := hI.later hbf
  have hx := hx.later hbf
  clear LD hbf x0 x1 x2
  obtain ⟨x0, x1, x2⟩ := KX.two
  obtain ⟨z0, z1, z2⟩ := K0.two
  have KXH : Hid (Blk wf wd.heap.size #[.slice (some ⟨h1, 0, none⟩) V.nodes.length V.nodes.length, .slice (some ⟨h2, 0, none⟩) V.tops.length V.tops.length] 30) := KX
  have K0H : Hid (Blk wf w.heap.size #[.slice a1 V.nodes.length c1, .slice a2 V.tops.length c2] 25) := K0
  have qb : ((topV V nm) != (topV V nm)) = false := by simp
  generalize topV V nm = tb at qb ⊢
  go_wp2_with fail
  go_region_held3 (fun w' => w'.cell? ⟨wd.heap.size, 0, none⟩ = some (.slice (some ⟨h1, 0, none⟩) V.nodes.length V.nodes.length) ∧ w'.cell? ⟨wd.heap.size, 1, none⟩ = some (.slice (some ⟨h2, 0, none⟩) V.tops.length V.tops.length) ∧ w'.cell? ⟨w.heap.size, 0, none⟩ = some (.slice a1 V.nodes.length c1) ∧ w'.cell? ⟨w.heap.size, 1, none⟩ = some (.slice a2 V.tops.length c2)) (simp [x0, x1, z0, z1])
    (first
      | (go_at_call 7; refine (toTree_made a1 a2 c1 c2 V 0 _ (hI.later (bl_drew (Below.refl _ _))) kv).mono ?_; rintro e wg ⟨⟨q1, q2, rfl, hIg⟩, hbg⟩; have hwg : Below wf.heap.size wf wg := bl_trans (bl_drew (Below.refl _ _)) hbg; obtain ⟨x0, x1, x2⟩ := (KXH.out.later hwg).two; obtain ⟨z0, z1, z2⟩ := (K0H.out.later hwg).two)
      | (go_at_call 9; refine (eqTree_self _ _ _ _ _ _ _ _ V _ _ wg (hx.later hwg) hIg kv).mono ?_; rintro e wh ⟨rfl, hbh⟩; have hwh : Below wf.heap.size wf wh := bl_trans hwg hbh; obtain ⟨x0, x1, x2⟩ := (KXH.out.later hwh).two; obtain ⟨z0, z1, z2⟩ := (K0H.out.later hwh).two))
  have LH := bl_trans LF hwh
  go_wp2_with fail
  go_ret
  exact ⟨rfl, LH⟩
end Go.Proofs.YtddakcddimlnkaaGreatDoor
