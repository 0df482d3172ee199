import Derived.Test.YtknallkcengbbaaGreatDoorOg
namespace Go.Proofs.YtknallkcengbbaaGreatDoor
open Go.RowKit
set_option linter.unusedVariables false
set_option linter.unusedSimpArgs false

/-- a tree is right. -/
def treP (t : Tre) : Prop := t.nodes.length ≤ 4000 ∧ FitL (kidsOf t) (okN t) t.tops 0 t.nodes.length ∧ ∀ (j : Nat) (x : Int), t.tops[j]? = some x → ∃ (m : Nat) (nd : Nd), x = m ∧ t.nodes[m]? = some nd ∧ clsOk 9 nd.kind
noncomputable def treB (t : Tre) : Bool := @decide (treP t) (Classical.propDecidable _)
theorem treB_true {t : Tre} (h : treP t) : treB t = true := @decide_eq_true _ (Classical.propDecidable _) h
theorem treB_false {t : Tre} (h : ¬ treP t) : treB t = false := @decide_eq_false _ (Classical.propDecidable _) h
theorem FitL.len {K : Nat → List Int} {ok : Nat → Prop} {l : List Int} {a e : Nat} (h : FitL K ok l a e) : l.length + a ≤ e := by
  induction h with
  | nil nx => simp
  | cons nx k ks e h1 _ _ _ _ ih => simp; omega
/-- at a top: what follows from the tree's being right. -/
theorem treP_top {t : Tre} {nj : Nat} {j : Nat} {x : Int} (hx : t.tops[j]? = some x) (hf : FitL (kidsOf t) (okN t) (t.tops.take j) 0 nj) (h : treP t) : ∃ m : Nat, x = m ∧ FitN t 9 m nj := by
  obtain ⟨_, hk, hc⟩ := h
  rw [take_drop_at hx] at hk
  obtain ⟨m1, g1, g2⟩ := FitL.split hk
  obtain rfl := hf.same _ g1
  obtain ⟨m, nd', rfl, e5, e6⟩ := hc j x hx
  generalize hq : (m : Int) :: t.tops.drop (j + 1) = l at g2
  cases g2 with
  | nil => cases hq
  | cons _ m' ks _ p1 p2 p3 p4 =>
    simp only [List.cons.injEq] at hq
    obtain ⟨e1, rfl⟩ := hq
    obtain rfl : m = m' := by omega
    refine ⟨m, rfl, nd', e5, e6, p1, p2, ?_⟩
    rw [kidsOf_some e5] at p3
    exact p3
theorem top_take {t : Tre} {nj m j : Nat} (hx : t.tops[j]? = some (m : Int)) {c : Int} (hf : FitL (kidsOf t) (okN t) (t.tops.take j) 0 nj) (h : FitN t c m nj) : FitL (kidsOf t) (okN t) (t.tops.take (j + 1)) 0 (m + 1) := by
  obtain ⟨nd', e1, _, e3, e4, e5⟩ := h
  rw [List.take_add_one, hx]
  refine hf.append (FitL.cons nj m [] (m + 1) e3 e4 ?_ (FitL.nil _))
  rw [kidsOf_some e1]
  exact e5
theorem fitN_lt {t : Tre} {cl : Int} {m nx : Nat} (h : FitN t cl m nx) : m < t.nodes.length := by
  obtain ⟨nd, h1, _⟩ := h
  exact (List.getElem?_eq_some_iff.1 h1).1
/-- a new list of flags. -/
theorem SeenIs.new {w : World} {B b n : Nat} (hlt : b < w.heap.size) (h : w.ownsRow B 4 1 (.slice (some ⟨b, 0, none⟩) n n) n (List.replicate n (.bool false))) : SeenIs w b n (fun _ => false) :=
  ⟨hlt, fun j hj => by rw [World.ownsRow.cellAt h j (by omega)]; simp [hj], fun j => World.ownsRow.frozenAt h j⟩

set_option maxRecDepth 100000 in
set_option maxHeartbeats 8000000 in
theorem specTreeOk_any (t : Tre) (s1 s2 : Option Addr) (c1 c2 B : Nat) (w : World) (hT : InT w B s1 s2 t) (hkt : kTre t) :
    Calls Tryz.prog 19 #[.agg #[.slice s1 t.nodes.length c1, .slice s2 t.tops.length c2]] w fun e w' => e = .returned (.bool (treB t)) ∧ Below w.heap.size w w' := by
  have hal := alloc_old
  have haf := alloc_oldf
  have k0 := Blk.new w #[.slice s1 t.nodes.length c1, .slice s2 t.tops.length c2] 29
  have L0 := bl_alloc (Below.refl _ w) (.cells #[.slice s1 t.nodes.length c1, .slice s2 t.tops.length c2] 29)
  obtain ⟨x0, x1, x2⟩ := k0.two
  have hn := hkt.1.1
  have ht := hkt.2
  have HKT : Hid (kTre t) := hkt
  have HT : Hid (InT w B s1 s2 t) := hT
  clear hkt hT
  by_cases h4 : t.nodes.length ≤ 4000
  rotate_left
  · have q1 : decide ((4000 : Int) < (t.nodes.length : Int)) = true := by simp; omega
    have HE : Hid (treB t = false) := treB_false fun h => h4 h.1
    clear h4
    go_enter Tryz.func19, Tryz.ntmps19
    go_wp2_with fail
    go_ret
    exact ⟨ret_bool' HE.out.symm, L0⟩
  have q1 : decide ((4000 : Int) < (t.nodes.length : Int)) = false := by simp; omega
  by_cases h5 : t.tops.length ≤ 4000
  rotate_left
  · have q2 : decide ((4000 : Int) < (t.tops.length : Int)) = true := by simp; omega
    have HE : Hid (treB t = false) := treB_false fun h => by have := h.2.1.len; omega
    clear h4 h5
    go_enter Tryz.func19, Tryz.ntmps19
    go_wp2_with fail
    go_ret
    exact ⟨ret_bool' HE.out.symm, L0⟩
  have q2 : decide ((4000 : Int) < (t.tops.length : Int)) = false := by simp; omega
  have H4 : Hid (t.nodes.length ≤ 4000) := h4
  go_enter Tryz.func19, Tryz.ntmps19
  obtain ⟨i0, hi, hz0, hz1, hz2⟩ := info_parts Tryz.infoB
  go_wp2_with (at_make; refine wpList_make_full _ rfl _ _ 54 rfl w.heap.size 4 i0 (.bool false) 1 Tryz.underlying54 hi hz0 hz1 .i64 .i64 _ _ t.nodes.length rfl rfl rfl rfl (by rw [hz2]; omega) (by unfold maxLen; omega) (by simp) ?_)
  intro W5 hown hgrow
  have b0 : Hid (Blk W5 w.heap.size #[.slice s1 t.nodes.length c1, .slice s2 t.tops.length c2] 29) := by
    have hB : Below (w.heap.size + 1) (w.alloc (.cells #[.slice s1 t.nodes.length c1, .slice s2 t.tops.length c2] 29)) W5 := (Below.refl _ _).grown hgrow (by simp) (fun k h => by cases h)
    exact (Blk.new w #[.slice s1 t.nodes.length c1, .slice s2 t.tops.length c2] 29).later (by simpa using hB)
  have hbel : Hid (Below w.heap.size w W5) := (bl_alloc (Below.refl _ w) _).grown hgrow (by simp) (fun k h => by cases h)
  rw [toList_madeCells_one] at hown
  have sz5 : w.heap.size + 2 ≤ W5.heap.size := by
    rcases hown.2 with ⟨h, _⟩ | ⟨g, cap, cur, h1, h2, h3, _⟩
    · cases h
    · have h4 := h3
      simp only [Value.slice.injEq, Option.some.injEq, Addr.mk.injEq] at h1
      obtain ⟨⟨rfl, _⟩, _⟩ := h1
      have := (Array.getElem?_eq_some_iff.1 h4).1
      omega
  have hseen : Hid (SeenIs W5 (w.heap.size + 1) t.nodes.length (fun _ => false)) := SeenIs.new (by omega) hown
  clear hown hgrow hi hz0 hz1 hz2 k0 L0 x0 x1 x2
  go_wp2_with fail
  go_loopw [4, 5] (fun v i wr => ∃ (j nj : Nat) (f1 : Nat → Bool), j ≤ t.tops.length ∧ i = .int .i64 j ∧ v = .int .i64 nj ∧ nj ≤ t.nodes.length ∧ Hid (FitL (kidsOf t) (okN t) (t.tops.take j) 0 nj) ∧ Hid (∀ (j' : Nat) (x : Int), j' < j → t.tops[j']? = some x → ∃ (m : Nat) (nd' : Nd), x = m ∧ t.nodes[m]? = some nd' ∧ clsOk 9 nd'.kind) ∧ Hid (SeenIs wr (w.heap.size + 1) t.nodes.length f1) ∧ Hid (∀ x, f1 x = decide (x < nj)) ∧ Hid (W5.grownBy wr (some (w.heap.size + 1)))) (fun _ i _ => t.tops.length - (intOf i).toNat)
  case atStart =>
    refine ⟨0, 0, _, Nat.zero_le _, rfl, rfl, Nat.zero_le _, FitL.nil _, fun j' x h => absurd h (Nat.not_lt_zero _), hseen, fun x => ?_, grown_refl _ _⟩
    simp
  case round =>
    obtain ⟨j, nj, f1, hj, rfl, rfl, hnj, hFL, hcl, hSr, hfr, hGr⟩ := hrel
    have szr : w.heap.size + 2 ≤ wr.heap.size := by have := hGr.out.size; omega
    have hbW : Hid (Below w.heap.size w wr) := Below.trans hbel.out (grown_below hGr.out (Nat.le_succ _) (by omega))
    obtain ⟨x0, x1, x2⟩ := (b0.out.grown hGr.out (by omega)).two
    by_cases hlt : j < t.tops.length
    · obtain ⟨x, hxj⟩ := get_some hlt
      obtain ⟨kb, ko, rfl, _, hkb, p00⟩ := eInt_cells HT.out.t hxj
      have p0 := (hbW.out.cell (p := ⟨kb, ko + j, none⟩) hkb).trans p00
      have lt0 : w.heap.size < wr.heap.size := by omega
      have ltk : kb < wr.heap.size := by omega
      have ne0 : ¬ w.heap.size = w.heap.size + 1 := by omega
      have nek : ¬ kb = w.heap.size + 1 := by omega
      have HX : Hid (t.tops[j]? = some x) := hxj
      clear hxj p00 x2
      have hjI : (j : Int) < (t.tops.length : Int) := by omega
      by_cases hgood : ∃ m : Nat, x = m ∧ FitN t 9 m nj
      · have hgd : Hid (∃ m : Nat, x = m ∧ FitN t 9 m nj) := hgood
        clear hgood
        go_upto_region 8 with fail
        refine wp_region_held_drew (S := (fun w' => w'.cell? ⟨w.heap.size, 0, none⟩ = some (.slice s1 t.nodes.length c1) ∧ w'.cell? ⟨w.heap.size, 1, none⟩ = some (.slice (some ⟨kb, ko, none⟩) t.tops.length c2) ∧ w'.cell? ⟨kb, ko + j, none⟩ = some (.int .i64 x))) (by kernel_rfl) ?_ (fun hHeld => ?_)
        · exact ⟨x0, x1, p0⟩
        refine wpAnyH_one (i := 0) (d := 30) (v := ?_) rfl rfl (by kernel_rfl) (by kernel_rfl) (by kernel_rfl) (fun _ _ _ h => h) (by rfl) (by assumption) ?_ ?_
        rotate_left 1
        · intro w hSw; (try dsimp only at hSw); go_simp <;> with_reducible rfl
        simp only [List.foldl, Act.put, List.setIfInBounds_toArray, List.set_cons_zero, List.set_cons_succ]
        refine wpAnyH_one (i := 1) (d := 31) (v := ?_) rfl rfl (by kernel_rfl) (by kernel_rfl) (by kernel_rfl) (fun _ _ _ h => h) (by rfl) (by assumption) ?_ ?_
        rotate_left 1
        · intro w hSw; (try dsimp only at hSw); go_simp <;> with_reducible rfl
        simp only [List.foldl, Act.put, List.setIfInBounds_toArray, List.set_cons_zero, List.set_cons_succ]
        refine wpAnyH_one (i := 2) (d := 32) (v := ?_) rfl rfl (by kernel_rfl) (by kernel_rfl) (by kernel_rfl) (fun _ _ _ h => h) (by rfl) (by assumption) ?_ ?_
        rotate_left 1
        · intro w hSw; (try dsimp only at hSw); go_simp <;> with_reducible rfl
        simp only [List.foldl, Act.put, List.setIfInBounds_toArray, List.set_cons_zero, List.set_cons_succ]
        refine wpAnyH_one (i := 3) (d := 33) (v := ?_) rfl rfl (by kernel_rfl) (by kernel_rfl) (by kernel_rfl) (fun _ _ _ h => h) (by rfl) (by assumption) ?_ ?_
        rotate_left 1
        · intro w hSw; (try dsimp only at hSw); go_simp <;> with_reducible rfl
        simp only [List.foldl, Act.put, List.setIfInBounds_toArray, List.set_cons_zero, List.set_cons_succ]
        refine wpAnyH_one (i := 4) (d := 34) (v := ?_) rfl rfl (by kernel_rfl) (by kernel_rfl) (by kernel_rfl) (fun _ _ _ h => h) (by rfl) (by assumption) ?_ ?_
        rotate_left 1
        · intro w hSw; (try dsimp only at hSw); go_simp <;> with_reducible rfl
        simp only [List.foldl, Act.put, List.setIfInBounds_toArray, List.set_cons_zero, List.set_cons_succ]
        refine wpAnyH_one (i := 5) (d := 35) (v := ?_) rfl rfl (by kernel_rfl) (by kernel_rfl) (by kernel_rfl) (fun _ _ _ h => h) (by rfl) (by assumption) ?_ ?_
        rotate_left 1
        · intro w hSw; (try dsimp only at hSw); go_simp <;> with_reducible rfl
        simp only [List.foldl, Act.put, List.setIfInBounds_toArray, List.set_cons_zero, List.set_cons_succ]
        refine wpAnyH_one (i := 6) (d := 36) (v := ?_) rfl rfl (by kernel_rfl) (by kernel_rfl) (by kernel_rfl) (fun _ _ _ h => h) (by rfl) (by assumption) ?_ ?_
        rotate_left 1
        · intro w hSw; (try dsimp only at hSw); go_simp <;> with_reducible rfl
        simp only [List.foldl, Act.put, List.setIfInBounds_toArray, List.set_cons_zero, List.set_cons_succ]
        refine wpAnyH_one (i := 7) (d := 37) (v := ?_) rfl rfl (by kernel_rfl) (by kernel_rfl) (by kernel_rfl) (fun _ _ _ h => h) (by rfl) (by assumption) ?_ ?_
        rotate_left 1
        · intro w hSw; (try dsimp only at hSw); go_simp <;> with_reducible rfl
        simp only [List.foldl, Act.put, List.setIfInBounds_toArray, List.set_cons_zero, List.set_cons_succ]
        refine wpAnyH_ready (rs := [8]) (by kernel_rfl) (by simp) ?_
        refine AllReadyH.cons rfl (fun K hK => ?_) AllReadyH.nil
        go_simp
        refine (l8Fits_any t s1 (some ⟨kb, ko, none⟩) c1 c2 (w.heap.size + 1) B w HT.out HKT.out (by omega) x 9 nj t.nodes.length f1 _ (bl_drew hbW.out) (hSr.out.later (bl_drew (Below.refl _ _))) (by omega) (fun y _ => hfr.out y)).mono ?_
        rintro e w6 ⟨hg6, f6, hS6, hr6⟩
        have hg6 : wr.grownBy w6 (some (w.heap.size + 1)) := grown_trans (grown_bl (grown_refl _ _) (bl_drew (Below.refl _ _))) hg6
        have x0 := (grown_cell hg6 lt0 ne0).trans x0
        have x1 := (grown_cell hg6 lt0 ne0).trans x1
        have p0 := (grown_cell hg6 ltk nek).trans p0
        rcases hr6 with ⟨m, em, hFm, rfl, u1, u2⟩ | ⟨hno, _⟩
        rotate_left
        · exact absurd hgd.out hno
        have HFm : Hid (FitN t 9 m nj) := hFm
        have HEm : Hid (x = m) := em
        have HU : Hid ((∀ y, y ≤ m → f6 y = true) ∧ ∀ y, m < y → f6 y = f1 y) := ⟨u1, u2⟩
        have HS6 : Hid (SeenIs w6 (w.heap.size + 1) t.nodes.length f6) := hS6
        have HG6 : Hid (W5.grownBy w6 (some (w.heap.size + 1))) := grown_trans hGr.out hg6
        clear hFm em u1 u2 hS6 hg6
        refine hK.out _ _ ?_ (fun hHeld => ?_)
        · exact ⟨x0, x1, p0⟩
        clear hK K
        try simp only [List.foldl, Act.put, List.setIfInBounds_toArray, List.set_cons_zero, List.set_cons_succ]
        refine wpAnyH_one (i := 9) (d := 29) (v := ?_) rfl rfl (by kernel_rfl) (by kernel_rfl) (by kernel_rfl) (fun _ _ _ h => h) (by rfl) (by assumption) ?_ ?_
        rotate_left 1
        · intro w hSw; (try dsimp only at hSw); go_simp <;> with_reducible rfl
        simp only [List.foldl, Act.put, List.setIfInBounds_toArray, List.set_cons_zero, List.set_cons_succ]
        refine wpAnyH_one (i := 10) (d := 39) (v := ?_) rfl rfl (by kernel_rfl) (by kernel_rfl) (by kernel_rfl) (fun _ _ _ h => h) (by rfl) (by assumption) ?_ ?_
        rotate_left 1
        · intro w hSw; (try dsimp only at hSw); go_simp <;> with_reducible rfl
        simp only [List.foldl, Act.put, List.setIfInBounds_toArray, List.set_cons_zero, List.set_cons_succ]
        refine wpAnyH_one (i := 11) (d := 40) (v := ?_) rfl rfl (by kernel_rfl) (by kernel_rfl) (by kernel_rfl) (fun _ _ _ h => h) (by rfl) (by assumption) ?_ ?_
        rotate_left 1
        · intro w hSw; (try dsimp only at hSw); go_simp <;> with_reducible rfl
        simp only [List.foldl, Act.put, List.setIfInBounds_toArray, List.set_cons_zero, List.set_cons_succ]
        refine wpAnyH_one (i := 12) (d := 6) (v := ?_) rfl rfl (by kernel_rfl) (by kernel_rfl) (by kernel_rfl) (fun _ _ _ h => h) (by rfl) (by assumption) ?_ ?_
        rotate_left 1
        · intro w hSw; (try dsimp only at hSw); go_simp <;> with_reducible rfl
        simp only [List.foldl, Act.put, List.setIfInBounds_toArray, List.set_cons_zero, List.set_cons_succ]
        refine wpAnyH_one (i := 13) (d := 7) (v := ?_) rfl rfl (by kernel_rfl) (by kernel_rfl) (by kernel_rfl) (fun _ _ _ h => h) (by rfl) (by assumption) ?_ ?_
        rotate_left 1
        · intro w hSw; (try dsimp only at hSw); go_simp <;> with_reducible rfl
        simp only [List.foldl, Act.put, List.setIfInBounds_toArray, List.set_cons_zero, List.set_cons_succ]
        refine wpAnyH_done (by kernel_rfl) ?_ _
        go_wp2_with fail
        go_roundw
        case rel =>
          obtain rfl := HEm.out
          have hFm := HFm.out
          have hml := fitN_lt hFm
          refine ⟨j + 1, m + 1, f6, by omega, by go_num, by go_num, by omega, top_take HX.out hFL.out hFm, ?_, HS6, fun y => ?_, HG6⟩
          · intro j' y hj' hy
            by_cases e : j' = j
            · subst e
              have h1 := HX.out
              rw [h1] at hy
              cases hy
              obtain ⟨nd', g1, g2, _⟩ := hFm
              exact ⟨m, nd', rfl, g1, g2⟩
            · exact hcl.out j' y (by omega) hy
          · by_cases e : y ≤ m
            · rw [HU.out.1 y e]; symm; simp; omega
            · have h3 : nj ≤ m := by obtain ⟨_, _, _, h, _⟩ := hFm; exact h
              rw [HU.out.2 y (by omega), hfr.out y]
              have e1 : decide (y < nj) = false := by simp; omega
              have e2 : decide (y < m + 1) = false := by simp; omega
              rw [e1, e2]
        case measure => simp [intOf]; omega
      · have hgd : Hid (¬ ∃ m : Nat, x = m ∧ FitN t 9 m nj) := hgood
        clear hgood
        go_upto_region 8 with fail
        refine wp_region_held_drew (S := (fun w' => w'.cell? ⟨w.heap.size, 0, none⟩ = some (.slice s1 t.nodes.length c1) ∧ w'.cell? ⟨w.heap.size, 1, none⟩ = some (.slice (some ⟨kb, ko, none⟩) t.tops.length c2) ∧ w'.cell? ⟨kb, ko + j, none⟩ = some (.int .i64 x))) (by kernel_rfl) ?_ (fun hHeld => ?_)
        · exact ⟨x0, x1, p0⟩
        refine wpAnyH_one (i := 0) (d := 30) (v := ?_) rfl rfl (by kernel_rfl) (by kernel_rfl) (by kernel_rfl) (fun _ _ _ h => h) (by rfl) (by assumption) ?_ ?_
        rotate_left 1
        · intro w hSw; (try dsimp only at hSw); go_simp <;> with_reducible rfl
        simp only [List.foldl, Act.put, List.setIfInBounds_toArray, List.set_cons_zero, List.set_cons_succ]
        refine wpAnyH_one (i := 1) (d := 31) (v := ?_) rfl rfl (by kernel_rfl) (by kernel_rfl) (by kernel_rfl) (fun _ _ _ h => h) (by rfl) (by assumption) ?_ ?_
        rotate_left 1
        · intro w hSw; (try dsimp only at hSw); go_simp <;> with_reducible rfl
        simp only [List.foldl, Act.put, List.setIfInBounds_toArray, List.set_cons_zero, List.set_cons_succ]
        refine wpAnyH_one (i := 2) (d := 32) (v := ?_) rfl rfl (by kernel_rfl) (by kernel_rfl) (by kernel_rfl) (fun _ _ _ h => h) (by rfl) (by assumption) ?_ ?_
        rotate_left 1
        · intro w hSw; (try dsimp only at hSw); go_simp <;> with_reducible rfl
        simp only [List.foldl, Act.put, List.setIfInBounds_toArray, List.set_cons_zero, List.set_cons_succ]
        refine wpAnyH_one (i := 3) (d := 33) (v := ?_) rfl rfl (by kernel_rfl) (by kernel_rfl) (by kernel_rfl) (fun _ _ _ h => h) (by rfl) (by assumption) ?_ ?_
        rotate_left 1
        · intro w hSw; (try dsimp only at hSw); go_simp <;> with_reducible rfl
        simp only [List.foldl, Act.put, List.setIfInBounds_toArray, List.set_cons_zero, List.set_cons_succ]
        refine wpAnyH_one (i := 4) (d := 34) (v := ?_) rfl rfl (by kernel_rfl) (by kernel_rfl) (by kernel_rfl) (fun _ _ _ h => h) (by rfl) (by assumption) ?_ ?_
        rotate_left 1
        · intro w hSw; (try dsimp only at hSw); go_simp <;> with_reducible rfl
        simp only [List.foldl, Act.put, List.setIfInBounds_toArray, List.set_cons_zero, List.set_cons_succ]
        refine wpAnyH_one (i := 5) (d := 35) (v := ?_) rfl rfl (by kernel_rfl) (by kernel_rfl) (by kernel_rfl) (fun _ _ _ h => h) (by rfl) (by assumption) ?_ ?_
        rotate_left 1
        · intro w hSw; (try dsimp only at hSw); go_simp <;> with_reducible rfl
        simp only [List.foldl, Act.put, List.setIfInBounds_toArray, List.set_cons_zero, List.set_cons_succ]
        refine wpAnyH_one (i := 6) (d := 36) (v := ?_) rfl rfl (by kernel_rfl) (by kernel_rfl) (by kernel_rfl) (fun _ _ _ h => h) (by rfl) (by assumption) ?_ ?_
        rotate_left 1
        · intro w hSw; (try dsimp only at hSw); go_simp <;> with_reducible rfl
        simp only [List.foldl, Act.put, List.setIfInBounds_toArray, List.set_cons_zero, List.set_cons_succ]
        refine wpAnyH_one (i := 7) (d := 37) (v := ?_) rfl rfl (by kernel_rfl) (by kernel_rfl) (by kernel_rfl) (fun _ _ _ h => h) (by rfl) (by assumption) ?_ ?_
        rotate_left 1
        · intro w hSw; (try dsimp only at hSw); go_simp <;> with_reducible rfl
        simp only [List.foldl, Act.put, List.setIfInBounds_toArray, List.set_cons_zero, List.set_cons_succ]
        refine wpAnyH_ready (rs := [8]) (by kernel_rfl) (by simp) ?_
        refine AllReadyH.cons rfl (fun K hK => ?_) AllReadyH.nil
        go_simp
        refine (l8Fits_any t s1 (some ⟨kb, ko, none⟩) c1 c2 (w.heap.size + 1) B w HT.out HKT.out (by omega) x 9 nj t.nodes.length f1 _ (bl_drew hbW.out) (hSr.out.later (bl_drew (Below.refl _ _))) (by omega) (fun y _ => hfr.out y)).mono ?_
        rintro e w6 ⟨hg6, f6, hS6, hr6⟩
        have hg6 : wr.grownBy w6 (some (w.heap.size + 1)) := grown_trans (grown_bl (grown_refl _ _) (bl_drew (Below.refl _ _))) hg6
        have x0 := (grown_cell hg6 lt0 ne0).trans x0
        have x1 := (grown_cell hg6 lt0 ne0).trans x1
        have p0 := (grown_cell hg6 ltk nek).trans p0
        rcases hr6 with ⟨m, em, hFm, _, _, _⟩ | ⟨hno, r, rfl⟩
        · exact absurd ⟨m, em, hFm⟩ hgd.out
        have HG6 : Hid (W5.grownBy w6 (some (w.heap.size + 1))) := grown_trans hGr.out hg6
        clear hS6 hg6 hno
        refine hK.out _ _ ?_ (fun hHeld => ?_)
        · exact ⟨x0, x1, p0⟩
        clear hK K
        try simp only [List.foldl, Act.put, List.setIfInBounds_toArray, List.set_cons_zero, List.set_cons_succ]
        refine wpAnyH_one (i := 9) (d := 29) (v := ?_) rfl rfl (by kernel_rfl) (by kernel_rfl) (by kernel_rfl) (fun _ _ _ h => h) (by rfl) (by assumption) ?_ ?_
        rotate_left 1
        · intro w hSw; (try dsimp only at hSw); go_simp <;> with_reducible rfl
        simp only [List.foldl, Act.put, List.setIfInBounds_toArray, List.set_cons_zero, List.set_cons_succ]
        refine wpAnyH_one (i := 10) (d := 39) (v := ?_) rfl rfl (by kernel_rfl) (by kernel_rfl) (by kernel_rfl) (fun _ _ _ h => h) (by rfl) (by assumption) ?_ ?_
        rotate_left 1
        · intro w hSw; (try dsimp only at hSw); go_simp <;> with_reducible rfl
        simp only [List.foldl, Act.put, List.setIfInBounds_toArray, List.set_cons_zero, List.set_cons_succ]
        refine wpAnyH_one (i := 11) (d := 40) (v := ?_) rfl rfl (by kernel_rfl) (by kernel_rfl) (by kernel_rfl) (fun _ _ _ h => h) (by rfl) (by assumption) ?_ ?_
        rotate_left 1
        · intro w hSw; (try dsimp only at hSw); go_simp <;> with_reducible rfl
        simp only [List.foldl, Act.put, List.setIfInBounds_toArray, List.set_cons_zero, List.set_cons_succ]
        refine wpAnyH_one (i := 12) (d := 6) (v := ?_) rfl rfl (by kernel_rfl) (by kernel_rfl) (by kernel_rfl) (fun _ _ _ h => h) (by rfl) (by assumption) ?_ ?_
        rotate_left 1
        · intro w hSw; (try dsimp only at hSw); go_simp <;> with_reducible rfl
        simp only [List.foldl, Act.put, List.setIfInBounds_toArray, List.set_cons_zero, List.set_cons_succ]
        refine wpAnyH_one (i := 13) (d := 7) (v := ?_) rfl rfl (by kernel_rfl) (by kernel_rfl) (by kernel_rfl) (fun _ _ _ h => h) (by rfl) (by assumption) ?_ ?_
        rotate_left 1
        · intro w hSw; (try dsimp only at hSw); go_simp <;> with_reducible rfl
        simp only [List.foldl, Act.put, List.setIfInBounds_toArray, List.set_cons_zero, List.set_cons_succ]
        refine wpAnyH_done (by kernel_rfl) ?_ _
        go_wp2_with fail
        go_ret
        refine ⟨ret_bool' (treB_false fun h => hgd.out (treP_top HX.out hFL.out h)).symm, Below.trans hbel.out (grown_below HG6.out (Nat.le_succ _) (by omega))⟩
    · have HJ : Hid (j = t.tops.length) := show _ = _ by omega
      by_cases hnk : nj = t.nodes.length
      · have qn : ((nj : Int) == (t.nodes.length : Int)) = true := by simp [hnk]
        have HE : Hid (treB t = true) := treB_true ⟨H4.out, by
          have h6 := hFL.out
          rw [HJ.out, List.take_length, hnk] at h6
          exact h6, fun j' x h1 => hcl.out j' x (by rw [HJ.out]; exact (List.getElem?_eq_some_iff.1 h1).1) h1⟩
        clear hnk
        go_wp2_with fail
        go_ret
        exact ⟨ret_bool' HE.out.symm, hbW.out⟩
      · have qn : ((nj : Int) == (t.nodes.length : Int)) = false := by simp; omega
        have HE : Hid (treB t = false) := treB_false fun h => by
          have h6 := hFL.out
          rw [HJ.out, List.take_length] at h6
          exact hnk (h6.same _ h.2.1)
        clear hnk
        go_wp2_with fail
        go_ret
        exact ⟨ret_bool' HE.out.symm, hbW.out⟩
end Go.Proofs.YtknallkcengbbaaGreatDoor
