import Derived.Test.YtofpkbnocbmgkaaQb
namespace Go.Proofs.Ytofpkbnocbmgkaa
open Go.RowKit
set_option linter.unusedVariables false
set_option linter.unusedSimpArgs false

theorem all_succ {M : List Int} {p : Int → Bool} {k : Nat} {x : Int} (h : M[k]? = some x) : (M.take (k + 1)).all p = ((M.take k).all p && p x) := by
  have hk : k < M.length := (List.getElem?_eq_some_iff.1 h).1
  rw [List.take_succ_eq_append_getElem hk]
  have e : M[k] = x := by rw [List.getElem?_eq_getElem hk] at h; simpa using h
  rw [e, List.all_append]
  simp
theorem all_no {M : List Int} {p : Int → Bool} {k : Nat} (h : (M.take k).all p = false) : M.all p = false := by
  rw [← List.take_append_drop k M, List.all_append, h]; rfl
theorem and_no {M C : List Int} {p q : Int → Bool} {k : Nat} (h : false = (M.all p && (C.take k).all q)) : false = (M.all p && C.all q) := by
  cases h7 : M.all p
  · rfl
  · rw [h7] at h
    rw [all_no (k := k) (by simpa using h.symm)]; rfl

set_option maxRecDepth 100000 in
set_option maxHeartbeats 8000000 in
theorem specMatch_any (a1 a2 a3 a4 : Option Addr) (c1 c2 c3 c4 : Nat) (V : Wd) (s t : Option Addr) (c d : Nat) (A C : List Int) (w : World) (hV : InW w 0 a1 a2 a3 a4 V) (kv : kW V) (hA : Els 1 cInt w 0 s A) (hC : Els 1 cInt w 0 t C) (lA : A.length ≤ 1048576) (lC : C.length ≤ 1048576) :
    Calls Try.prog 16 #[.agg #[.slice a1 V.gens.length c1, .slice a2 V.free.length c2, .slice a3 V.tabs.length c3, .slice a4 V.res.length c4], .slice s A.length c, .slice t C.length d] w fun e w' => MtSays (mtW V.tabs A C) w.heap.size e w' ∧ Below w.heap.size w w' := by
  obtain ⟨v1, v2, ⟨v3, v3s⟩, v4⟩ := kv
  have HK : Hid (∀ t ∈ V.tabs, kTab t) := v3s
  clear v3s
  have k0 := (Blk.new w #[.slice a1 V.gens.length c1, .slice a2 V.free.length c2, .slice a3 V.tabs.length c3, .slice a4 V.res.length c4] 49).alloc (.cells #[] 51)
  have e0 := Blk.new' (w.alloc (.cells #[.slice a1 V.gens.length c1, .slice a2 V.free.length c2, .slice a3 V.tabs.length c3, .slice a4 V.res.length c4] 49)) #[] 51 (n := w.heap.size + 1) (by simp)
  have L0 := bl_alloc (bl_alloc (Below.refl _ w) (.cells #[.slice a1 V.gens.length c1, .slice a2 V.free.length c2, .slice a3 V.tabs.length c3, .slice a4 V.res.length c4] 49)) (.cells #[] 51)
  have O0 : ERow ((w.alloc (.cells #[.slice a1 V.gens.length c1, .slice a2 V.free.length c2, .slice a3 V.tabs.length c3, .slice a4 V.res.length c4] 49)).alloc (.cells #[] 51)) w.heap.size (.slice (some ⟨w.heap.size + 1, 0, none⟩) 0 0) [] := ⟨rfl, Or.inr ⟨w.heap.size + 1, 0, _, rfl, by omega, e0, Nat.le_refl _, by unfold maxLen; omega, rfl, rfl⟩⟩
  obtain ⟨x0, x1, x2, x3, x4⟩ := k0.four'
  by_cases g : V.tabs.length ≤ 40 ∧ A.length ≤ 12 ∧ C.length ≤ 12
  · obtain ⟨g1, g2, g3⟩ := g
    have HR : Hid (mtW V.tabs A C = mtL V.tabs A C) := by show _ = _; unfold mtW; rw [if_pos ⟨g1, g2, g3⟩]
    have tT : Hid (∀ t ∈ V.tabs, t.rows.length ≤ 1048576) := fun t ht => (HK.out t ht).2.1
    have q1 : ¬ (40 : Int) < (V.tabs.length : Int) := by omega
    have q2 : ¬ (12 : Int) < (A.length : Int) := by omega
    have q3 : ¬ (12 : Int) < (C.length : Int) := by omega
    go_enter Try.func16, Try.ntmps16
    go_wp2_with fail
    generalize hX : (w.alloc (.cells #[.slice a1 V.gens.length c1, .slice a2 V.free.length c2, .slice a3 V.tabs.length c3, .slice a4 V.res.length c4] 49)).alloc (.cells #[] 51) = X at k0 L0 O0 ⊢
    clear hX x0 x1 x2 x3 x4 e0 q1 q2 q3
    go_loopw [7, 8] (fun v i wr => ∃ (k : Nat) (s9 : Option Addr) (c9 : Nat) (R : List E2), k ≤ V.tabs.length ∧ i = .int .i64 k ∧ v = .slice s9 R.length c9 ∧ Hid (R = mtL (V.tabs.take k) A C) ∧ Hid (ERow wr w.heap.size (.slice s9 R.length c9) R) ∧ Hid (Below w.heap.size w wr) ∧ Hid (Blk wr w.heap.size #[.slice a1 V.gens.length c1, .slice a2 V.free.length c2, .slice a3 V.tabs.length c3, .slice a4 V.res.length c4] 49) ∧ Hid (¬ (Value.slice s9 R.length c9).ownBlock = some w.heap.size)) (fun _ i _ => V.tabs.length - (intOf i).toNat)
    case atStart => exact ⟨0, _, 0, [], Nat.zero_le _, rfl, rfl, (by simp [Hid, mtL]), O0, L0, k0, (by simp [Hid, Value.ownBlock])⟩
    case round =>
      clear k0 L0 O0
      obtain ⟨k, s9, c9, R, hk, rfl, rfl, hR, hO, hb, hB, hno⟩ := hrel
      obtain ⟨W5, rfl⟩ : ∃ W5, W5 = wr := ⟨_, rfl⟩
      obtain ⟨x0, x1, x2, x3, x4⟩ := hB.out.four'
      by_cases hlt : k < V.tabs.length
      · obtain ⟨tb, htb⟩ := get_some hlt
        have hT := hV.t.later cTab_keeps hb.out
        obtain ⟨p, o, rfl, _, hp, s1, e1, s2, e2, s3, e3, z1, z2, z3, f1, f2, f3⟩ := eTab_cells hT htb
        have kt := HK.out tb (List.mem_of_getElem? htb)
        have lR : R.length ≤ 1048576 * k := by rw [hR.out]; exact mtL_len tT.out k (by omega)
        have HS : Hid (mtL (V.tabs.take (k + 1)) A C = R ++ (if fitB tb A C then tb.rows else [])) := by show _ = _; rw [mtL_succ htb, ← hR.out]
        have kc := kt.1
        have kr := kt.2.1
        have F1 : Hid (Els 1 cInt W5 0 s1 tb.cols) := f1
        have F2 : Hid (Els 2 cEnt W5 0 s2 tb.rows) := f2
        have hA2 : Hid (Els 1 cInt W5 0 s A) := hA.later cInt_keeps hb.out
        have hC2 : Hid (Els 1 cInt W5 0 t C) := hC.later cInt_keeps hb.out
        have PB : Hid (p < W5.heap.size) := hp
        have BB : Hid (w.heap.size < W5.heap.size) := hB.out.lt
        have X1 : Hid (W5.cell? ⟨w.heap.size, 2, none⟩ = some (.slice (some ⟨p, o, none⟩) V.tabs.length c3)) := x2
        have Z1 : Hid (W5.cell? ⟨p, o + k * 3, none⟩ = some (.slice s1 tb.cols.length e1)) := z1
        have Z2 : Hid (W5.cell? ⟨p, o + k * 3 + 1, none⟩ = some (.slice s2 tb.rows.length e2)) := z2
        clear htb hT kt f1 f2 f3 hR hp
        go_wp2_with fail
        clear x0 x1 x2 x3 x4 z1 z2 z3
        go_loopw [9, 10] (fun f i wr2 => ∃ (m : Nat) (b : Bool), m ≤ A.length ∧ i = .int .i64 m ∧ f = .bool b ∧ Hid (b = ((A.take m).all (fun x => decide (x ∈ tb.cols)))) ∧ Hid (Below W5.heap.size W5 wr2)) (fun _ i _ => A.length - (intOf i).toNat)
        case atStart => exact ⟨0, true, Nat.zero_le _, rfl, rfl, (by simp [Hid]), Below.refl _ _⟩
        case round =>
          obtain ⟨m, b, hm, rfl, rfl, hbq, hb2⟩ := hrel
          by_cases hltm : m < A.length
          · cases b
            · have HQ : Hid (false = (A.all (fun x => decide (x ∈ tb.cols)))) := by show false = _; rw [all_no hbq.out.symm]
              go_wp2_with fail
              go_loopw [9, 11] (fun f i wr2 => ∃ (m : Nat) (b : Bool), m ≤ C.length ∧ i = .int .i64 m ∧ f = .bool b ∧ Hid (b = ((A.all (fun x => decide (x ∈ tb.cols))) && (C.take m).all (fun x => !decide (x ∈ tb.cols)))) ∧ Hid (Below W5.heap.size W5 wr2)) (fun _ i _ => C.length - (intOf i).toNat)
              case atStart => exact ⟨0, false, Nat.zero_le _, rfl, rfl, (by show false = _; rw [← HQ.out]; simp), hb2⟩
              case round =>
                obtain ⟨m, b, hm, rfl, rfl, hbq, hb2⟩ := hrel
                by_cases hltm : m < C.length
                · cases b
                  · have HQ : Hid (false = ((A.all (fun x => decide (x ∈ tb.cols))) && C.all (fun x => !decide (x ∈ tb.cols)))) := and_no hbq.out
                    have HF : Hid (fitB tb A C = false) := by show _ = _; rw [HQ.out]; rfl
                    have hO2 : Hid (ERow wr w.heap.size (.slice s9 R.length c9) R) := hO.out.later hb2.out
                    have hb3 : Hid (Below w.heap.size w wr) := bl_trans hb.out hb2.out
                    have hB3 : Hid (Blk wr w.heap.size #[.slice a1 V.gens.length c1, .slice a2 V.free.length c2, .slice (some ⟨p, o, none⟩) V.tabs.length c3, .slice a4 V.res.length c4] 49) := hB.out.later hb2.out
                    have HS2 : Hid (R = mtL (V.tabs.take (k + 1)) A C) := by show R = _; rw [HS.out, HF.out]; simp
                    clear HS HF
                    go_wp2_with fail
                    go_roundw
                    case rel => exact ⟨k + 1, s9, c9, R, by omega, by go_num, rfl, HS2, hO2, hb3, hB3, hno⟩
                    case measure => simp [intOf]; omega
                  · obtain ⟨x, hx⟩ := get_some hltm
                    obtain ⟨bb, oo, e8, _, hpp, y0⟩ := eInt_cells (hC2.out.later cInt_keeps hb2.out) hx
                    have HX : Hid (((A.all (fun x => decide (x ∈ tb.cols))) && (C.take (m + 1)).all (fun x => !decide (x ∈ tb.cols))) = (!decide (x ∈ tb.cols))) := by
                      show _ = _
                      rw [all_succ hx]
                      have := hbq.out
                      rw [← Bool.and_assoc, ← this]; rfl
                    have y1 := (hb2.out.cell (p := ⟨w.heap.size, 2, none⟩) BB.out).trans X1.out
                    have y2 := (hb2.out.cell (p := ⟨p, o + k * 3, none⟩) PB.out).trans Z1.out
                    have F9 : Hid (Els 1 cInt wr.drew 0 s1 tb.cols) := F1.out.later cInt_keeps (bl_trans hb2.out (bl_drew (Below.refl _ _)))
                    have HB2 : Hid (Below W5.heap.size W5 wr.drew) := bl_trans hb2.out (bl_drew (Below.refl _ _))
                    have e8' : t = some ⟨bb, oo, none⟩ := e8
                    subst e8'
                    clear hx e8
                    go_wp2_with fail
                    refine wp_region_held_drew (S := fun w' => w'.cell? ⟨w.heap.size, 2, none⟩ = some (.slice (some ⟨p, o, none⟩) V.tabs.length c3) ∧ w'.cell? ⟨p, o + k * 3, none⟩ = some (.slice s1 tb.cols.length e1) ∧ w'.cell? ⟨bb, oo + m, none⟩ = some (.int .i64 x)) (by kernel_rfl) ?_ (fun hHeld => ?_)
                    · exact ⟨y1, y2, y0⟩
                    refine wpAnyH_one (i := 0) (d := 65) (v := ?_) rfl rfl (by kernel_rfl) (by kernel_rfl) (by kernel_rfl) (fun _ _ _ h => h) (by rfl) (by assumption) ?_ ?_
                    rotate_left 1
                    · intro w hSw; (try dsimp only at hSw); go_simp <;> with_reducible rfl
                    simp only [List.foldl, Act.put, List.setIfInBounds_toArray, List.set_cons_zero, List.set_cons_succ]
                    refine wpAnyH_one (i := 1) (d := 66) (v := ?_) rfl rfl (by kernel_rfl) (by kernel_rfl) (by kernel_rfl) (fun _ _ _ h => h) (by rfl) (by assumption) ?_ ?_
                    rotate_left 1
                    · intro w hSw; (try dsimp only at hSw); go_simp <;> with_reducible rfl
                    simp only [List.foldl, Act.put, List.setIfInBounds_toArray, List.set_cons_zero, List.set_cons_succ]
                    refine wpAnyH_one (i := 2) (d := 67) (v := ?_) rfl rfl (by kernel_rfl) (by kernel_rfl) (by kernel_rfl) (fun _ _ _ h => h) (by rfl) (by assumption) ?_ ?_
                    rotate_left 1
                    · intro w hSw; (try dsimp only at hSw); go_simp <;> with_reducible rfl
                    simp only [List.foldl, Act.put, List.setIfInBounds_toArray, List.set_cons_zero, List.set_cons_succ]
                    refine wpAnyH_one (i := 3) (d := 68) (v := ?_) rfl rfl (by kernel_rfl) (by kernel_rfl) (by kernel_rfl) (fun _ _ _ h => h) (by rfl) (by assumption) ?_ ?_
                    rotate_left 1
                    · intro w hSw; (try dsimp only at hSw); go_simp <;> with_reducible rfl
                    simp only [List.foldl, Act.put, List.setIfInBounds_toArray, List.set_cons_zero, List.set_cons_succ]
                    refine wpAnyH_one (i := 4) (d := 69) (v := ?_) rfl rfl (by kernel_rfl) (by kernel_rfl) (by kernel_rfl) (fun _ _ _ h => h) (by rfl) (by assumption) ?_ ?_
                    rotate_left 1
                    · intro w hSw; (try dsimp only at hSw); go_simp <;> with_reducible rfl
                    simp only [List.foldl, Act.put, List.setIfInBounds_toArray, List.set_cons_zero, List.set_cons_succ]
                    refine wpAnyH_one (i := 5) (d := 70) (v := ?_) rfl rfl (by kernel_rfl) (by kernel_rfl) (by kernel_rfl) (fun _ _ _ h => h) (by rfl) (by assumption) ?_ ?_
                    rotate_left 1
                    · intro w hSw; (try dsimp only at hSw); go_simp <;> with_reducible rfl
                    simp only [List.foldl, Act.put, List.setIfInBounds_toArray, List.set_cons_zero, List.set_cons_succ]
                    refine wpAnyH_one (i := 6) (d := 71) (v := ?_) rfl rfl (by kernel_rfl) (by kernel_rfl) (by kernel_rfl) (fun _ _ _ h => h) (by rfl) (by assumption) ?_ ?_
                    rotate_left 1
                    · intro w hSw; (try dsimp only at hSw); go_simp <;> with_reducible rfl
                    simp only [List.foldl, Act.put, List.setIfInBounds_toArray, List.set_cons_zero, List.set_cons_succ]
                    refine wpAnyH_one (i := 7) (d := 72) (v := ?_) rfl rfl (by kernel_rfl) (by kernel_rfl) (by kernel_rfl) (fun _ _ _ h => h) (by rfl) (by assumption) ?_ ?_
                    rotate_left 1
                    · intro w hSw; (try dsimp only at hSw); go_simp <;> with_reducible rfl
                    simp only [List.foldl, Act.put, List.setIfInBounds_toArray, List.set_cons_zero, List.set_cons_succ]
                    refine wpAnyH_one (i := 8) (d := 73) (v := ?_) rfl rfl (by kernel_rfl) (by kernel_rfl) (by kernel_rfl) (fun _ _ _ h => h) (by rfl) (by assumption) ?_ ?_
                    rotate_left 1
                    · intro w hSw; (try dsimp only at hSw); go_simp <;> with_reducible rfl
                    simp only [List.foldl, Act.put, List.setIfInBounds_toArray, List.set_cons_zero, List.set_cons_succ]
                    refine wpAnyH_one (i := 9) (d := 74) (v := ?_) rfl rfl (by kernel_rfl) (by kernel_rfl) (by kernel_rfl) (fun _ _ _ h => h) (by rfl) (by assumption) ?_ ?_
                    rotate_left 1
                    · intro w hSw; (try dsimp only at hSw); go_simp <;> with_reducible rfl
                    simp only [List.foldl, Act.put, List.setIfInBounds_toArray, List.set_cons_zero, List.set_cons_succ]
                    refine wpAnyH_ready (rs := [10]) (by kernel_rfl) (by simp) ?_
                    refine AllReadyH.cons rfl (fun K hK => ?_) AllReadyH.nil
                    go_simp
                    refine (l4At_any s1 e1 tb.cols x 0 _ F9.out kc).mono ?_
                    rintro e w9 ⟨⟨r, rfl, hr⟩, rfl⟩
                    refine hK.out _ _ ?_ (fun hHeld => ?_)
                    · exact ⟨y1, y2, y0⟩
                    clear hK K
                    try simp only [List.foldl, Act.put, List.setIfInBounds_toArray, List.set_cons_zero, List.set_cons_succ]
                    refine wpAnyH_one (i := 11) (d := 76) (v := ?_) rfl rfl (by kernel_rfl) (by kernel_rfl) (by kernel_rfl) (fun _ _ _ h => h) (by rfl) (by assumption) ?_ ?_
                    rotate_left 1
                    · intro w hSw; (try dsimp only at hSw); go_simp <;> with_reducible rfl
                    simp only [List.foldl, Act.put, List.setIfInBounds_toArray, List.set_cons_zero, List.set_cons_succ]
                    refine wpAnyH_one (i := 12) (d := 9) (v := ?_) rfl rfl (by kernel_rfl) (by kernel_rfl) (by kernel_rfl) (fun _ _ _ h => h) (by rfl) (by assumption) ?_ ?_
                    rotate_left 1
                    · intro w hSw; (try dsimp only at hSw); go_simp <;> with_reducible rfl
                    simp only [List.foldl, Act.put, List.setIfInBounds_toArray, List.set_cons_zero, List.set_cons_succ]
                    refine wpAnyH_done (by kernel_rfl) ?_ _
                    have hrb : Hid (decide (r < 0) = (!decide (x ∈ tb.cols))) := by
                      show _ = _
                      rcases hr with ⟨rfl, h9⟩ | ⟨q, rfl, h9⟩
                      · simp [h9]
                      · have := List.mem_of_getElem? h9
                        simp [this]
                    obtain ⟨b9, hb9⟩ : ∃ b9, (!decide (x ∈ tb.cols)) = b9 := ⟨_, rfl⟩
                    rw [hb9] at hrb HX
                    have HX' : Hid (b9 = ((A.all (fun x => decide (x ∈ tb.cols))) && (C.take (m + 1)).all (fun x => !decide (x ∈ tb.cols)))) := HX.out.symm
                    have hrb' := hrb.out
                    clear hr hHeld hbq hb9 y0 y1 y2 F9 HX
                    go_wp2_with fail
                    go_roundw
                    case rel => exact ⟨m + 1, b9, by omega, by go_num, by rw [hrb.out], HX', HB2⟩
                    case measure => simp [intOf]; omega
                · have HQ : Hid (b = ((A.all (fun x => decide (x ∈ tb.cols))) && C.all (fun x => !decide (x ∈ tb.cols)))) := by
                    show b = _
                    rw [hbq.out, show m = C.length by omega, List.take_length]
                  have HF : Hid (fitB tb A C = b) := by show _ = _; rw [HQ.out]; rfl
                  have hO2 : Hid (ERow wr w.heap.size (.slice s9 R.length c9) R) := hO.out.later hb2.out
                  have hb3 : Hid (Below w.heap.size w wr) := bl_trans hb.out hb2.out
                  have hB3 : Hid (Blk wr w.heap.size #[.slice a1 V.gens.length c1, .slice a2 V.free.length c2, .slice (some ⟨p, o, none⟩) V.tabs.length c3, .slice a4 V.res.length c4] 49) := hB.out.later hb2.out
                  cases b
                  · have HS2 : Hid (R = mtL (V.tabs.take (k + 1)) A C) := by show R = _; rw [HS.out, HF.out]; simp
                    clear HS HF
                    go_wp2_with fail
                    go_roundw
                    case rel => exact ⟨k + 1, s9, c9, R, by omega, by go_num, rfl, HS2, hO2, hb3, hB3, hno⟩
                    case measure => simp [intOf]; omega
                  · obtain ⟨R2, hR2⟩ : ∃ R2, Hid (R ++ tb.rows = R2) := ⟨_, (rfl : R ++ tb.rows = _)⟩
                    have HS2 : Hid (R2 = mtL (V.tabs.take (k + 1)) A C) := by show R2 = _; rw [HS.out, HF.out, ← hR2.out]; rfl
                    have y1 := (hb2.out.cell (p := ⟨w.heap.size, 2, none⟩) BB.out).trans X1.out
                    have y2 := (hb2.out.cell (p := ⟨p, o + k * 3 + 1, none⟩) PB.out).trans Z2.out
                    have F3 : Hid (Els 2 cEnt wr 0 s2 tb.rows) := F2.out.later cEnt_keeps hb2.out
                    have hgt := hB3.out.lt
                    clear HS HF
                    go_wp2_with (at_builtin; refine wpList_append_ents rfl _ _ rfl w.heap.size s9 c9 R rfl hO2.out 0 s2 e2 tb.rows rfl F3.out R2 hR2.out (by omega) hb3.out.size ?_; intro s' c' w4 hO4 hg4 hn4)
                    have hO4 : Hid (ERow w4 w.heap.size (.slice s' R2.length c') R2) := hO4
                    have hb4 : Hid (Below w.heap.size w w4) := grown_row hb3.out hO2.out hg4
                    have hB4 : Hid (Blk w4 w.heap.size #[.slice a1 V.gens.length c1, .slice a2 V.free.length c2, .slice (some ⟨p, o, none⟩) V.tabs.length c3, .slice a4 V.res.length c4] 49) := hB3.out.same' (hg4.block _ hgt (fun e => hno.out e.symm))
                    have hno4 : Hid (¬ (Value.slice s' R2.length c').ownBlock = some w.heap.size) := by
                      intro e
                      rcases hn4 _ e with h | h
                      · exact hno.out h
                      · omega
                    clear hg4 hn4 hO2 F3 y1 y2
                    go_wp2_with fail
                    go_roundw
                    case rel => exact ⟨k + 1, s', c', R2, by omega, by go_num, rfl, HS2, hO4, hb4, hB4, hno4⟩
                    case measure => simp [intOf]; omega
            · obtain ⟨x, hx⟩ := get_some hltm
              obtain ⟨bb, oo, e8, _, hpp, y0⟩ := eInt_cells (hA2.out.later cInt_keeps hb2.out) hx
              have HX : Hid (((A.take (m + 1)).all (fun x => decide (x ∈ tb.cols))) = (decide (x ∈ tb.cols))) := by
                show _ = _
                rw [all_succ hx]
                have := hbq.out
                rw [← this]; rfl
              have y1 := (hb2.out.cell (p := ⟨w.heap.size, 2, none⟩) BB.out).trans X1.out
              have y2 := (hb2.out.cell (p := ⟨p, o + k * 3, none⟩) PB.out).trans Z1.out
              have F9 : Hid (Els 1 cInt wr.drew 0 s1 tb.cols) := F1.out.later cInt_keeps (bl_trans hb2.out (bl_drew (Below.refl _ _)))
              have HB2 : Hid (Below W5.heap.size W5 wr.drew) := bl_trans hb2.out (bl_drew (Below.refl _ _))
              have e8' : s = some ⟨bb, oo, none⟩ := e8
              subst e8'
              clear hx e8
              go_wp2_with fail
              refine wp_region_held_drew (S := fun w' => w'.cell? ⟨w.heap.size, 2, none⟩ = some (.slice (some ⟨p, o, none⟩) V.tabs.length c3) ∧ w'.cell? ⟨p, o + k * 3, none⟩ = some (.slice s1 tb.cols.length e1) ∧ w'.cell? ⟨bb, oo + m, none⟩ = some (.int .i64 x)) (by kernel_rfl) ?_ (fun hHeld => ?_)
              · exact ⟨y1, y2, y0⟩
              refine wpAnyH_one (i := 0) (d := 44) (v := ?_) rfl rfl (by kernel_rfl) (by kernel_rfl) (by kernel_rfl) (fun _ _ _ h => h) (by rfl) (by assumption) ?_ ?_
              rotate_left 1
              · intro w hSw; (try dsimp only at hSw); go_simp <;> with_reducible rfl
              simp only [List.foldl, Act.put, List.setIfInBounds_toArray, List.set_cons_zero, List.set_cons_succ]
              refine wpAnyH_one (i := 1) (d := 45) (v := ?_) rfl rfl (by kernel_rfl) (by kernel_rfl) (by kernel_rfl) (fun _ _ _ h => h) (by rfl) (by assumption) ?_ ?_
              rotate_left 1
              · intro w hSw; (try dsimp only at hSw); go_simp <;> with_reducible rfl
              simp only [List.foldl, Act.put, List.setIfInBounds_toArray, List.set_cons_zero, List.set_cons_succ]
              refine wpAnyH_one (i := 2) (d := 46) (v := ?_) rfl rfl (by kernel_rfl) (by kernel_rfl) (by kernel_rfl) (fun _ _ _ h => h) (by rfl) (by assumption) ?_ ?_
              rotate_left 1
              · intro w hSw; (try dsimp only at hSw); go_simp <;> with_reducible rfl
              simp only [List.foldl, Act.put, List.setIfInBounds_toArray, List.set_cons_zero, List.set_cons_succ]
              refine wpAnyH_one (i := 3) (d := 47) (v := ?_) rfl rfl (by kernel_rfl) (by kernel_rfl) (by kernel_rfl) (fun _ _ _ h => h) (by rfl) (by assumption) ?_ ?_
              rotate_left 1
              · intro w hSw; (try dsimp only at hSw); go_simp <;> with_reducible rfl
              simp only [List.foldl, Act.put, List.setIfInBounds_toArray, List.set_cons_zero, List.set_cons_succ]
              refine wpAnyH_one (i := 4) (d := 48) (v := ?_) rfl rfl (by kernel_rfl) (by kernel_rfl) (by kernel_rfl) (fun _ _ _ h => h) (by rfl) (by assumption) ?_ ?_
              rotate_left 1
              · intro w hSw; (try dsimp only at hSw); go_simp <;> with_reducible rfl
              simp only [List.foldl, Act.put, List.setIfInBounds_toArray, List.set_cons_zero, List.set_cons_succ]
              refine wpAnyH_one (i := 5) (d := 49) (v := ?_) rfl rfl (by kernel_rfl) (by kernel_rfl) (by kernel_rfl) (fun _ _ _ h => h) (by rfl) (by assumption) ?_ ?_
              rotate_left 1
              · intro w hSw; (try dsimp only at hSw); go_simp <;> with_reducible rfl
              simp only [List.foldl, Act.put, List.setIfInBounds_toArray, List.set_cons_zero, List.set_cons_succ]
              refine wpAnyH_one (i := 6) (d := 50) (v := ?_) rfl rfl (by kernel_rfl) (by kernel_rfl) (by kernel_rfl) (fun _ _ _ h => h) (by rfl) (by assumption) ?_ ?_
              rotate_left 1
              · intro w hSw; (try dsimp only at hSw); go_simp <;> with_reducible rfl
              simp only [List.foldl, Act.put, List.setIfInBounds_toArray, List.set_cons_zero, List.set_cons_succ]
              refine wpAnyH_one (i := 7) (d := 51) (v := ?_) rfl rfl (by kernel_rfl) (by kernel_rfl) (by kernel_rfl) (fun _ _ _ h => h) (by rfl) (by assumption) ?_ ?_
              rotate_left 1
              · intro w hSw; (try dsimp only at hSw); go_simp <;> with_reducible rfl
              simp only [List.foldl, Act.put, List.setIfInBounds_toArray, List.set_cons_zero, List.set_cons_succ]
              refine wpAnyH_one (i := 8) (d := 52) (v := ?_) rfl rfl (by kernel_rfl) (by kernel_rfl) (by kernel_rfl) (fun _ _ _ h => h) (by rfl) (by assumption) ?_ ?_
              rotate_left 1
              · intro w hSw; (try dsimp only at hSw); go_simp <;> with_reducible rfl
              simp only [List.foldl, Act.put, List.setIfInBounds_toArray, List.set_cons_zero, List.set_cons_succ]
              refine wpAnyH_one (i := 9) (d := 53) (v := ?_) rfl rfl (by kernel_rfl) (by kernel_rfl) (by kernel_rfl) (fun _ _ _ h => h) (by rfl) (by assumption) ?_ ?_
              rotate_left 1
              · intro w hSw; (try dsimp only at hSw); go_simp <;> with_reducible rfl
              simp only [List.foldl, Act.put, List.setIfInBounds_toArray, List.set_cons_zero, List.set_cons_succ]
              refine wpAnyH_ready (rs := [10]) (by kernel_rfl) (by simp) ?_
              refine AllReadyH.cons rfl (fun K hK => ?_) AllReadyH.nil
              go_simp
              refine (l4At_any s1 e1 tb.cols x 0 _ F9.out kc).mono ?_
              rintro e w9 ⟨⟨r, rfl, hr⟩, rfl⟩
              refine hK.out _ _ ?_ (fun hHeld => ?_)
              · exact ⟨y1, y2, y0⟩
              clear hK K
              try simp only [List.foldl, Act.put, List.setIfInBounds_toArray, List.set_cons_zero, List.set_cons_succ]
              refine wpAnyH_one (i := 11) (d := 55) (v := ?_) rfl rfl (by kernel_rfl) (by kernel_rfl) (by kernel_rfl) (fun _ _ _ h => h) (by rfl) (by assumption) ?_ ?_
              rotate_left 1
              · intro w hSw; (try dsimp only at hSw); go_simp <;> with_reducible rfl
              simp only [List.foldl, Act.put, List.setIfInBounds_toArray, List.set_cons_zero, List.set_cons_succ]
              refine wpAnyH_one (i := 12) (d := 9) (v := ?_) rfl rfl (by kernel_rfl) (by kernel_rfl) (by kernel_rfl) (fun _ _ _ h => h) (by rfl) (by assumption) ?_ ?_
              rotate_left 1
              · intro w hSw; (try dsimp only at hSw); go_simp <;> with_reducible rfl
              simp only [List.foldl, Act.put, List.setIfInBounds_toArray, List.set_cons_zero, List.set_cons_succ]
              refine wpAnyH_done (by kernel_rfl) ?_ _
              have hrb : Hid (decide ((0 : Int) ≤ r) = (decide (x ∈ tb.cols))) := by
                show _ = _
                rcases hr with ⟨rfl, h9⟩ | ⟨q, rfl, h9⟩
                · simp [h9]
                · have := List.mem_of_getElem? h9
                  simp [this]
              obtain ⟨b9, hb9⟩ : ∃ b9, (decide (x ∈ tb.cols)) = b9 := ⟨_, rfl⟩
              rw [hb9] at hrb HX
              have HX' : Hid (b9 = ((A.take (m + 1)).all (fun x => decide (x ∈ tb.cols)))) := HX.out.symm
              have hrb' := hrb.out
              clear hr hHeld hbq hb9 y0 y1 y2 F9 HX
              go_wp2_with fail
              go_roundw
              case rel => exact ⟨m + 1, b9, by omega, by go_num, by rw [hrb.out], HX', HB2⟩
              case measure => simp [intOf]; omega
          · have HQ : Hid (b = (A.all (fun x => decide (x ∈ tb.cols)))) := by
              show b = _
              rw [hbq.out, show m = A.length by omega, List.take_length]
            go_wp2_with fail
            go_loopw [9, 11] (fun f i wr2 => ∃ (m : Nat) (b : Bool), m ≤ C.length ∧ i = .int .i64 m ∧ f = .bool b ∧ Hid (b = ((A.all (fun x => decide (x ∈ tb.cols))) && (C.take m).all (fun x => !decide (x ∈ tb.cols)))) ∧ Hid (Below W5.heap.size W5 wr2)) (fun _ i _ => C.length - (intOf i).toNat)
            case atStart => exact ⟨0, b, Nat.zero_le _, rfl, rfl, (by show b = _; rw [← HQ.out]; simp), hb2⟩
            case round =>
              obtain ⟨m, b, hm, rfl, rfl, hbq, hb2⟩ := hrel
              by_cases hltm : m < C.length
              · cases b
                · have HQ : Hid (false = ((A.all (fun x => decide (x ∈ tb.cols))) && C.all (fun x => !decide (x ∈ tb.cols)))) := and_no hbq.out
                  have HF : Hid (fitB tb A C = false) := by show _ = _; rw [HQ.out]; rfl
                  have hO2 : Hid (ERow wr w.heap.size (.slice s9 R.length c9) R) := hO.out.later hb2.out
                  have hb3 : Hid (Below w.heap.size w wr) := bl_trans hb.out hb2.out
                  have hB3 : Hid (Blk wr w.heap.size #[.slice a1 V.gens.length c1, .slice a2 V.free.length c2, .slice (some ⟨p, o, none⟩) V.tabs.length c3, .slice a4 V.res.length c4] 49) := hB.out.later hb2.out
                  have HS2 : Hid (R = mtL (V.tabs.take (k + 1)) A C) := by show R = _; rw [HS.out, HF.out]; simp
                  clear HS HF
                  go_wp2_with fail
                  go_roundw
                  case rel => exact ⟨k + 1, s9, c9, R, by omega, by go_num, rfl, HS2, hO2, hb3, hB3, hno⟩
                  case measure => simp [intOf]; omega
                · obtain ⟨x, hx⟩ := get_some hltm
                  obtain ⟨bb, oo, e8, _, hpp, y0⟩ := eInt_cells (hC2.out.later cInt_keeps hb2.out) hx
                  have HX : Hid (((A.all (fun x => decide (x ∈ tb.cols))) && (C.take (m + 1)).all (fun x => !decide (x ∈ tb.cols))) = (!decide (x ∈ tb.cols))) := by
                    show _ = _
                    rw [all_succ hx]
                    have := hbq.out
                    rw [← Bool.and_assoc, ← this]; rfl
                  have y1 := (hb2.out.cell (p := ⟨w.heap.size, 2, none⟩) BB.out).trans X1.out
                  have y2 := (hb2.out.cell (p := ⟨p, o + k * 3, none⟩) PB.out).trans Z1.out
                  have F9 : Hid (Els 1 cInt wr.drew 0 s1 tb.cols) := F1.out.later cInt_keeps (bl_trans hb2.out (bl_drew (Below.refl _ _)))
                  have HB2 : Hid (Below W5.heap.size W5 wr.drew) := bl_trans hb2.out (bl_drew (Below.refl _ _))
                  have e8' : t = some ⟨bb, oo, none⟩ := e8
                  subst e8'
                  clear hx e8
                  go_wp2_with fail
                  refine wp_region_held_drew (S := fun w' => w'.cell? ⟨w.heap.size, 2, none⟩ = some (.slice (some ⟨p, o, none⟩) V.tabs.length c3) ∧ w'.cell? ⟨p, o + k * 3, none⟩ = some (.slice s1 tb.cols.length e1) ∧ w'.cell? ⟨bb, oo + m, none⟩ = some (.int .i64 x)) (by kernel_rfl) ?_ (fun hHeld => ?_)
                  · exact ⟨y1, y2, y0⟩
                  refine wpAnyH_one (i := 0) (d := 65) (v := ?_) rfl rfl (by kernel_rfl) (by kernel_rfl) (by kernel_rfl) (fun _ _ _ h => h) (by rfl) (by assumption) ?_ ?_
                  rotate_left 1
                  · intro w hSw; (try dsimp only at hSw); go_simp <;> with_reducible rfl
                  simp only [List.foldl, Act.put, List.setIfInBounds_toArray, List.set_cons_zero, List.set_cons_succ]
                  refine wpAnyH_one (i := 1) (d := 66) (v := ?_) rfl rfl (by kernel_rfl) (by kernel_rfl) (by kernel_rfl) (fun _ _ _ h => h) (by rfl) (by assumption) ?_ ?_
                  rotate_left 1
                  · intro w hSw; (try dsimp only at hSw); go_simp <;> with_reducible rfl
                  simp only [List.foldl, Act.put, List.setIfInBounds_toArray, List.set_cons_zero, List.set_cons_succ]
                  refine wpAnyH_one (i := 2) (d := 67) (v := ?_) rfl rfl (by kernel_rfl) (by kernel_rfl) (by kernel_rfl) (fun _ _ _ h => h) (by rfl) (by assumption) ?_ ?_
                  rotate_left 1
                  · intro w hSw; (try dsimp only at hSw); go_simp <;> with_reducible rfl
                  simp only [List.foldl, Act.put, List.setIfInBounds_toArray, List.set_cons_zero, List.set_cons_succ]
                  refine wpAnyH_one (i := 3) (d := 68) (v := ?_) rfl rfl (by kernel_rfl) (by kernel_rfl) (by kernel_rfl) (fun _ _ _ h => h) (by rfl) (by assumption) ?_ ?_
                  rotate_left 1
                  · intro w hSw; (try dsimp only at hSw); go_simp <;> with_reducible rfl
                  simp only [List.foldl, Act.put, List.setIfInBounds_toArray, List.set_cons_zero, List.set_cons_succ]
                  refine wpAnyH_one (i := 4) (d := 69) (v := ?_) rfl rfl (by kernel_rfl) (by kernel_rfl) (by kernel_rfl) (fun _ _ _ h => h) (by rfl) (by assumption) ?_ ?_
                  rotate_left 1
                  · intro w hSw; (try dsimp only at hSw); go_simp <;> with_reducible rfl
                  simp only [List.foldl, Act.put, List.setIfInBounds_toArray, List.set_cons_zero, List.set_cons_succ]
                  refine wpAnyH_one (i := 5) (d := 70) (v := ?_) rfl rfl (by kernel_rfl) (by kernel_rfl) (by kernel_rfl) (fun _ _ _ h => h) (by rfl) (by assumption) ?_ ?_
                  rotate_left 1
                  · intro w hSw; (try dsimp only at hSw); go_simp <;> with_reducible rfl
                  simp only [List.foldl, Act.put, List.setIfInBounds_toArray, List.set_cons_zero, List.set_cons_succ]
                  refine wpAnyH_one (i := 6) (d := 71) (v := ?_) rfl rfl (by kernel_rfl) (by kernel_rfl) (by kernel_rfl) (fun _ _ _ h => h) (by rfl) (by assumption) ?_ ?_
                  rotate_left 1
                  · intro w hSw; (try dsimp only at hSw); go_simp <;> with_reducible rfl
                  simp only [List.foldl, Act.put, List.setIfInBounds_toArray, List.set_cons_zero, List.set_cons_succ]
                  refine wpAnyH_one (i := 7) (d := 72) (v := ?_) rfl rfl (by kernel_rfl) (by kernel_rfl) (by kernel_rfl) (fun _ _ _ h => h) (by rfl) (by assumption) ?_ ?_
                  rotate_left 1
                  · intro w hSw; (try dsimp only at hSw); go_simp <;> with_reducible rfl
                  simp only [List.foldl, Act.put, List.setIfInBounds_toArray, List.set_cons_zero, List.set_cons_succ]
                  refine wpAnyH_one (i := 8) (d := 73) (v := ?_) rfl rfl (by kernel_rfl) (by kernel_rfl) (by kernel_rfl) (fun _ _ _ h => h) (by rfl) (by assumption) ?_ ?_
                  rotate_left 1
                  · intro w hSw; (try dsimp only at hSw); go_simp <;> with_reducible rfl
                  simp only [List.foldl, Act.put, List.setIfInBounds_toArray, List.set_cons_zero, List.set_cons_succ]
                  refine wpAnyH_one (i := 9) (d := 74) (v := ?_) rfl rfl (by kernel_rfl) (by kernel_rfl) (by kernel_rfl) (fun _ _ _ h => h) (by rfl) (by assumption) ?_ ?_
                  rotate_left 1
                  · intro w hSw; (try dsimp only at hSw); go_simp <;> with_reducible rfl
                  simp only [List.foldl, Act.put, List.setIfInBounds_toArray, List.set_cons_zero, List.set_cons_succ]
                  refine wpAnyH_ready (rs := [10]) (by kernel_rfl) (by simp) ?_
                  refine AllReadyH.cons rfl (fun K hK => ?_) AllReadyH.nil
                  go_simp
                  refine (l4At_any s1 e1 tb.cols x 0 _ F9.out kc).mono ?_
                  rintro e w9 ⟨⟨r, rfl, hr⟩, rfl⟩
                  refine hK.out _ _ ?_ (fun hHeld => ?_)
                  · exact ⟨y1, y2, y0⟩
                  clear hK K
                  try simp only [List.foldl, Act.put, List.setIfInBounds_toArray, List.set_cons_zero, List.set_cons_succ]
                  refine wpAnyH_one (i := 11) (d := 76) (v := ?_) rfl rfl (by kernel_rfl) (by kernel_rfl) (by kernel_rfl) (fun _ _ _ h => h) (by rfl) (by assumption) ?_ ?_
                  rotate_left 1
                  · intro w hSw; (try dsimp only at hSw); go_simp <;> with_reducible rfl
                  simp only [List.foldl, Act.put, List.setIfInBounds_toArray, List.set_cons_zero, List.set_cons_succ]
                  refine wpAnyH_one (i := 12) (d := 9) (v := ?_) rfl rfl (by kernel_rfl) (by kernel_rfl) (by kernel_rfl) (fun _ _ _ h => h) (by rfl) (by assumption) ?_ ?_
                  rotate_left 1
                  · intro w hSw; (try dsimp only at hSw); go_simp <;> with_reducible rfl
                  simp only [List.foldl, Act.put, List.setIfInBounds_toArray, List.set_cons_zero, List.set_cons_succ]
                  refine wpAnyH_done (by kernel_rfl) ?_ _
                  have hrb : Hid (decide (r < 0) = (!decide (x ∈ tb.cols))) := by
                    show _ = _
                    rcases hr with ⟨rfl, h9⟩ | ⟨q, rfl, h9⟩
                    · simp [h9]
                    · have := List.mem_of_getElem? h9
                      simp [this]
                  obtain ⟨b9, hb9⟩ : ∃ b9, (!decide (x ∈ tb.cols)) = b9 := ⟨_, rfl⟩
                  rw [hb9] at hrb HX
                  have HX' : Hid (b9 = ((A.all (fun x => decide (x ∈ tb.cols))) && (C.take (m + 1)).all (fun x => !decide (x ∈ tb.cols)))) := HX.out.symm
                  have hrb' := hrb.out
                  clear hr hHeld hbq hb9 y0 y1 y2 F9 HX
                  go_wp2_with fail
                  go_roundw
                  case rel => exact ⟨m + 1, b9, by omega, by go_num, by rw [hrb.out], HX', HB2⟩
                  case measure => simp [intOf]; omega
              · have HQ : Hid (b = ((A.all (fun x => decide (x ∈ tb.cols))) && C.all (fun x => !decide (x ∈ tb.cols)))) := by
                  show b = _
                  rw [hbq.out, show m = C.length by omega, List.take_length]
                have HF : Hid (fitB tb A C = b) := by show _ = _; rw [HQ.out]; rfl
                have hO2 : Hid (ERow wr w.heap.size (.slice s9 R.length c9) R) := hO.out.later hb2.out
                have hb3 : Hid (Below w.heap.size w wr) := bl_trans hb.out hb2.out
                have hB3 : Hid (Blk wr w.heap.size #[.slice a1 V.gens.length c1, .slice a2 V.free.length c2, .slice (some ⟨p, o, none⟩) V.tabs.length c3, .slice a4 V.res.length c4] 49) := hB.out.later hb2.out
                cases b
                · have HS2 : Hid (R = mtL (V.tabs.take (k + 1)) A C) := by show R = _; rw [HS.out, HF.out]; simp
                  clear HS HF
                  go_wp2_with fail
                  go_roundw
                  case rel => exact ⟨k + 1, s9, c9, R, by omega, by go_num, rfl, HS2, hO2, hb3, hB3, hno⟩
                  case measure => simp [intOf]; omega
                · obtain ⟨R2, hR2⟩ : ∃ R2, Hid (R ++ tb.rows = R2) := ⟨_, (rfl : R ++ tb.rows = _)⟩
                  have HS2 : Hid (R2 = mtL (V.tabs.take (k + 1)) A C) := by show R2 = _; rw [HS.out, HF.out, ← hR2.out]; rfl
                  have y1 := (hb2.out.cell (p := ⟨w.heap.size, 2, none⟩) BB.out).trans X1.out
                  have y2 := (hb2.out.cell (p := ⟨p, o + k * 3 + 1, none⟩) PB.out).trans Z2.out
                  have F3 : Hid (Els 2 cEnt wr 0 s2 tb.rows) := F2.out.later cEnt_keeps hb2.out
                  have hgt := hB3.out.lt
                  clear HS HF
                  go_wp2_with (at_builtin; refine wpList_append_ents rfl _ _ rfl w.heap.size s9 c9 R rfl hO2.out 0 s2 e2 tb.rows rfl F3.out R2 hR2.out (by omega) hb3.out.size ?_; intro s' c' w4 hO4 hg4 hn4)
                  have hO4 : Hid (ERow w4 w.heap.size (.slice s' R2.length c') R2) := hO4
                  have hb4 : Hid (Below w.heap.size w w4) := grown_row hb3.out hO2.out hg4
                  have hB4 : Hid (Blk w4 w.heap.size #[.slice a1 V.gens.length c1, .slice a2 V.free.length c2, .slice (some ⟨p, o, none⟩) V.tabs.length c3, .slice a4 V.res.length c4] 49) := hB3.out.same' (hg4.block _ hgt (fun e => hno.out e.symm))
                  have hno4 : Hid (¬ (Value.slice s' R2.length c').ownBlock = some w.heap.size) := by
                    intro e
                    rcases hn4 _ e with h | h
                    · exact hno.out h
                    · omega
                  clear hg4 hn4 hO2 F3 y1 y2
                  go_wp2_with fail
                  go_roundw
                  case rel => exact ⟨k + 1, s', c', R2, by omega, by go_num, rfl, HS2, hO4, hb4, hB4, hno4⟩
                  case measure => simp [intOf]; omega
      · have hRR : R = mtW V.tabs A C := by rw [HR.out, hR.out, show k = V.tabs.length by omega, List.take_length]
        have HH : Hid (MtSays (mtW V.tabs A C) w.heap.size (.returned (.slice s9 R.length c9)) W5) := by
          rw [← hRR]; exact ⟨s9, c9, rfl, hO.out⟩
        clear hRR
        go_wp2_with fail
        go_ret
        exact ⟨HH.out, hb.out⟩
  · have HR : Hid (mtW V.tabs A C = []) := by show _ = _; unfold mtW; rw [if_neg g]
    by_cases q1 : (40 : Int) < (V.tabs.length : Int)
    · go_enter Try.func16, Try.ntmps16
      go_wp2_with fail
      go_ret
      exact ⟨by rw [HR.out]; exact ⟨_, 0, rfl, O0⟩, L0⟩
    · by_cases q2 : (12 : Int) < (A.length : Int)
      · go_enter Try.func16, Try.ntmps16
        go_wp2_with fail
        go_ret
        exact ⟨by rw [HR.out]; exact ⟨_, 0, rfl, O0⟩, L0⟩
      · have q3 : (12 : Int) < (C.length : Int) := by omega
        go_enter Try.func16, Try.ntmps16
        go_wp2_with fail
        go_ret
        exact ⟨by rw [HR.out]; exact ⟨_, 0, rfl, O0⟩, L0⟩
end Go.Proofs.Ytofpkbnocbmgkaa
