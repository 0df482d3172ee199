import Derived.Test.YtkkofminndboaaaGreatDoorSb23
import Derived.Test.YtkkofminndboaaaGreatDoorSb19
namespace Go
theorem Exit.jumps_ret {J : Nat → Act → World → Prop} {Q : Exit → Act → World → Prop} {a : Act} {w : World} : Exit.jumps J Q .ret a w = Q .ret a w := rfl
theorem Exit.jumps_goto {J : Nat → Act → World → Prop} {Q : Exit → Act → World → Prop} {l : Nat} {a : Act} {w : World} : Exit.jumps J Q (.goto l) a w = J l a w := rfl
/-- a scope that begins with a label, to which (and to others) the run jumps. -/
theorem wp_scope_at {P : Program} {a : Act} {w : World} {Q : Exit → Act → World → Prop} {y : Code} {l0 : Nat} (J : Nat → Act → World → Prop) (μ : Nat → Act → World → Nat) (h0 : J l0 a w)
    (body : ∀ a w, J l0 a w → y.wp P (Exit.jumps (fun l' a' w' => J l' a' w' ∧ μ l' a' w' < μ l0 a w) Q) a w)
    (pass : ∀ l a w, ¬ l = l0 → J l a w → ∃ rest, findLabel ((Code.label l0).seq y) l = some rest ∧ rest.wp P (Exit.jumps (fun l' a' w' => J l' a' w' ∧ μ l' a' w' < μ l a w) Q) a w) : (Code.scope ((Code.label l0).seq y)).wp P Q a w := by
  have weak : ∀ (n : Nat) e a w, Exit.jumps (fun l' a' w' => J l' a' w' ∧ μ l' a' w' < n) Q e a w → Exit.jumps J Q e a w := by
    intro n e a w h
    cases e <;> first | exact h.1 | exact h
  refine wp_scope_many J μ ?_ ?_
  · exact wp_seq (wp_label (wp_mono (body a w h0) (weak _)))
  · intro l a w h
    by_cases e : l = l0
    · subst e
      exact ⟨Code.seq Code.skip y, by simp [findLabel], wp_seq (wp_skip (body a w h))⟩
    · exact pass l a w e h
end Go
namespace Go.Proofs.YtkkofminndboaaaGreatDoor
set_option linter.unusedVariables false
set_option linter.unusedSimpArgs false
section
open Go.RowKit
def Scanned (W Y : World) (sb mb : Nat) (s : ByteArray) (r : Ending) : Prop :=
 ∃ (c : Int) (k : Nat) (s' : Option Addr) (c' : Nat) (L : List Tk), r = .returned (.int .i64 c) ∧ Sn W Y sb mb s k s' c' L ∧ L.length ≤ k ∧ k ≤ s.size ∧ ((c = 0 ∧ full s 0 [] = (0, 0, L)) ∨ (¬ c = 0 ∧ full s 0 [] = (c, (k : Int), [])))
def atL (s : ByteArray) (k l : Nat) : Prop :=
 l = 0 ∨ (k < s.size ∧ isBl (byA s k) = false ∧ ((l = 1 ∧ decide (byA s k = 35) = true) ∨ (l = 2 ∧ letB (byA s k) = true) ∨ (l = 3 ∧ dgB (byA s k) = true) ∨ (l = 4 ∧ decide (byA s k = 35) = false ∧ letB (byA s k) = false ∧ dgB (byA s k) = false ∧ isMk (byA s k) = true)))
def placeOf (sb : Nat) (w : World) : Nat := match w.cell? ⟨sb, 1, none⟩ with
 | some (.int _ n) => n.toNat
 | _ => 0
theorem Sn.place {W X : World} {sb mb : Nat} {s : ByteArray} {k : Nat} {s1 : Option Addr} {c1 : Nat} {L : List Tk} (h : Sn W X sb mb s k s1 c1 L) : placeOf sb X = k := by
 unfold placeOf; rw [h.k.four'.2.1]; simp
def Jn (W : World) (sb mb : Nat) (s : ByteArray) (l : Nat) (a : Act) (w : World) : Prop :=
 (∃ v1 v2 v3 v4 v5 v6 v7 v8 v9 v10 v11 v12 v13 v14 v15 v16 v17 v18 v19 v20 v21 v22 v23 v24 v25 v26 v27 v28 v29 v30 v31 v32 v33 v34 v35 v36 v37 v38 v39 v40 v41 v42 v43 v44 v45 v46, a = { tmps := #[.pointer (some ⟨sb, 0, none⟩), v1, v2, v3, v4, v5, v6, v7, v8, v9, v10, v11, v12, v13, v14, v15, v16, v17, v18, v19, v20, v21, v22, v23, v24, v25, v26, v27, v28, v29, v30, v31, v32, v33, v34, v35, v36, v37, v38, v39, v40, v41, v42, v43, v44, v45, v46], defers := [] }) ∧ ∃ k s1 c1 L, Sn W w sb mb s k s1 c1 L ∧ L.length ≤ k ∧ k ≤ s.size ∧ full s k L = full s 0 [] ∧ atL s k l
def mu (sb : Nat) (s : ByteArray) (l : Nat) (w : World) : Nat := 2 * (s.size - placeOf sb w) + (if l = 0 then 1 else 0)
theorem full_remark {s : ByteArray} {k : Nat} {L : List Tk} (hk : k < s.size) (h1 : isBl (byA s k) = false) (h2 : decide (byA s k = 35) = true) : full s k L = full s (runE inLn s k) L :=
 full_skip hk (by unfold stepF; rw [h1, h2]; rfl)
theorem runBl {s : ByteArray} {k : Nat} {L : List Tk} (hk : k ≤ s.size) : full s k L = full s (runE isBl s k) L := by
 have h := runE_ge isBl s k
 have := full_blanks (s := s) (L := L) (runE isBl s k - k) k (by omega)
 rw [this, show k + (runE isBl s k - k) = runE isBl s k by omega]
theorem step_end {W Y : World} {sb mb : Nat} {s : ByteArray} {k : Nat} {L : List Tk} (hk : k < s.size) (hL : L.length ≤ k) (hf : full s k L = full s 0 []) (h : Took W Y sb mb s k L) : ∃ s' c' j M, Sn W Y sb mb s j s' c' M ∧ M.length ≤ j ∧ j ≤ s.size ∧ full s j M = full s 0 [] ∧ k < j := by
 obtain ⟨s', c', t, j, h1, h2⟩ := h
 have h3 := stepF_gt hk (by rw [h1])
 rw [h1] at h3
 have h4 : k < j := h3
 exact ⟨s', c', j, L ++ [t], h2, by simp; omega, stepF_le hk h1, by rw [← full_tok hk h1]; exact hf, h4⟩
set_option maxRecDepth 100000 in
set_option maxHeartbeats 8000000 in
theorem scan_any (W X : World) (sb mb : Nat) (s : ByteArray) (hS : Sn W X sb mb s 0 none 0 []) (hs : s.size ≤ 4000) :
  Calls Tryz.prog 14 #[.pointer (some ⟨sb, 0, none⟩)] X fun r Y => Scanned W Y sb mb s r := by
 go_enter Tryz.func14, Tryz.ntmps14
 go_wp2_with fail; refine wp_scope_at (Jn W sb mb s) (fun l _ w => mu sb s l w) ⟨⟨_, _, _, _, _, _, _, _, _, _, _, _, _, _, _, _, _, _, _, _, _, _, _, _, _, _, _, _, _, _, _, _, _, _, _, _, _, _, _, _, _, _, _, _, _, _, rfl⟩, 0, none, 0, [], hS, by simp, by omega, rfl, Or.inl rfl⟩ ?_ ?_
 ·
  rintro a w ⟨⟨v1, v2, v3, v4, v5, v6, v7, v8, v9, v10, v11, v12, v13, v14, v15, v16, v17, v18, v19, v20, v21, v22, v23, v24, v25, v26, v27, v28, v29, v30, v31, v32, v33, v34, v35, v36, v37, v38, v39, v40, v41, v42, v43, v44, v45, v46, rfl⟩, k, s1, c1, L, HS, hL, hk, hf, -⟩
  have hmu : Hid (mu sb s 0 w = 2 * (s.size - k) + 1) := by show mu sb s 0 w = _; unfold mu; rw [HS.place]; rfl
  obtain ⟨x0, x1, x2, x3, x4⟩ := HS.k.four'
  obtain ⟨E, hE⟩ : ∃ E, Hid (runE isBl s k = E) := ⟨_, (rfl : runE isBl s k = _)⟩
  have hEk : k ≤ E := by rw [← hE.out]; exact runE_ge _ _ _
  have hEs : E ≤ s.size := by rw [← hE.out]; exact runE_le hk
  have hbl : Hid (E < s.size → isBl (byA s E) = false) := by intro h; rw [← hE.out] at h ⊢; exact runE_end h
  have hf : Hid (full s E L = full s 0 []) := by show _ = _; rw [← hf, runBl hk, hE.out]
  go_wp2_with fail; refine (behind_bl sb s _ _ _ k _ hk hs HS.k).mono ?_
  rintro e w1 ⟨rfl, hb1⟩
  rw [hE.out]
  have HS1 := HS.later hb1
  clear HS hb1 x0 x1 x2 x3 x4; obtain ⟨x0, x1, x2, x3, x4⟩ := HS1.k.four'
  have HS2 := HS1.to E
  go_wp2_with fail; generalize hGw : w1.setCell ⟨sb, 1, none⟩ (.int .i64 (E : Int)) = w2 at HS2 ⊢
  clear hGw HS1 x0 x1 x2 x3 x4; refine (letter_any sb s _ _ E hEs _ HS2.k).mono ?_
  rintro e w3 ⟨⟨c, rfl, hc⟩, hb3⟩
  have HS3 := HS2.later hb3
  clear HS2 hb3; rcases hc with ⟨h1, rfl⟩ | ⟨h1, n, rfl, h2, h3⟩
  ·
   go_wp2_with fail; rw [Exit.jumps_ret]
   simp +zetaDelta only [Exit.inBlock, Exit.then]
   go_ret; exact ⟨0, E, s1, c1, L, rfl, HS3, by omega, hEs, Or.inl ⟨rfl, by rw [← hf.out, full_end h1]⟩⟩
  obtain ⟨e35, eLet, eDig, hCR⟩ : Hid (((n : Int) == 35) = decide (byA s E = 35)) ∧ Hid (letB n = letB (byA s E)) ∧ Hid (dgB n = dgB (byA s E)) ∧ Hid (∀ w, Calls Tryz.prog 23 #[.string marksB, .int .i32 (n : Int)] w fun e w' => e = .returned (.bool (isMk (byA s E))) ∧ Below w.heap.size w w') := by
   by_cases h4 : byA s E < 128
   ·
    have e := h2 h4
    rw [e]
    refine ⟨?_, (rfl : letB (byA s E) = _), (rfl : dgB (byA s E) = _), fun w => (containsAscii _ h4 w).mono (by rintro e w' ⟨rfl, rfl⟩; exact ⟨rfl, Below.refl _ _⟩)⟩
    show _ = _
    rw [Bool.eq_iff_iff]; simp <;> omega
   obtain ⟨h5, h6⟩ := h3 (by omega)
   have e1 : isMk (byA s E) = false := by unfold isMk; simp; omega
   refine ⟨?_, ?_, ?_, fun w => ?_⟩
   ·
    show _ = _
    rw [Bool.eq_iff_iff]; simp <;> omega
   ·
    show _ = _
    rw [letB_high h5, letB_high (by omega)]
   ·
    show _ = _
    rw [dgB_high h5, dgB_high (by omega)]
   rw [e1]; exact containsHigh n h5 h6 w
  have hn1 : ((n : Int) == -1) = false := by simp
  have hmk : Hid (2 * (s.size - E) < mu sb s 0 w) := by show _ < _; rw [hmu.out]; omega
  have hmw : ∀ l, ¬ l = 0 → ∀ Y, Sn W Y sb mb s E s1 c1 L → mu sb s l Y = 2 * (s.size - E) := by intro l hl Y h; unfold mu; rw [h.place, if_neg hl]; rfl
  have HJ : Hid (∀ l vs Y, ¬ l = 0 → Sn W Y sb mb s E s1 c1 L → atL s E l → (∃ v1 v2 v3 v4 v5 v6 v7 v8 v9 v10 v11 v12 v13 v14 v15 v16 v17 v18 v19 v20 v21 v22 v23 v24 v25 v26 v27 v28 v29 v30 v31 v32 v33 v34 v35 v36 v37 v38 v39 v40 v41 v42 v43 v44 v45 v46, vs = #[Value.pointer (some ⟨sb, 0, none⟩), v1, v2, v3, v4, v5, v6, v7, v8, v9, v10, v11, v12, v13, v14, v15, v16, v17, v18, v19, v20, v21, v22, v23, v24, v25, v26, v27, v28, v29, v30, v31, v32, v33, v34, v35, v36, v37, v38, v39, v40, v41, v42, v43, v44, v45, v46]) → Jn W sb mb s l { tmps := vs, defers := [] } Y ∧ mu sb s l Y < mu sb s 0 w) := by
   rintro l vs Y hl hS hat ⟨v1, v2, v3, v4, v5, v6, v7, v8, v9, v10, v11, v12, v13, v14, v15, v16, v17, v18, v19, v20, v21, v22, v23, v24, v25, v26, v27, v28, v29, v30, v31, v32, v33, v34, v35, v36, v37, v38, v39, v40, v41, v42, v43, v44, v45, v46, rfl⟩
   exact ⟨⟨⟨_, _, _, _, _, _, _, _, _, _, _, _, _, _, _, _, _, _, _, _, _, _, _, _, _, _, _, _, _, _, _, _, _, _, _, _, _, _, _, _, _, _, _, _, _, _, rfl⟩, E, s1, c1, L, hS, by omega, hEs, hf.out, hat⟩, by rw [hmw l hl Y hS]; exact hmk.out⟩
  have hb := hbl.out h1
  have HB : Hid (isBl (byA s E) = false) := hb
  clear h2 h3 hmw hmu hmk hb hbl; cases q1 : decide (byA s E = 35)
  ·
   rw [q1] at e35
   have e35' := e35.out
   go_wp2_with fail; refine (isLetter_any n _).mono ?_
   rintro e w4 ⟨rfl, rfl⟩
   rw [eLet.out]
   cases q2 : letB (byA s E)
   ·
    go_wp2_with fail; refine (isDigit_any n _).mono ?_
    rintro e w4 ⟨rfl, rfl⟩
    rw [eDig.out]
    cases q3 : dgB (byA s E)
    ·
     go_wp2_with fail; refine (hCR.out _).mono ?_
     rintro e w5 ⟨rfl, hb5⟩
     have HS5 := HS3.later hb5
     clear HS3 hb5; cases q4 : isMk (byA s E)
     ·
      go_wp2_with fail; rw [Exit.jumps_ret]
      simp +zetaDelta only [Exit.inBlock, Exit.then]
      go_ret; refine ⟨2, E, s1, c1, L, rfl, HS5, by omega, hEs, Or.inr ⟨by omega, ?_⟩⟩
      rw [← hf.out]
      refine full_bad (o := none) (j := 0) h1 ?_ (by omega)
      unfold stepF
      rw [HB.out, q1, q2, q3, q4]
      have e61 : decide (byA s E = 61) = false := by
       rw [decide_eq_false_iff_not]
       intro h; rw [h] at q4; exact absurd q4 (by decide)
      rw [e61]
      rfl
     go_wp2_with fail; exact wp_goto (HJ.out 4 _ _ (by omega) HS5 (Or.inr ⟨h1, HB.out, Or.inr (Or.inr (Or.inr ⟨rfl, q1, q2, q3, q4⟩))⟩) ⟨_, _, _, _, _, _, _, _, _, _, _, _, _, _, _, _, _, _, _, _, _, _, _, _, _, _, _, _, _, _, _, _, _, _, _, _, _, _, _, _, _, _, _, _, _, _, rfl⟩)
    go_wp2_with fail; exact wp_goto (HJ.out 3 _ _ (by omega) HS3 (Or.inr ⟨h1, HB.out, Or.inr (Or.inr (Or.inl ⟨rfl, q3⟩))⟩) ⟨_, _, _, _, _, _, _, _, _, _, _, _, _, _, _, _, _, _, _, _, _, _, _, _, _, _, _, _, _, _, _, _, _, _, _, _, _, _, _, _, _, _, _, _, _, _, rfl⟩)
   go_wp2_with fail; exact wp_goto (HJ.out 2 _ _ (by omega) HS3 (Or.inr ⟨h1, HB.out, Or.inr (Or.inl ⟨rfl, q2⟩)⟩) ⟨_, _, _, _, _, _, _, _, _, _, _, _, _, _, _, _, _, _, _, _, _, _, _, _, _, _, _, _, _, _, _, _, _, _, _, _, _, _, _, _, _, _, _, _, _, _, rfl⟩)
  rw [q1] at e35
  have e35' := e35.out
  go_wp2_with fail; exact wp_goto (HJ.out 1 _ _ (by omega) HS3 (Or.inr ⟨h1, HB.out, Or.inl ⟨rfl, q1⟩⟩) ⟨_, _, _, _, _, _, _, _, _, _, _, _, _, _, _, _, _, _, _, _, _, _, _, _, _, _, _, _, _, _, _, _, _, _, _, _, _, _, _, _, _, _, _, _, _, _, rfl⟩)
 rintro l a w hl ⟨⟨v1, v2, v3, v4, v5, v6, v7, v8, v9, v10, v11, v12, v13, v14, v15, v16, v17, v18, v19, v20, v21, v22, v23, v24, v25, v26, v27, v28, v29, v30, v31, v32, v33, v34, v35, v36, v37, v38, v39, v40, v41, v42, v43, v44, v45, v46, rfl⟩, k, s1, c1, L, HS, hL, hk, hf, hat⟩
 have HF : Hid (full s k L = full s 0 []) := hf
 rcases hat with h | ⟨hlt, hbl, ⟨rfl, q⟩ | ⟨rfl, q⟩ | ⟨rfl, q⟩ | ⟨rfl, q1, q2, q3, q4⟩⟩
 ·
  exact absurd h hl
 ·
  refine ⟨_, rfl, ?_⟩
  have hmu : Hid (mu sb s 1 w = 2 * (s.size - k)) := by show mu sb s 1 w = _; unfold mu; rw [HS.place]; rfl
  obtain ⟨E, hE⟩ : ∃ E, Hid (runE inLn s k = E) := ⟨_, (rfl : runE inLn s k = _)⟩
  have hEk : k < E := by rw [← hE.out]; exact runE_gt hlt (by simp only [decide_eq_true_eq] at q; rw [q]; rfl)
  have hEs : E ≤ s.size := by rw [← hE.out]; exact runE_le hk
  have HF2 : Hid (full s E L = full s 0 []) := by show _ = _; rw [← hf, full_remark hlt hbl q, hE.out]
  clear hf HF hbl q hl; obtain ⟨x0, x1, x2, x3, x4⟩ := HS.k.four'
  go_wp2_with fail; refine (behind_line sb s _ _ _ k _ hk hs HS.k).mono ?_
  rintro e w1 ⟨rfl, hb1⟩
  rw [hE.out]
  have HS1 := HS.later hb1
  clear HS hb1 x0 x1 x2 x3 x4; obtain ⟨x0, x1, x2, x3, x4⟩ := HS1.k.four'
  have HS2 := HS1.to E
  go_wp2_with fail; refine wp_goto ⟨⟨⟨_, _, _, _, _, _, _, _, _, _, _, _, _, _, _, _, _, _, _, _, _, _, _, _, _, _, _, _, _, _, _, _, _, _, _, _, _, _, _, _, _, _, _, _, _, _, rfl⟩, E, s1, c1, L, HS2, by omega, hEs, HF2.out, Or.inl rfl⟩, ?_⟩
  show mu sb s 0 _ < mu sb s 1 w
  rw [hmu.out]
  unfold mu
  rw [HS2.place]
  simp; omega
 ·
  refine ⟨_, rfl, ?_⟩
  have hmu : Hid (mu sb s 2 w = 2 * (s.size - k)) := by show mu sb s 2 w = _; unfold mu; rw [HS.place]; rfl
  clear hf hl hbl; go_wp2_with fail; refine (takeName_any W _ sb mb s k s1 c1 L HS hlt hs (by omega) q).mono ?_
  rintro e w1 (⟨rfl, hT⟩ | ⟨rfl, hst, HS2⟩)
  ·
   obtain ⟨s', c', j, M, HS2, hM, hj, hf2, hkj⟩ := step_end hlt hL HF.out hT
   go_wp2_with fail; refine wp_goto ⟨⟨⟨_, _, _, _, _, _, _, _, _, _, _, _, _, _, _, _, _, _, _, _, _, _, _, _, _, _, _, _, _, _, _, _, _, _, _, _, _, _, _, _, _, _, _, _, _, _, rfl⟩, j, s', c', M, HS2, hM, hj, hf2, Or.inl rfl⟩, ?_⟩
   show mu sb s 0 _ < mu sb s 2 w
   rw [hmu.out]
   unfold mu
   rw [HS2.place]
   simp; omega
  have HST : Hid (stepF s k = (4, none, 0)) := hst
  clear hst; go_wp2_with fail; rw [Exit.jumps_ret]
  simp +zetaDelta only [Exit.inBlock, Exit.then]
  go_ret; refine ⟨4, k, s1, c1, L, rfl, HS2, hL, hk, Or.inr ⟨by omega, ?_⟩⟩
  rw [← HF.out]
  exact full_bad hlt HST.out (by omega)
 ·
  refine ⟨_, rfl, ?_⟩
  have hmu : Hid (mu sb s 3 w = 2 * (s.size - k)) := by show mu sb s 3 w = _; unfold mu; rw [HS.place]; rfl
  clear hf hl hbl; go_wp2_with fail; refine (takeNumber_any W _ sb mb s k s1 c1 L HS hlt hs (by omega) q).mono ?_
  rintro e w1 (⟨rfl, hT⟩ | ⟨rfl, hst, HS2⟩)
  ·
   obtain ⟨s', c', j, M, HS2, hM, hj, hf2, hkj⟩ := step_end hlt hL HF.out hT
   go_wp2_with fail; refine wp_goto ⟨⟨⟨_, _, _, _, _, _, _, _, _, _, _, _, _, _, _, _, _, _, _, _, _, _, _, _, _, _, _, _, _, _, _, _, _, _, _, _, _, _, _, _, _, _, _, _, _, _, rfl⟩, j, s', c', M, HS2, hM, hj, hf2, Or.inl rfl⟩, ?_⟩
   show mu sb s 0 _ < mu sb s 3 w
   rw [hmu.out]
   unfold mu
   rw [HS2.place]
   simp; omega
  have HST : Hid (stepF s k = (3, none, 0)) := hst
  clear hst; go_wp2_with fail; rw [Exit.jumps_ret]
  simp +zetaDelta only [Exit.inBlock, Exit.then]
  go_ret; refine ⟨3, k, s1, c1, L, rfl, HS2, hL, hk, Or.inr ⟨by omega, ?_⟩⟩
  rw [← HF.out]
  exact full_bad hlt HST.out (by omega)
 refine ⟨_, rfl, ?_⟩
 have hmu : Hid (mu sb s 4 w = 2 * (s.size - k)) := by show mu sb s 4 w = _; unfold mu; rw [HS.place]; rfl
 clear hf hl; go_wp2_with fail; refine (takeMark_any W _ sb mb s k s1 c1 L HS hlt hs (by omega) hbl q1 q2 q3 q4).mono ?_
 rintro e w1 ⟨rfl, hT⟩
 obtain ⟨s', c', j, M, HS2, hM, hj, hf2, hkj⟩ := step_end hlt hL HF.out hT
 go_wp2_with fail; refine wp_goto ⟨⟨⟨_, _, _, _, _, _, _, _, _, _, _, _, _, _, _, _, _, _, _, _, _, _, _, _, _, _, _, _, _, _, _, _, _, _, _, _, _, _, _, _, _, _, _, _, _, _, rfl⟩, j, s', c', M, HS2, hM, hj, hf2, Or.inl rfl⟩, ?_⟩
 show mu sb s 0 _ < mu sb s 4 w
 rw [hmu.out]
 unfold mu
 rw [HS2.place]
 simp; omega
theorem lexAll_long {s : ByteArray} (h : 4000 < s.size) : lexAll s = (1, 0, []) := by unfold lexAll; rw [if_pos h]
theorem lexAll_short {s : ByteArray} (h : ¬ 4000 < s.size) : lexAll s = full s 0 [] := by unfold lexAll; rw [if_neg h]
set_option maxRecDepth 100000 in
set_option maxHeartbeats 4000000 in
theorem implLex_any (s : ByteArray) (w : World) :
  Calls Tryz.prog 8 #[.string s] w fun e w' => LexSays s w.heap.size e w' ∧ Below w.heap.size w w' := by
 by_cases hbig : (4000 : Int) < (s.size : Int)
 ·
  have LA := lexAll_long (s := s) (by omega)
  go_enter Tryz.func8, Tryz.ntmps8
  go_wp2_with fail; go_ret3
  exact ⟨⟨none, 0, 1, 0, [], rfl, LA, OT.nil _ _, by simp⟩, Below.refl _ _⟩
 have hs : s.size ≤ 4000 := by omega
 have LA : Hid (lexAll s = full s 0 []) := lexAll_short (by omega)
 go_enter Tryz.func8, Tryz.ntmps8
 go_wp2_with fail; refine (wordSet_any _).mono ?_
 rintro e w1 ⟨rfl, hown, hb⟩
 have hlt := hown.lt
 have k0 := Blk.new w1 #[.string s, .int .i64 0, .slice none 0 0, .map (some w.heap.size)] 48
 have HS : Sn w (w1.alloc (.cells #[.string s, .int .i64 0, .slice none 0 0, .map (some w.heap.size)] 48)) w1.heap.size w.heap.size s 0 none 0 [] :=
  ⟨bl_alloc hb _, hb.size, Nat.le_refl _, hlt, k0, OT.nil _ _, hown.alloc _⟩
 clear k0 hown hb hlt; go_wp2_with fail; generalize hGx : w1.alloc (.cells #[.string s, .int .i64 0, .slice none 0 0, .map (some w.heap.size)] 48) = X at HS ⊢
 generalize hGs : w1.heap.size = sb at HS ⊢
 clear hGx hGs; refine (scan_any w X sb w.heap.size s HS hs).mono ?_
 rintro e w2 ⟨c, k, s', c', L, rfl, HS2, hL, hk, hr⟩
 obtain ⟨x0, x1, x2, x3, x4⟩ := HS2.k.four'
 have HR : Hid ((c = 0 ∧ full s 0 [] = (0, 0, L)) ∨ (¬ c = 0 ∧ full s 0 [] = (c, (k : Int), []))) := hr
 have hsw := HS2.sw
 clear HS hr; by_cases hc : c = 0
 ·
  subst hc
  go_wp2_with fail; go_ret3
  rcases HR.out with ⟨_, h⟩ | ⟨h, _⟩
  ·
   exact ⟨⟨s', c', 0, 0, L, rfl, LA.out.trans h, HS2.o.mono (by omega), by omega⟩, HS2.be⟩
  exact (h trivial).elim
 have hc' : (c != 0) = true := by simp [hc]
 go_wp2_with fail; go_quiet (fail)
 go_wp2_with fail; go_ret3
 rcases HR.out with ⟨h, _⟩ | ⟨_, h⟩
 ·
  exact absurd h hc
 exact ⟨⟨none, 0, c, k, [], rfl, LA.out.trans h, OT.nil _ _, by simp⟩, bl_drewN HS2.be _⟩
end
section
open Go.RowKit
set_option maxRecDepth 100000
def gT (t : Tk) : Prop := (1 ≤ t.1 ∧ t.1 ≤ 5) ∧ (t.1 = 1 → isW t.2.2.1 = false ∧ letB (byA t.2.2.1 0) = true) ∧ (t.1 = 3 ∨ t.1 = 4 → dgB (byA t.2.2.1 0) = true)
theorem endF_gT {s : ByteArray} {k e : Nat} {pt : Bool} (hk : k < e) (he : e ≤ s.size) (hd : dgB (byA s k) = true) : ∀ t, (endF s k e pt).2.1 = some t → gT t := by
 intro t
 have hb : byA (s.extract k e) 0 = byA s k := by rw [byA_extract (by omega) he]; rfl
 unfold endF
 repeat' split
 all_goals intro h
 all_goals (try cases h)
 all_goals exact ⟨by simp, fun q => absurd q (by simp), fun _ => by rw [hb]; exact hd⟩
theorem stepF_gT {s : ByteArray} {k : Nat} (hk : k < s.size) : ∀ t, (stepF s k).2.1 = some t → gT t := by
 intro t
 unfold stepF
 split
 ·
  intro h; cases h
 split
 ·
  intro h; cases h
 split
 ·
  rename_i h1 h2 h3
  have hg := runE_gt hk h3
  have hb : byA (s.extract k (runE letB s k)) 0 = byA s k := by rw [byA_extract (by omega) (runE_le (Nat.le_of_lt hk))]; rfl
  split
  ·
   intro h; cases h; exact ⟨by simp, fun q => absurd q (by simp), fun q => absurd q (by simp)⟩
  rename_i h4
  split
  ·
   intro h; cases h
  intro h; cases h
  exact ⟨by simp, fun _ => ⟨by simpa using h4, by rw [hb]; exact h3⟩, fun q => absurd q (by simp)⟩
 split
 ·
  rename_i h1 h2 h3 h4
  have hg := runE_gt hk h4
  unfold numF
  split
  ·
   have h5 := runE_ge dgB s (runE dgB s k + 1)
   rename_i hp
   have hp2 : runE dgB s k + 1 < s.size := by
    unfold ptB at hp
    simp only [Bool.and_eq_true, decide_eq_true_eq] at hp
    exact hp.1.1
   exact endF_gT (by omega) (runE_le (by omega)) h4 t
  exact endF_gT hg (runE_le (Nat.le_of_lt hk)) h4 t
 split
 ·
  intro h; cases h; exact ⟨by simp, fun q => absurd q (by simp), fun q => absurd q (by simp)⟩
 split
 ·
  intro h; cases h; exact ⟨by simp, fun q => absurd q (by simp), fun q => absurd q (by simp)⟩
 intro h; cases h
theorem lexF_gT (s : ByteArray) : ∀ (n k : Nat) (L : List Tk), (∀ t ∈ L, gT t) → ∀ t ∈ (lexF s n k L).2.2, gT t := by
 intro n
 induction n with
 | zero => intro k L _ t ht; simp [lexF] at ht
 | succ n ih =>
  intro k L hL
  unfold lexF
  split
  ·
   rename_i hk
   split
   ·
    refine ih _ _ fun t ht => ?_
    rcases List.mem_append.1 ht with h | h
    ·
     exact hL t h
    exact stepF_gT hk t (by simpa using h)
   intro t ht; simp at ht
  exact hL
theorem lexAll_gT (s : ByteArray) : ∀ t ∈ (lexAll s).2.2, gT t := by
 unfold lexAll
 split
 ·
  intro t ht; simp at ht
 exact lexF_gT s _ 0 [] (by simp)
theorem gT_NW {T : List Tk} (h : ∀ t ∈ T, gT t) : NW T := by
 intro j b hb he hk
 have hlt : j < T.length := kd_lt hk (by decide)
 obtain ⟨t, ht⟩ := get_some hlt
 have h1 := h t (List.mem_of_getElem? ht)
 have e1 : kd T j = t.1 := by unfold kd; rw [ht]; rfl
 have e2 : tx T j = t.2.2.1 := by unfold tx; rw [ht]; rfl
 obtain ⟨q1, q2⟩ := h1.2.1 (by rw [← e1]; exact hk)
 rw [← e2, he] at q1 q2
 simp only [List.mem_cons, List.not_mem_nil, or_false] at hb
 rcases hb with rfl | rfl | rfl | rfl | rfl | rfl | rfl | rfl | rfl | rfl | rfl | rfl | rfl | rfl
 all_goals first | (revert q1; decide) | (revert q2; decide)
theorem gT_z {T : List Tk} (h : ∀ t ∈ T, gT t) : ∀ i, i < T.length → ¬ kd T i = 0 := by
 intro i hi hk
 obtain ⟨t, ht⟩ := get_some hi
 have h1 := (h t (List.mem_of_getElem? ht)).1
 have e1 : kd T i = t.1 := by unfold kd; rw [ht]; rfl
 omega
end
end Go.Proofs.YtkkofminndboaaaGreatDoor
