import Derived.Test.YtkbgklnkagpchaaN2
namespace Go.Proofs.Ytkbgklnkagpchaa
open Go.RowKit
set_option linter.unusedVariables false
set_option linter.unusedSimpArgs false

/-! who runs, in logic -/
/-- .. behind a move. -/
def rb (L : List Int) (k t : Int) : List Int := if k = 2 then L.filter (fun x => decide (x < t)) ++ t :: L.filter (fun x => decide (t < x)) else if k = 1 then L.filter (fun x => decide (x ≠ t)) else L
theorem mem_rb {L : List Int} {k t x : Int} : x ∈ rb L k t ↔ if k = 2 then x = t ∨ x ∈ L else if k = 1 then x ∈ L ∧ x ≠ t else x ∈ L := by
  unfold rb
  by_cases h2 : k = 2
  · simp only [h2, if_true, List.mem_append, List.mem_filter, List.mem_cons, decide_eq_true_eq]
    constructor
    · rintro (h | h | h)
      · exact Or.inr h.1
      · exact Or.inl h
      · exact Or.inr h.1
    · rintro (h | h)
      · exact Or.inr (Or.inl h)
      · rcases Int.lt_trichotomy x t with g | g | g
        · exact Or.inl ⟨h, g⟩
        · exact Or.inr (Or.inl g)
        · exact Or.inr (Or.inr ⟨h, g⟩)
  · by_cases h1 : k = 1
    · simp [h1]
    · simp [h1, h2]
theorem rb_asc {L : List Int} (h : Asc L) (k t : Int) : Asc (rb L k t) := by
  unfold rb
  split
  · refine List.pairwise_append.2 ⟨h.filter _, List.pairwise_cons.2 ⟨fun b hb => ?_, h.filter _⟩, fun a ha b hb => ?_⟩
    · simpa using (List.mem_filter.1 hb).2
    · have ha := (List.mem_filter.1 ha).2
      simp at ha
      rcases List.mem_cons.1 hb with rfl | hb
      · exact ha
      · have hb := (List.mem_filter.1 hb).2
        simp at hb
        omega
  · split
    · exact h.filter _
    · exact h
theorem two_len (t : Int) : ∀ L : List Int, (L.filter (fun x => decide (x < t))).length + (L.filter (fun x => decide (t < x))).length ≤ L.length
  | [] => by simp
  | a :: L => by
    have := two_len t L
    simp only [List.filter_cons, List.length_cons]
    by_cases h1 : a < t
    · have h2 : ¬ t < a := by omega
      simp only [h1, h2, decide_true, decide_false, if_true, List.length_cons]
      simp
      omega
    · by_cases h2 : t < a
      · simp only [h1, h2, decide_true, decide_false, if_true, List.length_cons]
        simp
        omega
      · simp only [h1, h2, decide_false]
        simp
        omega
theorem rb_len (L : List Int) (k t : Int) : (rb L k t).length ≤ L.length + 1 := by
  unfold rb
  split
  · have := two_len t L
    simp only [List.length_append, List.length_cons]
    omega
  · split
    · have := List.length_filter_le (fun x => decide (x ≠ t)) L
      omega
    · omega
theorem fnd_not {L : List Int} {t : Int} {i : Nat} (hA : Asc L) (hF : Fnd L t i) (hn : ¬ L[i]? = some t) : ¬ t ∈ L := by
  intro hm
  obtain ⟨q, hq⟩ := List.getElem?_of_mem hm
  rcases Nat.lt_trichotomy q i with g | g | g
  · have := hF.2.1 q t g hq; omega
  · subst g; exact hn hq
  · have hql := (List.getElem?_eq_some_iff.1 hq).1
    have hi : L[i]? = some L[i] := by simp
    have h1 := hF.2.2 i L[i] (Nat.le_refl _) hi
    have h2 : L[i] < L[q] := List.pairwise_iff_getElem.1 hA i q (by omega) hql g
    have h3 : L[q] = t := (List.getElem?_eq_some_iff.1 hq).2
    omega
theorem mem_cut {L : List Int} (i : Nat) (x : Int) : x ∈ L ↔ x ∈ L.take i ∨ x ∈ L.drop i := by
  rw [← List.mem_append, List.take_append_drop]
theorem rb_ins {L : List Int} {t : Int} {i : Nat} (hA : Asc L) (hF : Fnd L t i) (hn : ¬ L[i]? = some t) : L.take i ++ t :: L.drop i = rb L 2 t := by
  have ht := fnd_not hA hF hn
  have h1 : ∀ a ∈ L.take i, a < t := fun a ha => by
    obtain ⟨q, hq⟩ := List.getElem?_of_mem ha
    rw [List.getElem?_take] at hq
    split at hq
    · next h => exact hF.2.1 q a h hq
    · cases hq
  have h2 : ∀ b ∈ L.drop i, t < b := fun b hb => by
    have hb' := hb
    obtain ⟨q, hq⟩ := List.getElem?_of_mem hb
    rw [List.getElem?_drop] at hq
    have := hF.2.2 (i + q) b (by omega) hq
    have : ¬ t = b := fun e => ht (by rw [e]; exact List.mem_of_mem_drop hb')
    omega
  refine asc_unique ?_ (rb_asc hA 2 t) fun x => ?_
  · refine List.pairwise_append.2 ⟨List.Pairwise.sublist (List.take_sublist _ _) hA, List.pairwise_cons.2 ⟨h2, List.Pairwise.sublist (List.drop_sublist _ _) hA⟩, fun a ha b hb => ?_⟩
    have := h1 a ha
    rcases List.mem_cons.1 hb with rfl | hb
    · exact this
    · have := h2 b hb; omega
  · rw [mem_rb, if_pos rfl, mem_cut (L := L) i x, List.mem_append, List.mem_cons]
    constructor
    · rintro (h | h | h)
      · exact Or.inr (Or.inl h)
      · exact Or.inl h
      · exact Or.inr (Or.inr h)
    · rintro (h | h | h)
      · exact Or.inr (Or.inl h)
      · exact Or.inl h
      · exact Or.inr (Or.inr h)
theorem rb_has {L : List Int} {t : Int} {i : Nat} (hA : Asc L) (h : L[i]? = some t) : rb L 2 t = L := by
  refine asc_unique (rb_asc hA 2 t) hA fun x => ?_
  rw [mem_rb, if_pos rfl]
  have := List.mem_of_getElem? h
  constructor
  · rintro (rfl | h)
    · exact this
    · exact h
  · exact Or.inr
theorem rb_del {L : List Int} {t : Int} {i : Nat} (hA : Asc L) (h : L[i]? = some t) : L.take i ++ L.drop (i + 1) = rb L 1 t := by
  have hil := (List.getElem?_eq_some_iff.1 h).1
  have he : L.take i ++ L.drop (i + 1) = L.eraseIdx i := (List.eraseIdx_eq_take_drop_succ L i).symm
  have hsub : (L.take i ++ L.drop (i + 1)).Sublist L := by rw [he]; exact List.eraseIdx_sublist L i
  refine asc_unique (List.Pairwise.sublist hsub hA) (rb_asc hA 1 t) fun x => ?_
  rw [mem_rb, if_neg (by decide), if_pos rfl]
  constructor
  · intro hx
    refine ⟨hsub.subset hx, fun e => ?_⟩
    subst e
    rw [he] at hx
    obtain ⟨j, hj, hjx⟩ := List.mem_eraseIdx_iff_getElem?.1 hx
    have hjl := (List.getElem?_eq_some_iff.1 hjx).1
    have e1 : L[j] = x := (List.getElem?_eq_some_iff.1 hjx).2
    have e2 : L[i] = x := (List.getElem?_eq_some_iff.1 h).2
    rcases Nat.lt_or_gt_of_ne hj with g | g
    · have := List.pairwise_iff_getElem.1 hA j i hjl hil g; omega
    · have := List.pairwise_iff_getElem.1 hA i j hil hjl g; omega
  · rintro ⟨hx, hn⟩
    rw [he]
    obtain ⟨j, hj⟩ := List.getElem?_of_mem hx
    refine List.mem_eraseIdx_iff_getElem?.2 ⟨j, fun e => ?_, hj⟩
    subst e
    rw [h] at hj
    exact hn (Option.some.inj hj).symm
theorem rb_non {L : List Int} {t : Int} (hA : Asc L) (h : ¬ t ∈ L) : rb L 1 t = L := by
  refine asc_unique (rb_asc hA 1 t) hA fun x => ?_
  rw [mem_rb, if_neg (by decide), if_pos rfl]
  exact ⟨fun g => g.1, fun g => ⟨g, fun e => h (e ▸ g)⟩⟩
theorem rb_else {L : List Int} {k t : Int} (h1 : ¬ k = 1) (h2 : ¬ k = 2) : rb L k t = L := by unfold rb; rw [if_neg h2, if_neg h1]
theorem asc_mono {L : List Int} (hA : Asc L) : ∀ (p q : Nat) a b, p ≤ q → L[p]? = some a → L[q]? = some b → a ≤ b := by
  intro p q a b hpq ha hb
  obtain ⟨ha1, ha2⟩ := List.getElem?_eq_some_iff.1 ha
  obtain ⟨hb1, hb2⟩ := List.getElem?_eq_some_iff.1 hb
  by_cases e : p = q
  · subst e; omega
  · have := List.pairwise_iff_getElem.1 hA p q ha1 hb1 (by omega)
    omega

set_option maxHeartbeats 4000000 in
theorem runningBehind_any (s : Option Addr) (c B : Nat) (L : List Int) (w W : World) (h : OI w B (.slice s L.length c) L) (hb : Below B W w) (hB : B ≤ w.heap.size) (hA : Asc L) (hl : L.length ≤ 1000000) (k t : Int) :
    Calls Try.prog 19 #[.slice s L.length c, .agg #[.int .i64 k, .int .i64 t]] w fun e w' => (∃ s' c', e = .returned (.slice s' (rb L k t).length c') ∧ OI w' B (.slice s' (rb L k t).length c') (rb L k t)) ∧ Below B W w' ∧ B ≤ w'.heap.size := by
  have hk := Blk.new w #[.int .i64 k, .int .i64 t] 35
  have h1 := h.later (bl_alloc (Below.refl _ w) (.cells #[.int .i64 k, .int .i64 t] 35))
  have hb1 := hb.alloc hB (.cells #[.int .i64 k, .int .i64 t] 35)
  have hB1 : B ≤ (w.alloc (.cells #[.int .i64 k, .int .i64 t] 35)).heap.size := by simp; omega
  obtain ⟨X, hX⟩ : ∃ X, w.alloc (.cells #[.int .i64 k, .int .i64 t] 35) = X := ⟨_, rfl⟩
  rw [hX] at hk h1 hb1 hB1
  have c0 := hk.cell 0
  have c1 := hk.cell 1
  have f0 := hk.frozen 0
  have f1 := hk.frozen 1
  simp at c0 c1
  have HX : Hid (w.alloc (.cells #[.int .i64 k, .int .i64 t] 35) = X) := hX
  have H1 : Hid (OI X B (.slice s L.length c) L) := h1
  have HB1 : Hid (Below B W X) := hb1
  have HA : Hid (Asc L) := hA
  have hsg : Hid (∀ g, s = some ⟨g, 0, none⟩ → g < X.heap.size) := fun g e => (h1.lt g (by rw [e]; rfl)).2
  clear h1 hb1 h hb hk hX hA
  go_enter Try.func19, Try.ntmps19
  go_wp2_with fail
  rw [HX.out]
  refine (binSearch_any s c L t B X H1.out.els (by omega) (asc_mono HA.out)).mono ?_
  rintro e w' ⟨⟨i, rfl, hF⟩, rfl⟩
  have HF : Hid (Fnd L t i) := hF
  have hil : i ≤ L.length := hF.1
  clear hF
  by_cases hr : L[i]? = some t
  · have tr : decide (L[i]? = some t) = true := by simp [hr]
    rw [tr]
    have HR : Hid (L[i]? = some t) := hr
    have hil' : i < L.length := (List.getElem?_eq_some_iff.1 hr).1
    clear tr hr
    by_cases k1 : k = 1
    · subst k1
      have eD : Hid (L.take i ++ L.drop (i + 1) = rb L 1 t) := rb_del HA.out HR.out
      go_wp2_with fail
      refine (delete_own s c B L w' W H1.out HB1.out hB1 i (i + 1) hil' rfl).mono ?_
      rintro e w2 ⟨⟨s', c', rfl, hO⟩, hb2, hB2⟩
      rw [eD.out] at hO ⊢
      go_wp2_with fail
      go_ret
      exact ⟨⟨s', c', rfl, hO⟩, hb2, hB2⟩
    · have eN : Hid (rb L k t = L) := by
        by_cases k2 : k = 2
        · rw [k2]; exact rb_has HA.out HR.out
        · exact rb_else k1 k2
      have t1 : (k == 1) = false := by simp [k1]
      by_cases k2 : k = 2
      · subst k2
        go_wp2_with fail
        go_ret
        rw [eN.out]
        exact ⟨⟨s, c, rfl, H1.out⟩, HB1.out, hB1⟩
      · have t2 : (k == 2) = false := by simp [k2]
        go_wp2_with fail
        go_ret
        rw [eN.out]
        exact ⟨⟨s, c, rfl, H1.out⟩, HB1.out, hB1⟩
  · have tr : decide (L[i]? = some t) = false := by simp [hr]
    rw [tr]
    have HR : Hid (¬ L[i]? = some t) := hr
    clear tr hr
    by_cases k2 : k = 2
    · subst k2
      have eI : Hid (L.take i ++ t :: L.drop i = rb L 2 t) := rb_ins HA.out HF.out HR.out
      go_wp2_with fail
      have kv := Blk.new w' #[.int .i64 t] 3
      refine (insert_own s c B L (w'.alloc (.cells #[.int .i64 t] 3)) W (H1.out.later (bl_alloc (Below.refl _ w') _)) (HB1.out.alloc hB1 _) (by simp; omega) i hil (by omega) t w'.heap.size kv (fun g e => by have := hsg.out g e; omega)).mono ?_
      rintro e w2 ⟨⟨s', c', rfl, hO⟩, hb2, hB2⟩
      rw [eI.out] at hO ⊢
      go_wp2_with fail
      go_ret
      exact ⟨⟨s', c', rfl, hO⟩, hb2, hB2⟩
    · have eN : Hid (rb L k t = L) := by
        by_cases k1 : k = 1
        · rw [k1]; exact rb_non HA.out (fnd_not HA.out HF.out HR.out)
        · exact rb_else k1 k2
      have t2 : (k == 2) = false := by simp [k2]
      by_cases k1 : k = 1
      · subst k1
        go_wp2_with fail
        go_ret
        rw [eN.out]
        exact ⟨⟨s, c, rfl, H1.out⟩, HB1.out, hB1⟩
      · have t1 : (k == 1) = false := by simp [k1]
        go_wp2_with fail
        go_ret
        rw [eN.out]
        exact ⟨⟨s, c, rfl, H1.out⟩, HB1.out, hB1⟩
end Go.Proofs.Ytkbgklnkagpchaa
