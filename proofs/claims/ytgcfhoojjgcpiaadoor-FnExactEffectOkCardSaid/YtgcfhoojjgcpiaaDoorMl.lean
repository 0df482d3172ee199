import Derived.Test.YtgcfhoojjgcpiaaDoorMk
namespace Go.Proofs.YtgcfhoojjgcpiaaDoor
open Go.RowKit Go.Maps Go.WideMaps
set_option linter.unusedVariables false
set_option linter.unusedSimpArgs false

theorem okR_good {A B C : List (ByteArray × Int)} (h : okR A B C = true) : (A.length ≤ 12 ∧ B.length ≤ 12 ∧ C.length ≤ 12) ∧ ∀ i, i < (A ++ B ++ C).length → goodAt (A ++ B ++ C) i := by
  simp only [okR, okL, Bool.and_eq_true, decide_eq_true_eq] at h
  exact ⟨⟨h.1.1.1, h.1.1.2, h.1.2⟩, h.2⟩
theorem one_of {A B C : List (ByteArray × Int)} (h : okR A B C = true) {i j : Nat} (hi : i < (A ++ B ++ C).length) (hj : j < (A ++ B ++ C).length) (e : (dAt (A ++ B ++ C) i).1 = (dAt (A ++ B ++ C) j).1) : i = j := by
  have g := (okR_good h).2
  rcases Nat.lt_trichotomy i j with h' | h' | h'
  · exact absurd e ((g j hj).2.2.2 i h')
  · exact h'
  · exact absurd e.symm ((g i hi).2.2.2 j h')
theorem split_at {A B C : List (ByteArray × Int)} {j : Nat} (hj : j < (A ++ B ++ C).length) : ∃ t k : Nat, 1 ≤ t ∧ t ≤ 3 ∧ k < (pickL A B C (t : Int)).length ∧ j = offT A B C t + k := by
  simp at hj
  by_cases h1 : j < A.length
  · exact ⟨1, j, by omega, by omega, by simpa [pickL] using h1, by simp [offT]⟩
  · by_cases h2 : j < A.length + B.length
    · exact ⟨2, j - A.length, by omega, by omega, by simp [pickL]; omega, by simp [offT]; omega⟩
    · exact ⟨3, j - (A.length + B.length), by omega, by omega, by simp [pickL]; omega, by simp [offT]; omega⟩

/-- what is asked of a number that is found. -/
def FindIs (A B C : List (ByteArray × Int)) (sort : Int) (s : ByteArray) (r : Int) : Prop :=
  (okR A B C = false → r = -1) ∧ (okR A B C = true → (∃ k : Nat, k < (pickL A B C sort).length ∧ (dAt (pickL A B C sort) k).1 = s ∧ r = k) ∨ ((∀ k, k < (pickL A B C sort).length → ¬ (dAt (pickL A B C sort) k).1 = s) ∧ r = -1))

theorem pick_nat {A B C : List (ByteArray × Int)} {sort : Int} {k : Nat} (h : k < (pickL A B C sort).length) : ∃ t : Nat, 1 ≤ t ∧ t ≤ 3 ∧ sort = t := by
  by_cases h1 : sort = 1
  · exact ⟨1, by omega, by omega, h1⟩
  · by_cases h2 : sort = 2
    · exact ⟨2, by omega, by omega, h2⟩
    · by_cases h3 : sort = 3
      · exact ⟨3, by omega, by omega, h3⟩
      · simp [pickL, h1, h2, h3] at h
theorem FindIs.one {A B C : List (ByteArray × Int)} {sort : Int} {s : ByteArray} {r q : Int} (h : FindIs A B C sort s r) (g : FindIs A B C sort s q) : r = q := by
  cases hk : okR A B C
  · rw [h.1 hk, g.1 hk]
  · rcases h.2 hk with ⟨k, k1, k2, rfl⟩ | ⟨h1, rfl⟩
    · rcases g.2 hk with ⟨m, m1, m2, rfl⟩ | ⟨g1, rfl⟩
      · obtain ⟨t, t1, t2, rfl⟩ := pick_nat k1
        have := one_of hk (off_lt A B C t1 t2 k1) (off_lt A B C t1 t2 m1) (by rw [dAt_off A B C t1 t2 k1, dAt_off A B C t1 t2 m1, k2, m2])
        have : k = m := by omega
        rw [this]
      · exact absurd k2 (g1 k k1)
    · rcases g.2 hk with ⟨m, m1, m2, rfl⟩ | ⟨g1, rfl⟩
      · exact absurd m2 (h1 m m1)
      · rfl

theorem pl_nodup {A B C : List (ByteArray × Int)} (h : okR A B C = true) : ((plTo A B C (A ++ B ++ C).length).map (·.n)).Nodup := by
  have e : (plTo A B C (A ++ B ++ C).length).map (·.n) = (List.range (A ++ B ++ C).length).map (fun i => (dAt (A ++ B ++ C) i).1) := by
    simp only [plTo, List.map_map]; rfl
  rw [e, List.nodup_iff_pairwise_ne, List.pairwise_map]
  refine List.Pairwise.imp_of_mem ?_ (List.nodup_iff_pairwise_ne.1 List.nodup_range)
  intro a b ha hb hne he
  exact hne (one_of h (List.mem_range.1 ha) (List.mem_range.1 hb) he)

/-- what the map says of a name. -/
theorem look_is {A B C : List (ByteArray × Int)} (h : okR A B C = true) {s : ByteArray} {q : Pl} (hq : .held q.val = (plMap (plTo A B C (A ++ B ++ C).length) (.map [])).atKey (wkey s) (.held Pl.zero.val)) :
    ((plTo A B C (A ++ B ++ C).length).any (fun p => decide (p.n = s)) = false → ∀ sort, FindIs A B C sort s (-1)) ∧
    ((plTo A B C (A ++ B ++ C).length).any (fun p => decide (p.n = s)) = true → ∀ sort, FindIs A B C sort s (if q.s = sort then q.a else -1)) := by
  constructor
  · intro hn sort
    refine ⟨fun _ => rfl, fun _ => Or.inr ⟨fun k hk e => ?_, rfl⟩⟩
    obtain ⟨t, t1, t2, rfl⟩ := pick_nat hk
    have : (plTo A B C (A ++ B ++ C).length).any (fun p => decide (p.n = s)) = true := (twice_iff A B C _ _).2 ⟨_, off_lt A B C t1 t2 hk, by rw [dAt_off A B C t1 t2 hk]; exact e⟩
    rw [hn] at this
    cases this
  · intro hy sort
    obtain ⟨j, hj, ej⟩ := (twice_iff A B C _ _).1 hy
    have hm : plAt A B C j ∈ plTo A B C (A ++ B ++ C).length := by
      simp only [plTo, List.mem_map, List.mem_range]
      exact ⟨j, hj, rfl⟩
    have hs : s = (plAt A B C j).n := ej.symm
    rw [hs, at_plMap _ _ _ _ isMap_empty hm (pl_nodup h)] at hq
    injection hq with hv
    simp only [Pl.val, Value.agg.injEq] at hv
    have hv' := congrArg Array.toList hv
    simp at hv'
    obtain ⟨_, _, v3, v4⟩ := hv'
    obtain ⟨t, k, t1, t2, hk, rfl⟩ := split_at hj
    rw [plAt_off A B C t1 t2 hk] at v3 v4
    simp only at v3 v4
    rw [v3, v4]
    refine ⟨fun h' => (by rw [h] at h'; cases h'), fun _ => ?_⟩
    by_cases e : (t : Int) = sort
    · subst e
      rw [if_pos rfl]
      exact Or.inl ⟨k, hk, by rw [← dAt_off A B C t1 t2 hk]; exact ej, rfl⟩
    · rw [if_neg e]
      refine Or.inr ⟨fun m hm e2 => e ?_, rfl⟩
      obtain ⟨u, u1, u2, rfl⟩ := pick_nat hm
      have h3 := one_of h (off_lt A B C u1 u2 hm) (off_lt A B C t1 t2 hk) (by rw [dAt_off A B C u1 u2 hm, e2]; exact ej.symm)
      have p1 := plAt_off A B C u1 u2 hm
      rw [h3, plAt_off A B C t1 t2 hk] at p1
      injection p1

set_option maxHeartbeats 2000000 in
theorem implRegOk_any (s1 s2 s3 : Option Addr) (c1 c2 c3 : Nat) (A B C : List (ByteArray × Int)) (w : World) (hA : Decls w s1 A) (hB : Decls w s2 B) (hC : Decls w s3 C) (nm : ∀ i, i < (A ++ B ++ C).length → (dAt (A ++ B ++ C) i).1.size ≤ maxLen) (l1 : A.length ≤ 1048576) (l2 : B.length ≤ 1048576) (l3 : C.length ≤ 1048576) :
    Calls Tryd.prog 18 #[.agg #[.slice s1 A.length c1, .slice s2 B.length c2, .slice s3 C.length c3]] w fun e w' => e = .returned (.bool (okR A B C)) ∧ Below w.heap.size w w' := by
  have hal := alloc_old
  have haf := alloc_oldf
  obtain ⟨x0, x1, x2, x3⟩ := (Blk.new w #[.slice s1 A.length c1, .slice s2 B.length c2, .slice s3 C.length c3] 33).three
  cases hk : okR A B C
  · go_enter Tryd.func18, Tryd.ntmps18
    go_wp2_with fail
    refine (declsByName_any s1 s2 s3 c1 c2 c3 A B C _ (hA.later (by (repeat (first | with_reducible exact Below.refl _ _ | with_reducible refine bl_alloc ?_ _ | with_reducible refine bl_drewN ?_ _ | with_reducible refine bl_drew ?_ | with_reducible refine bl_setCell ?_ (by first | exact Nat.le_refl _ | (dsimp only; omega) | (simp <;> omega)) _ | with_reducible refine bl_trans ?_ (by with_reducible assumption))))) (hB.later (by (repeat (first | with_reducible exact Below.refl _ _ | with_reducible refine bl_alloc ?_ _ | with_reducible refine bl_drewN ?_ _ | with_reducible refine bl_drew ?_ | with_reducible refine bl_setCell ?_ (by first | exact Nat.le_refl _ | (dsimp only; omega) | (simp <;> omega)) _ | with_reducible refine bl_trans ?_ (by with_reducible assumption))))) (hC.later (by (repeat (first | with_reducible exact Below.refl _ _ | with_reducible refine bl_alloc ?_ _ | with_reducible refine bl_drewN ?_ _ | with_reducible refine bl_drew ?_ | with_reducible refine bl_setCell ?_ (by first | exact Nat.le_refl _ | (dsimp only; omega) | (simp <;> omega)) _ | with_reducible refine bl_trans ?_ (by with_reducible assumption))))) nm l1 l2 l3).mono ?_
    rintro e w1 ⟨h1, _, hb⟩
    obtain rfl := h1 hk
    go_wp2_with fail
    go_ret
    exact ⟨rfl, by (repeat (first | with_reducible exact Below.refl _ _ | with_reducible refine bl_alloc ?_ _ | with_reducible refine bl_drewN ?_ _ | with_reducible refine bl_drew ?_ | with_reducible refine bl_setCell ?_ (by first | exact Nat.le_refl _ | (dsimp only; omega) | (simp <;> omega)) _ | with_reducible refine bl_trans ?_ (by with_reducible assumption)))⟩
  · go_enter Tryd.func18, Tryd.ntmps18
    go_wp2_with fail
    refine (declsByName_any s1 s2 s3 c1 c2 c3 A B C _ (hA.later (by (repeat (first | with_reducible exact Below.refl _ _ | with_reducible refine bl_alloc ?_ _ | with_reducible refine bl_drewN ?_ _ | with_reducible refine bl_drew ?_ | with_reducible refine bl_setCell ?_ (by first | exact Nat.le_refl _ | (dsimp only; omega) | (simp <;> omega)) _ | with_reducible refine bl_trans ?_ (by with_reducible assumption))))) (hB.later (by (repeat (first | with_reducible exact Below.refl _ _ | with_reducible refine bl_alloc ?_ _ | with_reducible refine bl_drewN ?_ _ | with_reducible refine bl_drew ?_ | with_reducible refine bl_setCell ?_ (by first | exact Nat.le_refl _ | (dsimp only; omega) | (simp <;> omega)) _ | with_reducible refine bl_trans ?_ (by with_reducible assumption))))) (hC.later (by (repeat (first | with_reducible exact Below.refl _ _ | with_reducible refine bl_alloc ?_ _ | with_reducible refine bl_drewN ?_ _ | with_reducible refine bl_drew ?_ | with_reducible refine bl_setCell ?_ (by first | exact Nat.le_refl _ | (dsimp only; omega) | (simp <;> omega)) _ | with_reducible refine bl_trans ?_ (by with_reducible assumption))))) nm l1 l2 l3).mono ?_
    rintro e w1 ⟨_, h1, hb⟩
    obtain ⟨b, n, rfl, _⟩ := h1 hk
    go_wp2_with fail
    go_ret
    exact ⟨rfl, by (repeat (first | with_reducible exact Below.refl _ _ | with_reducible refine bl_alloc ?_ _ | with_reducible refine bl_drewN ?_ _ | with_reducible refine bl_drew ?_ | with_reducible refine bl_setCell ?_ (by first | exact Nat.le_refl _ | (dsimp only; omega) | (simp <;> omega)) _ | with_reducible refine bl_trans ?_ (by with_reducible assumption)))⟩

end Go.Proofs.YtgcfhoojjgcpiaaDoor
