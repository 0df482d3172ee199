import Derived.Test.YtkihhadcoclnaaaGreatSp30
namespace Go.Proofs.YtkihhadcoclnaaaGreat
set_option linter.unusedVariables false
set_option linter.unusedSimpArgs false
section
open Go.RowKit Go.Maps Go.WideMaps
set_option maxRecDepth 100000
theorem getD_at {α : Type} {L : List α} {j : Nat} {d : α} (h : j < L.length) : L[j]? = some (L.getD j d) := by simp [List.getD, h]
theorem risA_iff {L : List Int} {n j : Nat} (hj : j < L.length) : risA L n j = true ↔ (0 ≤ L.getD j 0 ∧ L.getD j 0 < (n : Int)) ∧ (j = 0 ∨ L.getD (j - 1) 0 < L.getD j 0) := by
 unfold risA
 rw [getD_at (d := 0) hj]
 simp only [Option.elim]
 rw [getD_at (L := L) (j := j - 1) (d := 0) (by omega)]
 simp only [Option.elim, Bool.and_eq_true, Bool.not_eq_true', decide_eq_true_eq, Bool.and_eq_false_iff, decide_eq_false_iff_not]
 omega
theorem cmpB_iff {A : List (ByteArray × Int)} {c : Int} : cmpB A c = true ↔ 0 ≤ c ∧ c < (A.length : Int) := by simp [cmpB]
theorem colB_iff {A : List (ByteArray × Int)} {t : Tab} {j : Nat} : colB A t j = true ↔ cmpB A (t.cols.getD j 0) = true ∧ (j = 0 ∨ t.cols.getD (j - 1) 0 < t.cols.getD j 0) ∧ (t.cells.getD j []).length = t.rows.length ∧ ∀ v ∈ t.cells.getD j [], vofB (dAt A (t.cols.getD j 0).toNat).2 v = true := by
 simp only [colB, Bool.and_eq_true, Bool.or_eq_true, decide_eq_true_eq, List.all_eq_true]
 constructor
 ·
  rintro ⟨⟨⟨h1, h2⟩, h3⟩, h4⟩; exact ⟨h1, h2, h3, h4⟩
 rintro ⟨h1, h2, h3, h4⟩; exact ⟨⟨⟨h1, h2⟩, h3⟩, h4⟩
theorem scolA_iff {A : List (ByteArray × Int)} {t : Tab} {j : Nat} : scolA A t j = true ↔ (t.cells.getD j []).length = t.rows.length ∧ ∀ v ∈ t.cells.getD j [], cmpB A (t.cols.getD j 0) = true ∧ vofB (dAt A (t.cols.getD j 0).toNat).2 v = true := by
 simp only [scolA, fitB, Bool.and_eq_true, decide_eq_true_eq, List.all_eq_true]
theorem rise_ge {L : List Int} (h : ∀ j, j < L.length → 0 ≤ L.getD j 0 ∧ (j = 0 ∨ L.getD (j - 1) 0 < L.getD j 0)) : ∀ j : Nat, j < L.length → (j : Int) ≤ L.getD j 0
 | 0, hj => by have := (h 0 hj).1; omega
 | j + 1, hj => by
  have h1 := rise_ge h j (by omega)
  rcases (h (j + 1) hj).2 with h2 | h2
  ·
   omega
  have e : j + 1 - 1 = j := by omega
  rw [e] at h2
  omega
theorem stab_tab {A : List (ByteArray × Int)} (t : Tab) (hA : A.length ≤ 12) : stabB A t = (tabB A t && decide (t.rows.length ≤ 2000)) := by
 rw [Bool.eq_iff_iff]
 simp only [stabB, tabB, risB, Bool.and_eq_true, decide_eq_true_eq, List.all_eq_true, List.mem_range]
 constructor
 ·
  rintro ⟨⟨⟨⟨h1, h2⟩, h3⟩, h4⟩, h5⟩
  refine ⟨⟨h3, fun j hj => ?_⟩, h4⟩
  have r := (risA_iff hj).1 (h2 j hj)
  have s := scolA_iff.1 (h5 j (by omega))
  exact colB_iff.2 ⟨cmpB_iff.2 r.1, r.2, s.1, fun v hv => (s.2 v hv).2⟩
 rintro ⟨⟨h3, h5⟩, h4⟩
 have hr : ∀ j, j < t.cols.length → 0 ≤ t.cols.getD j 0 ∧ (j = 0 ∨ t.cols.getD (j - 1) 0 < t.cols.getD j 0) := fun j hj => ⟨(cmpB_iff.1 (colB_iff.1 (h5 j hj)).1).1, (colB_iff.1 (h5 j hj)).2.1⟩
 have hl : t.cols.length ≤ 12 := by
  by_cases e : t.cols.length = 0
  ·
   omega
  have h6 := rise_ge hr (t.cols.length - 1) (by omega)
  have h7 := (cmpB_iff.1 (colB_iff.1 (h5 (t.cols.length - 1) (by omega))).1).2
  omega
 refine ⟨⟨⟨⟨hl, fun j hj => ?_⟩, h3⟩, h4⟩, fun j hj => ?_⟩
 ·
  exact (risA_iff hj).2 ⟨cmpB_iff.1 (colB_iff.1 (h5 j hj)).1, (colB_iff.1 (h5 j hj)).2.1⟩
 have c := colB_iff.1 (h5 j (by omega))
 exact scolA_iff.2 ⟨c.2.2.1, fun v hv => ⟨c.1, c.2.2.2 v hv⟩⟩
theorem rows_le {T : List Tab} {j : Nat} {t : Tab} (h : T[j]? = some t) : t.rows.length ≤ (rowsOf T).length := by
 rw [rows_pre h]
 simp
 omega
theorem spec_stand (A B C : List (ByteArray × Int)) (W : Wd) : specB A B C W = standB A B C W := by
 cases h1 : okR A B C
 ·
  simp [specB, standB, h1]
 have hA := okR_l12 h1
 cases h2 : onceB (listB W.gens W.free) W.tabs
 ·
  simp [specB, standB, h2]
 have e : (List.range W.tabs.length).all (stbA A W.tabs) = tabsB A W.tabs := by
  rw [Bool.eq_iff_iff]
  simp only [tabsB, List.all_eq_true, List.mem_range]
  have key : ∀ j, j < W.tabs.length → stbA A W.tabs j = tabA A W.tabs j := by
   intro j hj
   have ht := List.getElem?_eq_getElem hj
   rw [stbA_eq ht, tabA_eq ht, stab_tab _ hA]
   have hr := rows_le ht
   simp only [onceB, decide_eq_true_eq] at h2
   have hl := listB_len (G := W.gens) (F := W.free)
   have : decide ((W.tabs[j]).rows.length ≤ 2000) = true := by rw [decide_eq_true_eq]; omega
   rw [this, Bool.and_true]
  constructor
  ·
   intro h j hj; rw [← key j hj]; exact h j hj
  intro h j hj; rw [key j hj]; exact h j hj
 unfold specB standB
 rw [e, h1, h2]
 cases okE W.gens W.free <;> cases resB B W.res <;> cases decide (W.tabs.length ≤ 40) <;> cases tabsB A W.tabs <;> rfl
set_option maxHeartbeats 2000000 in
theorem szReg_top (s1 s2 s3 : Option Addr) (c1 c2 c3 : Nat) (A B C : List (ByteArray × Int)) (w : World) (hA : Decls w s1 A) (hB : Decls w s2 B) (hC : Decls w s3 C) (nA : Nms A) (nB : Nms B) (nC : Nms C) (mA : A.length ≤ maxLen) (mB : B.length ≤ maxLen) (mC : C.length ≤ maxLen) :
  Calls Tryz.prog 6 #[.agg #[.slice s1 A.length c1, .slice s2 B.length c2, .slice s3 C.length c3], .int .i64 1048576] w fun e w' => (∃ r : Int, e = .returned (.int .i64 r) ∧ (r = -1 ∨ (0 ≤ r ∧ r ≤ 1048576 ∧ A.length ≤ 1048576 ∧ B.length ≤ 1048576 ∧ C.length ≤ 1048576))) ∧ Below w.heap.size w w' := by
 have hal := alloc_old
 have haf := alloc_oldf
 have k0 := Blk.new w #[.slice s1 A.length c1, .slice s2 B.length c2, .slice s3 C.length c3] 24
 go_enter Tryz.func6, Tryz.ntmps6
 go_wp2_with fail; refine (szDeclS_any s1 c1 A 1048576 _ (hA.later blq) nA mA (by omega) (by omega)).mono ?_
 rintro e w1 ⟨⟨r, rfl, hr⟩, hb1⟩
 have L1 : Below w.heap.size w w1 := blq
 have K1 := k0.later hb1
 clear k0 hb1; obtain ⟨x0, x1, x2, x3⟩ := K1.three
 rcases hr with rfl | ⟨r0, r1, lA⟩
 ·
  go_wp2_with fail; go_ret; exact ⟨⟨_, rfl, Or.inl rfl⟩, L1⟩
 have t2 : decide (r < 0) = false := by simp; omega
 go_wp2_with fail; refine (szDeclS_any s2 c2 B r _ (hB.later L1) nB mB r0 r1).mono ?_
 rintro e w2 ⟨⟨q, rfl, hq⟩, hb2⟩
 have L2 := bl_trans L1 hb2
 have K2 := K1.later hb2
 clear K1 hb2 x0 x1 x2 x3; obtain ⟨x0, x1, x2, x3⟩ := K2.three
 rcases hq with rfl | ⟨q0, q1, lB⟩
 ·
  go_wp2_with fail; go_ret; exact ⟨⟨_, rfl, Or.inl rfl⟩, L2⟩
 have t3 : decide (q < 0) = false := by simp; omega
 go_wp2_with fail; refine (szDeclS_any s3 c3 C q _ (hC.later L2) nC mC q0 (by omega)).mono ?_
 rintro e w3 ⟨⟨p, rfl, hp⟩, hb3⟩
 have L3 := bl_trans L2 hb3
 clear hb3 x0 x1 x2 x3; rcases hp with rfl | ⟨p0, p1, lC⟩
 ·
  go_wp2_with fail; go_ret; exact ⟨⟨_, rfl, Or.inl rfl⟩, L3⟩
 have t4 : decide (p < 0) = false := by simp; omega
 go_wp2_with fail; go_ret; exact ⟨⟨_, rfl, Or.inr ⟨p0, by omega, lA, lB, lC⟩⟩, L3⟩
end
section
open Go.RowKit
def Wh (T : List Tab) (v : E2) (r s : Int) : Prop :=
 (r = -1 ∧ s = -1 ∧ ∀ (j : Nat) t, T[j]? = some t → ∀ i : Nat, ¬ t.rows[i]? = some v) ∨
 ∃ (j k : Nat) (t : Tab), r = j ∧ s = k ∧ T[j]? = some t ∧ t.rows[k]? = some v ∧ (∀ i : Nat, i < k → ¬ t.rows[i]? = some v) ∧ ∀ (l : Nat) u, l < j → T[l]? = some u → ∀ i : Nat, ¬ u.rows[i]? = some v
theorem Wh.same {T : List Tab} {v : E2} {r s r' s' : Int} (h : Wh T v r s) (g : Wh T v r' s') : r = r' ∧ s = s' := by
 rcases h with ⟨rfl, rfl, h⟩ | ⟨j, k, t, rfl, rfl, h1, h2, h3, h4⟩
 ·
  rcases g with ⟨rfl, rfl, _⟩ | ⟨j', k', t', rfl, rfl, g1, g2, g3, g4⟩
  ·
   exact ⟨rfl, rfl⟩
  exact absurd g2 (h j' t' g1 k')
 rcases g with ⟨rfl, rfl, g⟩ | ⟨j', k', t', rfl, rfl, g1, g2, g3, g4⟩
 ·
  exact absurd h2 (g j t h1 k)
 have ej : j = j' := by
  rcases Nat.lt_trichotomy j j' with h | h | h
  ·
   exact absurd h2 (g4 j t h h1 k)
  ·
   exact h
  exact absurd g2 (h4 j' t' h g1 k')
 subst ej
 rw [h1] at g1
 cases g1
 have ek : k = k' := by
  rcases Nat.lt_trichotomy k k' with h | h | h
  ·
   exact absurd h2 (g3 k h)
  ·
   exact h
  exact absurd g2 (h3 k' h)
 subst ek
 exact ⟨rfl, rfl⟩
theorem boxWE (w : World) (c d : Array Value) (t u : TypeId) : Blk ((w.alloc (.cells c t)).alloc (.cells d u)) w.heap.size c t ∧ Blk ((w.alloc (.cells c t)).alloc (.cells d u)) (w.heap.size + 1) d u ∧ Below w.heap.size w ((w.alloc (.cells c t)).alloc (.cells d u)) :=
 ⟨(blk2 w c d t u).1, (blk2 w c d t u).2, bl_alloc (bl_alloc (Below.refl _ _) _) _⟩
set_option maxHeartbeats 1000000 in
theorem specWhere_any (a1 a2 a3 a4 : Option Addr) (c1 c2 c3 c4 : Nat) (W : Wd) (B : Nat) (v1 v2 : Int) (w : World) (hW : InW w B a1 a2 a3 a4 W) (hk : kW W) :
  Calls Tryz.prog 76 #[.agg #[.slice a1 W.gens.length c1, .slice a2 W.free.length c2, .slice a3 W.tabs.length c3, .slice a4 W.res.length c4], .agg #[.int .i64 v1, .int .i64 v2]] w fun e w' => (∃ r s, e = .returned (.tuple #[.int .i64 r, .int .i64 s]) ∧ Wh W.tabs (v1, v2) r s) ∧ Below w.heap.size w w' := by
 have hal := alloc_old
 have haf := alloc_oldf
 obtain ⟨k0, k1, L0⟩ := boxWE w #[.slice a1 W.gens.length c1, .slice a2 W.free.length c2, .slice a3 W.tabs.length c3, .slice a4 W.res.length c4] #[.int .i64 v1, .int .i64 v2] 40 48
 go_enter Tryz.func76, Tryz.ntmps76
 go_wp2_with fail; generalize hX : (w.alloc (.cells #[.slice a1 W.gens.length c1, .slice a2 W.free.length c2, .slice a3 W.tabs.length c3, .slice a4 W.res.length c4] 40)).alloc (.cells #[.int .i64 v1, .int .i64 v2] 48) = X at L0 k0 k1 ⊢
 clear hX; obtain ⟨kl, kt⟩ := hk.2.2.1
 go_loopw [6] (fun i wr => ∃ k : Nat, k ≤ W.tabs.length ∧ i = .int .i64 k ∧ Hid (∀ (l : Nat) u, l < k → W.tabs[l]? = some u → ∀ i : Nat, ¬ u.rows[i]? = some (v1, v2)) ∧ Below X.heap.size X wr) (fun i _ => W.tabs.length - (intOf i).toNat)
 case atStart => exact ⟨0, Nat.zero_le _, rfl, fun j t hj => by omega, Below.refl _ _⟩
 obtain ⟨k, hk', rfl, hno, hb⟩ := hrel
 have k0' := k0.later hb
 have k1' := k1.later hb
 obtain ⟨y0, y1, y2⟩ := k1'.two
 obtain ⟨x0, x1, x2, x3, x4⟩ := k0'.four'
 by_cases hlt : k < W.tabs.length
 ·
  obtain ⟨t, ha⟩ := get_some hlt
  obtain ⟨b, o, rfl, _, hp, s1, d1, s2, d2, s3, d3, e1, e2, e3, f1, f2, f3⟩ := eTab_cells (hW.t.later cTab_keeps (bl_trans L0 hb)) ha
  have HA : Hid (W.tabs[k]? = some t) := ha
  have hkt := kt t (List.mem_of_getElem? ha)
  have hrl := hkt.2.1
  clear ha f1 f3; go_wp2_with fail; clear x0 x1 x2 x3 x4 y0 y1 y2 e1 e3; have e2' : wr.cell? ⟨b, o + k * 3 + 1, none⟩ = some (.slice s2 t.rows.length d2) := e2
  clear e2; go_loopw [7] (fun i w2 => ∃ m : Nat, m ≤ t.rows.length ∧ i = .int .i64 m ∧ Hid (∀ j : Nat, j < m → ¬ t.rows[j]? = some (v1, v2)) ∧ Below wr.heap.size wr w2) (fun i _ => t.rows.length - (intOf i).toNat)
  case atStart => exact ⟨0, Nat.zero_le _, rfl, fun j hj => by omega, Below.refl _ _⟩
  obtain ⟨m, hm, rfl, hno2, hb2⟩ := hrel
  obtain ⟨y0, y1, y2⟩ := (k1'.later hb2).two
  obtain ⟨x0, x1, x2, x3, x4⟩ := (k0'.later hb2).four'
  have e2 := (hb2.cell (p := ⟨b, o + k * 3 + 1, none⟩) hp).trans e2'
  by_cases hlt2 : m < t.rows.length
  ·
   obtain ⟨a, ha⟩ := get_some hlt2
   obtain ⟨b', o', rfl, _, hp', g1, g2⟩ := eEnt_cells (f2.later cEnt_keeps hb2) ha
   obtain ⟨p1, p2⟩ := a
   have HB : Hid (t.rows[m]? = some (p1, p2)) := ha
   clear ha; by_cases he : p1 = v1 ∧ p2 = v2
   ·
    obtain ⟨rfl, rfl⟩ := he
    have HR : Hid (Wh W.tabs (p1, p2) (k : Int) (m : Int)) := Or.inr ⟨k, m, t, rfl, rfl, HA.out, HB.out, hno2.out, hno.out⟩
    go_wp2_with fail; go_region
    all_goals
     go_wp2_with fail; refine bodyPost_ret (v := .tuple #[.int .i64 k, .int .i64 m]) (by simp [results, Tryz.results76, go_sem]) rfl ⟨⟨_, _, rfl, HR.out⟩, bl_trans L0 (bl_trans hb ?_)⟩
     exact blq
   have hst : Hid (∀ j : Nat, j < m + 1 → ¬ t.rows[j]? = some (v1, v2)) := by
    intro j hj
    by_cases e : j = m
    ·
     subst e
     rw [HB.out]
     intro h
     simp at h
     exact he h
    exact hno2.out j (by omega)
   by_cases q1 : p1 = v1
   ·
    have q2 : ¬ p2 = v2 := fun h => he ⟨q1, h⟩
    subst q1
    clear he; go_wp2_with fail; go_region
    all_goals
     go_wp2_with fail; go_roundw
     case rel =>
      refine ⟨m + 1, by omega, by go_num, hst, ?_⟩
      exact blq
     case measure => simp [intOf]; omega
   clear he; go_wp2_with fail; go_region
   all_goals
    go_wp2_with fail; go_roundw
    case rel =>
     refine ⟨m + 1, by omega, by go_num, hst, ?_⟩
     exact blq
    case measure => simp [intOf]; omega
  have hst : Hid (∀ (l : Nat) u, l < k + 1 → W.tabs[l]? = some u → ∀ i : Nat, ¬ u.rows[i]? = some (v1, v2)) := by
   intro l u hl hu
   by_cases e : l = k
   ·
    subst e
    rw [HA.out] at hu
    cases hu
    intro i hi
    exact hno2.out i (by have := (List.getElem?_eq_some_iff.1 hi).1; omega) hi
   exact hno.out l u (by omega) hu
  have Lk := bl_trans hb hb2
  go_wp2_with fail; go_roundw
  case rel => exact ⟨k + 1, by omega, by go_num, hst, Lk⟩
  case measure => simp [intOf]; omega
 go_wp2_with fail; refine bodyPost_ret (v := .tuple #[.int .i64 (-1), .int .i64 (-1)]) (by simp [results, Tryz.results76, go_sem]) rfl ⟨⟨_, _, rfl, Or.inl ⟨rfl, rfl, fun j t ht => ?_⟩⟩, bl_trans L0 hb⟩
 exact hno.out j t (by have := (List.getElem?_eq_some_iff.1 ht).1; omega) ht
end
end Go.Proofs.YtkihhadcoclnaaaGreat
