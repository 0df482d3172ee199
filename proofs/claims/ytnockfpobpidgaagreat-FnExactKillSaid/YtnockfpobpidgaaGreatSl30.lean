import Derived.Test.YtnockfpobpidgaaGreatSl29
import Derived.Test.YtnockfpobpidgaaGreatSl13
import Derived.Test.YtnockfpobpidgaaGreatSl07
import Derived.Test.YtnockfpobpidgaaGreatSl23
import Derived.Test.YtnockfpobpidgaaGreatSl25
import Derived.Test.YtnockfpobpidgaaGreatSl15
namespace Go.Proofs.YtnockfpobpidgaaGreat
section
open Go.RowKit Go.Maps Go.WideMaps
set_option linter.unusedVariables false
set_option linter.unusedSimpArgs false
set_option maxRecDepth 100000
theorem getD_at {α : Type} {L : List α} {j : Nat} {d : α} (h : j < L.length) : L[j]? = some (L.getD j d) := by simp [List.getD, h]
theorem risA_iff {L : List Int} {n j : Nat} (hj : j < L.length) : risA L n j = true ↔ (0 ≤ L.getD j 0 ∧ L.getD j 0 < (n : Int)) ∧ (j = 0 ∨ L.getD (j - 1) 0 < L.getD j 0) := by
 unfold risA
 rw [getD_at (d := 0) hj]
 simp only [Option.elim]
 rw [getD_at (L := L) (j := j - 1) (d := 0) (by omega)]
 simp only [Option.elim, Bool.and_eq_true, Bool.not_eq_true', decide_eq_true_eq, Bool.and_eq_false_iff, decide_eq_false_iff_not]
 omega
theorem cmpB_iff {A : List (ByteArray × Int)} {c : Int} : cmpB A c = true ↔ 0 ≤ c ∧ c < (A.length : Int) := by simp [cmpB]
theorem colB_iff {A : List (ByteArray × Int)} {t : Tab} {j : Nat} : colB A t j = true ↔ cmpB A (t.cols.getD j 0) = true ∧ (j = 0 ∨ t.cols.getD (j - 1) 0 < t.cols.getD j 0) ∧ (t.cells.getD j []).length = t.rows.length ∧ ∀ v ∈ t.cells.getD j [], vofB (dAt A (t.cols.getD j 0).toNat).2 v = true := by
 simp only [colB, Bool.and_eq_true, Bool.or_eq_true, decide_eq_true_eq, List.all_eq_true]
 constructor
 ·
  rintro ⟨⟨⟨h1, h2⟩, h3⟩, h4⟩; exact ⟨h1, h2, h3, h4⟩
 ·
  rintro ⟨h1, h2, h3, h4⟩; exact ⟨⟨⟨h1, h2⟩, h3⟩, h4⟩
theorem scolA_iff {A : List (ByteArray × Int)} {t : Tab} {j : Nat} : scolA A t j = true ↔ (t.cells.getD j []).length = t.rows.length ∧ ∀ v ∈ t.cells.getD j [], cmpB A (t.cols.getD j 0) = true ∧ vofB (dAt A (t.cols.getD j 0).toNat).2 v = true := by
 simp only [scolA, fitB, Bool.and_eq_true, decide_eq_true_eq, List.all_eq_true]
theorem rise_ge {L : List Int} (h : ∀ j, j < L.length → 0 ≤ L.getD j 0 ∧ (j = 0 ∨ L.getD (j - 1) 0 < L.getD j 0)) : ∀ j : Nat, j < L.length → (j : Int) ≤ L.getD j 0
 | 0, hj => by have := (h 0 hj).1; omega
 | j + 1, hj => by
  have h1 := rise_ge h j (by omega)
  rcases (h (j + 1) hj).2 with h2 | h2
  ·
   omega
  ·
   have e : j + 1 - 1 = j := by omega
   rw [e] at h2
   omega
theorem stab_tab {A : List (ByteArray × Int)} (t : Tab) (hA : A.length ≤ 12) : stabB A t = (tabB A t && decide (t.rows.length ≤ 2000)) := by
 rw [Bool.eq_iff_iff]
 simp only [stabB, tabB, risB, Bool.and_eq_true, decide_eq_true_eq, List.all_eq_true, List.mem_range]
 constructor
 ·
  rintro ⟨⟨⟨⟨h1, h2⟩, h3⟩, h4⟩, h5⟩
  refine ⟨⟨h3, fun j hj => ?_⟩, h4⟩
  have r := (risA_iff hj).1 (h2 j hj)
  have s := scolA_iff.1 (h5 j (by omega))
  exact colB_iff.2 ⟨cmpB_iff.2 r.1, r.2, s.1, fun v hv => (s.2 v hv).2⟩
 ·
  rintro ⟨⟨h3, h5⟩, h4⟩
  have hr : ∀ j, j < t.cols.length → 0 ≤ t.cols.getD j 0 ∧ (j = 0 ∨ t.cols.getD (j - 1) 0 < t.cols.getD j 0) := fun j hj => ⟨(cmpB_iff.1 (colB_iff.1 (h5 j hj)).1).1, (colB_iff.1 (h5 j hj)).2.1⟩
  have hl : t.cols.length ≤ 12 := by
   by_cases e : t.cols.length = 0
   ·
    omega
   ·
    have h6 := rise_ge hr (t.cols.length - 1) (by omega)
    have h7 := (cmpB_iff.1 (colB_iff.1 (h5 (t.cols.length - 1) (by omega))).1).2
    omega
  refine ⟨⟨⟨⟨hl, fun j hj => ?_⟩, h3⟩, h4⟩, fun j hj => ?_⟩
  ·
   exact (risA_iff hj).2 ⟨cmpB_iff.1 (colB_iff.1 (h5 j hj)).1, (colB_iff.1 (h5 j hj)).2.1⟩
  ·
   have c := colB_iff.1 (h5 j (by omega))
   exact scolA_iff.2 ⟨c.2.2.1, fun v hv => ⟨c.1, c.2.2.2 v hv⟩⟩
theorem rows_le {T : List Tab} {j : Nat} {t : Tab} (h : T[j]? = some t) : t.rows.length ≤ (rowsOf T).length := by
 rw [rows_pre h]
 simp
 omega
theorem spec_stand (A B C : List (ByteArray × Int)) (W : Wd) : specB A B C W = standB A B C W := by
 cases h1 : okR A B C
 ·
  simp [specB, standB, h1]
 ·
  have hA := okR_l12 h1
  cases h2 : onceB (listB W.gens W.free) W.tabs
  ·
   simp [specB, standB, h2]
  ·
   have e : (List.range W.tabs.length).all (stbA A W.tabs) = tabsB A W.tabs := by
    rw [Bool.eq_iff_iff]
    simp only [tabsB, List.all_eq_true, List.mem_range]
    have key : ∀ j, j < W.tabs.length → stbA A W.tabs j = tabA A W.tabs j := by
     intro j hj
     have ht := List.getElem?_eq_getElem hj
     rw [stbA_eq ht, tabA_eq ht, stab_tab _ hA]
     have hr := rows_le ht
     simp only [onceB, decide_eq_true_eq] at h2
     have hl := listB_len (G := W.gens) (F := W.free)
     have : decide ((W.tabs[j]).rows.length ≤ 2000) = true := by rw [decide_eq_true_eq]; omega
     rw [this, Bool.and_true]
    constructor
    ·
     intro h j hj; rw [← key j hj]; exact h j hj
    ·
     intro h j hj; rw [key j hj]; exact h j hj
   unfold specB standB
   rw [e, h1, h2]
   cases okE W.gens W.free <;> cases resB B W.res <;> cases decide (W.tabs.length ≤ 40) <;> cases tabsB A W.tabs <;> rfl
set_option maxHeartbeats 2000000 in
theorem szReg_top (s1 s2 s3 : Option Addr) (c1 c2 c3 : Nat) (A B C : List (ByteArray × Int)) (w : World) (hA : Decls w s1 A) (hB : Decls w s2 B) (hC : Decls w s3 C) (nA : Nms A) (nB : Nms B) (nC : Nms C) (mA : A.length ≤ maxLen) (mB : B.length ≤ maxLen) (mC : C.length ≤ maxLen) :
  Calls Tryz.prog 7 #[.agg #[.slice s1 A.length c1, .slice s2 B.length c2, .slice s3 C.length c3], .int .i64 1048576] w fun e w' => (∃ r : Int, e = .returned (.int .i64 r) ∧ (r = -1 ∨ (0 ≤ r ∧ r ≤ 1048576 ∧ A.length ≤ 1048576 ∧ B.length ≤ 1048576 ∧ C.length ≤ 1048576))) ∧ Below w.heap.size w w' := by
 have hal := alloc_old
 have haf := alloc_oldf
 have k0 := Blk.new w #[.slice s1 A.length c1, .slice s2 B.length c2, .slice s3 C.length c3] 24
 go_enter Tryz.func7, Tryz.ntmps7
 go_wp2_with fail
 refine (szDeclS_any s1 c1 A 1048576 _ (hA.later (by (repeat (first | with_reducible exact Below.refl _ _ | with_reducible refine bl_alloc ?_ _ | with_reducible refine bl_drewN ?_ _ | with_reducible refine bl_drew ?_ | with_reducible refine bl_setCell ?_ (by first | exact Nat.le_refl _ | (dsimp only; omega) | (simp <;> omega)) _ | with_reducible refine bl_trans ?_ (by with_reducible assumption))))) nA mA (by omega) (by omega)).mono ?_
 rintro e w1 ⟨⟨r, rfl, hr⟩, hb1⟩
 have L1 : Below w.heap.size w w1 := by (repeat (first | with_reducible exact Below.refl _ _ | with_reducible refine bl_alloc ?_ _ | with_reducible refine bl_drewN ?_ _ | with_reducible refine bl_drew ?_ | with_reducible refine bl_setCell ?_ (by first | exact Nat.le_refl _ | (dsimp only; omega) | (simp <;> omega)) _ | with_reducible refine bl_trans ?_ (by with_reducible assumption)))
 have K1 := k0.later hb1
 clear k0 hb1
 obtain ⟨x0, x1, x2, x3⟩ := K1.three
 rcases hr with rfl | ⟨r0, r1, lA⟩
 ·
  go_wp2_with fail
  go_ret
  exact ⟨⟨_, rfl, Or.inl rfl⟩, L1⟩
 ·
  have t2 : decide (r < 0) = false := by simp; omega
  go_wp2_with fail
  refine (szDeclS_any s2 c2 B r _ (hB.later L1) nB mB r0 r1).mono ?_
  rintro e w2 ⟨⟨q, rfl, hq⟩, hb2⟩
  have L2 := bl_trans L1 hb2
  have K2 := K1.later hb2
  clear K1 hb2 x0 x1 x2 x3
  obtain ⟨x0, x1, x2, x3⟩ := K2.three
  rcases hq with rfl | ⟨q0, q1, lB⟩
  ·
   go_wp2_with fail
   go_ret
   exact ⟨⟨_, rfl, Or.inl rfl⟩, L2⟩
  ·
   have t3 : decide (q < 0) = false := by simp; omega
   go_wp2_with fail
   refine (szDeclS_any s3 c3 C q _ (hC.later L2) nC mC q0 (by omega)).mono ?_
   rintro e w3 ⟨⟨p, rfl, hp⟩, hb3⟩
   have L3 := bl_trans L2 hb3
   clear hb3 x0 x1 x2 x3
   rcases hp with rfl | ⟨p0, p1, lC⟩
   ·
    go_wp2_with fail
    go_ret
    exact ⟨⟨_, rfl, Or.inl rfl⟩, L3⟩
   ·
    have t4 : decide (p < 0) = false := by simp; omega
    go_wp2_with fail
    go_ret
    exact ⟨⟨_, rfl, Or.inr ⟨p0, by omega, lA, lB, lC⟩⟩, L3⟩
end
section
open Go.RowKit
set_option linter.unusedVariables false
set_option linter.unusedSimpArgs false
def Wh (T : List Tab) (v : E2) (r s : Int) : Prop :=
 (r = -1 ∧ s = -1 ∧ ∀ (j : Nat) t, T[j]? = some t → ∀ i : Nat, ¬ t.rows[i]? = some v) ∨
 ∃ (j k : Nat) (t : Tab), r = j ∧ s = k ∧ T[j]? = some t ∧ t.rows[k]? = some v ∧ (∀ i : Nat, i < k → ¬ t.rows[i]? = some v) ∧ ∀ (l : Nat) u, l < j → T[l]? = some u → ∀ i : Nat, ¬ u.rows[i]? = some v
theorem Wh.same {T : List Tab} {v : E2} {r s r' s' : Int} (h : Wh T v r s) (g : Wh T v r' s') : r = r' ∧ s = s' := by
 rcases h with ⟨rfl, rfl, h⟩ | ⟨j, k, t, rfl, rfl, h1, h2, h3, h4⟩
 ·
  rcases g with ⟨rfl, rfl, _⟩ | ⟨j', k', t', rfl, rfl, g1, g2, g3, g4⟩
  ·
   exact ⟨rfl, rfl⟩
  ·
   exact absurd g2 (h j' t' g1 k')
 ·
  rcases g with ⟨rfl, rfl, g⟩ | ⟨j', k', t', rfl, rfl, g1, g2, g3, g4⟩
  ·
   exact absurd h2 (g j t h1 k)
  ·
   have ej : j = j' := by
    rcases Nat.lt_trichotomy j j' with h | h | h
    ·
     exact absurd h2 (g4 j t h h1 k)
    ·
     exact h
    ·
     exact absurd g2 (h4 j' t' h g1 k')
   subst ej
   rw [h1] at g1
   cases g1
   have ek : k = k' := by
    rcases Nat.lt_trichotomy k k' with h | h | h
    ·
     exact absurd h2 (g3 k h)
    ·
     exact h
    ·
     exact absurd g2 (h3 k' h)
   subst ek
   exact ⟨rfl, rfl⟩
theorem boxWE (w : World) (c d : Array Value) (t u : TypeId) : Blk ((w.alloc (.cells c t)).alloc (.cells d u)) w.heap.size c t ∧ Blk ((w.alloc (.cells c t)).alloc (.cells d u)) (w.heap.size + 1) d u ∧ Below w.heap.size w ((w.alloc (.cells c t)).alloc (.cells d u)) :=
 ⟨(blk2 w c d t u).1, (blk2 w c d t u).2, bl_alloc (bl_alloc (Below.refl _ _) _) _⟩
set_option maxHeartbeats 1000000 in
theorem specWhere_any (a1 a2 a3 a4 : Option Addr) (c1 c2 c3 c4 : Nat) (W : Wd) (B : Nat) (v1 v2 : Int) (w : World) (hW : InW w B a1 a2 a3 a4 W) (hk : kW W) :
  Calls Tryz.prog 81 #[.agg #[.slice a1 W.gens.length c1, .slice a2 W.free.length c2, .slice a3 W.tabs.length c3, .slice a4 W.res.length c4], .agg #[.int .i64 v1, .int .i64 v2]] w fun e w' => (∃ r s, e = .returned (.tuple #[.int .i64 r, .int .i64 s]) ∧ Wh W.tabs (v1, v2) r s) ∧ Below w.heap.size w w' := by
 have hal := alloc_old
 have haf := alloc_oldf
 obtain ⟨k0, k1, L0⟩ := boxWE w #[.slice a1 W.gens.length c1, .slice a2 W.free.length c2, .slice a3 W.tabs.length c3, .slice a4 W.res.length c4] #[.int .i64 v1, .int .i64 v2] 40 48
 go_enter Tryz.func81, Tryz.ntmps81
 go_wp2_with fail
 generalize hX : (w.alloc (.cells #[.slice a1 W.gens.length c1, .slice a2 W.free.length c2, .slice a3 W.tabs.length c3, .slice a4 W.res.length c4] 40)).alloc (.cells #[.int .i64 v1, .int .i64 v2] 48) = X at L0 k0 k1 ⊢
 clear hX
 obtain ⟨kl, kt⟩ := hk.2.2.1
 go_loopw [6] (fun i wr => ∃ k : Nat, k ≤ W.tabs.length ∧ i = .int .i64 k ∧ Hid (∀ (l : Nat) u, l < k → W.tabs[l]? = some u → ∀ i : Nat, ¬ u.rows[i]? = some (v1, v2)) ∧ Below X.heap.size X wr) (fun i _ => W.tabs.length - (intOf i).toNat)
 case atStart => exact ⟨0, Nat.zero_le _, rfl, fun j t hj => by omega, Below.refl _ _⟩
 case round =>
  obtain ⟨k, hk', rfl, hno, hb⟩ := hrel
  have k0' := k0.later hb
  have k1' := k1.later hb
  obtain ⟨y0, y1, y2⟩ := k1'.two
  obtain ⟨x0, x1, x2, x3, x4⟩ := k0'.four'
  by_cases hlt : k < W.tabs.length
  ·
   obtain ⟨t, ha⟩ := get_some hlt
   obtain ⟨b, o, rfl, _, hp, s1, d1, s2, d2, s3, d3, e1, e2, e3, f1, f2, f3⟩ := eTab_cells (hW.t.later cTab_keeps (bl_trans L0 hb)) ha
   have HA : Hid (W.tabs[k]? = some t) := ha
   have hkt := kt t (List.mem_of_getElem? ha)
   have hrl := hkt.2.1
   clear ha f1 f3
   go_wp2_with fail
   clear x0 x1 x2 x3 x4 y0 y1 y2 e1 e3
   have e2' : wr.cell? ⟨b, o + k * 3 + 1, none⟩ = some (.slice s2 t.rows.length d2) := e2
   clear e2
   go_loopw [7] (fun i w2 => ∃ m : Nat, m ≤ t.rows.length ∧ i = .int .i64 m ∧ Hid (∀ j : Nat, j < m → ¬ t.rows[j]? = some (v1, v2)) ∧ Below wr.heap.size wr w2) (fun i _ => t.rows.length - (intOf i).toNat)
   case atStart => exact ⟨0, Nat.zero_le _, rfl, fun j hj => by omega, Below.refl _ _⟩
   case round =>
    obtain ⟨m, hm, rfl, hno2, hb2⟩ := hrel
    obtain ⟨y0, y1, y2⟩ := (k1'.later hb2).two
    obtain ⟨x0, x1, x2, x3, x4⟩ := (k0'.later hb2).four'
    have e2 := (hb2.cell (p := ⟨b, o + k * 3 + 1, none⟩) hp).trans e2'
    by_cases hlt2 : m < t.rows.length
    ·
     obtain ⟨a, ha⟩ := get_some hlt2
     obtain ⟨b', o', rfl, _, hp', g1, g2⟩ := eEnt_cells (f2.later cEnt_keeps hb2) ha
     obtain ⟨p1, p2⟩ := a
     have HB : Hid (t.rows[m]? = some (p1, p2)) := ha
     clear ha
     by_cases he : p1 = v1 ∧ p2 = v2
     ·
      obtain ⟨rfl, rfl⟩ := he
      have HR : Hid (Wh W.tabs (p1, p2) (k : Int) (m : Int)) := Or.inr ⟨k, m, t, rfl, rfl, HA.out, HB.out, hno2.out, hno.out⟩
      go_wp2_with fail
      go_region
      all_goals
       go_wp2_with fail
       refine bodyPost_ret (v := .tuple #[.int .i64 k, .int .i64 m]) (by simp [results, Tryz.results81, go_sem]) rfl ⟨⟨_, _, rfl, HR.out⟩, bl_trans L0 (bl_trans hb ?_)⟩
       (repeat (first | with_reducible exact Below.refl _ _ | with_reducible refine bl_alloc ?_ _ | with_reducible refine bl_drewN ?_ _ | with_reducible refine bl_drew ?_ | with_reducible refine bl_setCell ?_ (by first | exact Nat.le_refl _ | (dsimp only; omega) | (simp <;> omega)) _ | with_reducible refine bl_trans ?_ (by with_reducible assumption)))
     ·
      have hst : Hid (∀ j : Nat, j < m + 1 → ¬ t.rows[j]? = some (v1, v2)) := by
       intro j hj
       by_cases e : j = m
       ·
        subst e
        rw [HB.out]
        intro h
        simp at h
        exact he h
       ·
        exact hno2.out j (by omega)
      by_cases q1 : p1 = v1
      ·
       have q2 : ¬ p2 = v2 := fun h => he ⟨q1, h⟩
       subst q1
       clear he
       go_wp2_with fail
       go_region
       all_goals
        go_wp2_with fail
        go_roundw
        case rel =>
         refine ⟨m + 1, by omega, by go_num, hst, ?_⟩
         (repeat (first | with_reducible exact Below.refl _ _ | with_reducible refine bl_alloc ?_ _ | with_reducible refine bl_drewN ?_ _ | with_reducible refine bl_drew ?_ | with_reducible refine bl_setCell ?_ (by first | exact Nat.le_refl _ | (dsimp only; omega) | (simp <;> omega)) _ | with_reducible refine bl_trans ?_ (by with_reducible assumption)))
        case measure => simp [intOf]; omega
      ·
       clear he
       go_wp2_with fail
       go_region
       all_goals
        go_wp2_with fail
        go_roundw
        case rel =>
         refine ⟨m + 1, by omega, by go_num, hst, ?_⟩
         (repeat (first | with_reducible exact Below.refl _ _ | with_reducible refine bl_alloc ?_ _ | with_reducible refine bl_drewN ?_ _ | with_reducible refine bl_drew ?_ | with_reducible refine bl_setCell ?_ (by first | exact Nat.le_refl _ | (dsimp only; omega) | (simp <;> omega)) _ | with_reducible refine bl_trans ?_ (by with_reducible assumption)))
        case measure => simp [intOf]; omega
    ·
     have hst : Hid (∀ (l : Nat) u, l < k + 1 → W.tabs[l]? = some u → ∀ i : Nat, ¬ u.rows[i]? = some (v1, v2)) := by
      intro l u hl hu
      by_cases e : l = k
      ·
       subst e
       rw [HA.out] at hu
       cases hu
       intro i hi
       exact hno2.out i (by have := (List.getElem?_eq_some_iff.1 hi).1; omega) hi
      ·
       exact hno.out l u (by omega) hu
     have Lk := bl_trans hb hb2
     go_wp2_with fail
     go_roundw
     case rel => exact ⟨k + 1, by omega, by go_num, hst, Lk⟩
     case measure => simp [intOf]; omega
  ·
   go_wp2_with fail
   refine bodyPost_ret (v := .tuple #[.int .i64 (-1), .int .i64 (-1)]) (by simp [results, Tryz.results81, go_sem]) rfl ⟨⟨_, _, rfl, Or.inl ⟨rfl, rfl, fun j t ht => ?_⟩⟩, bl_trans L0 hb⟩
   exact hno.out j t (by have := (List.getElem?_eq_some_iff.1 ht).1; omega) ht
end
section
open Go.RowKit Go.Maps Go.WideMaps
set_option linter.unusedVariables false
set_option linter.unusedSimpArgs false
set_option maxRecDepth 100000
theorem nodup_le : ∀ (R M : List E2), R.Nodup → (∀ x ∈ R, x ∈ M) → R.length ≤ M.length
 | [], M, _, _ => by simp
 | a :: R, M, hn, hs => by
  rw [List.nodup_cons] at hn
  have h1 := nodup_le R (M.erase a) hn.2 (fun x hx => by
   have hne : x ≠ a := fun e => hn.1 (e ▸ hx)
   exact (List.mem_erase_of_ne hne).2 (hs x (by simp [hx])))
  have ha := hs a (by simp)
  have h2 := List.length_erase_of_mem ha
  have h3 : 0 < M.length := List.length_pos_of_mem ha
  rw [List.length_cons]
  omega
theorem all_in {R M : List E2} (hn : R.Nodup) (hs : ∀ x ∈ R, x ∈ M) (hl : R.length = M.length) : ∀ x, x ∈ M → x ∈ R := by
 intro x hx
 by_cases h : x ∈ R
 ·
  exact h
 ·
  have h1 := nodup_le R (M.erase x) hn (fun y hy => by
   have hne : y ≠ x := fun e => h (by rw [← e]; exact hy)
   exact (List.mem_erase_of_ne hne).2 (hs y hy))
  have h2 := List.length_erase_of_mem hx
  have h3 : 0 < M.length := List.length_pos_of_mem hx
  omega
theorem once_first {T : List Tab} {i j : Nat} {t : Tab} {x : E2} (hn : (rowsOf T).Nodup) (h : T[i]? = some t) (hx : t.rows[j]? = some x) : ¬ x ∈ rowsOf (T.take i) ++ t.rows.take j := by
 obtain ⟨S, hS⟩ := rows_pre2 h hx
 intro hm
 rw [hS, List.nodup_append] at hn
 exact hn.2.2 x hm x (by simp) rfl
theorem rows_in {T : List Tab} {i j k : Nat} {t : Tab} {x : E2} (h : T[i]? = some t) (hx : t.rows[j]? = some x) (hk : i < k) : x ∈ rowsOf (T.take k) := by
 simp only [rowsOf, List.mem_flatMap]
 exact ⟨t, List.mem_of_getElem? (by rw [List.getElem?_take, if_pos hk]; exact h), List.mem_of_getElem? hx⟩
theorem rows_unique {T : List Tab} {i j i' j' : Nat} {t t' : Tab} {x : E2} (hn : (rowsOf T).Nodup) (h : T[i]? = some t) (hx : t.rows[j]? = some x) (h' : T[i']? = some t') (hx' : t'.rows[j']? = some x) : i = i' ∧ j = j' := by
 have f1 := once_first hn h hx
 have f2 := once_first hn h' hx'
 have ei : i = i' := by
  rcases Nat.lt_trichotomy i i' with g | g | g
  ·
   exact absurd (List.mem_append_left _ (rows_in h hx g)) f2
  ·
   exact g
  ·
   exact absurd (List.mem_append_left _ (rows_in h' hx' g)) f1
 subst ei
 rw [h] at h'
 cases h'
 refine ⟨rfl, ?_⟩
 have tk : ∀ {a b : Nat}, a < b → t.rows[a]? = some x → x ∈ t.rows.take b := fun hab ha => List.mem_of_getElem? (by rw [List.getElem?_take, if_pos hab]; exact ha)
 rcases Nat.lt_trichotomy j j' with g | g | g
 ·
  exact absurd (List.mem_append_right _ (tk g hx)) f2
 ·
  exact g
 ·
  exact absurd (List.mem_append_right _ (tk g hx')) f1
structure RTab (t : Tab) : Prop where
 up : ∀ (p q : Nat) x y, p < q → t.cols[p]? = some x → t.cols[q]? = some y → x < y
 len : t.cells.length = t.cols.length
 each : ∀ (q : Nat) L, t.cells[q]? = some L → L.length = t.rows.length
theorem rtab_of {A : List (ByteArray × Int)} {t : Tab} (h : tabB A t = true) : RTab t := by
 simp only [tabB, Bool.and_eq_true, decide_eq_true_eq, List.all_eq_true, List.mem_range] at h
 obtain ⟨h1, h2⟩ := h
 refine ⟨?_, h1, fun q L hL => ?_⟩
 ·
  intro p q x y hpq hp hq
  have key : ∀ d : Nat, ∀ q y, p + d + 1 = q → t.cols[q]? = some y → x < y := by
   intro d
   induction d with
   | zero =>
    intro q y e hq
    have c := (colB_iff.1 (h2 q (List.getElem?_eq_some_iff.1 hq).1)).2.1
    rcases c with c | c
    ·
     omega
    ·
     rw [show q - 1 = p by omega, getD_of hp, getD_of hq] at c; exact c
   | succ d ih =>
    intro q y e hq
    have hql := (List.getElem?_eq_some_iff.1 hq).1
    obtain ⟨z, hz⟩ := get_some (L := t.cols) (k := q - 1) (by omega)
    have c := (colB_iff.1 (h2 q hql)).2.1
    have := ih (q - 1) z (by omega) hz
    rcases c with c | c
    ·
     omega
    ·
     rw [getD_of hz, getD_of hq] at c; omega
  exact key (q - p - 1) q y (by omega) hq
 ·
  have hq : q < t.cols.length := by rw [← h1]; exact (List.getElem?_eq_some_iff.1 hL).1
  have c := (colB_iff.1 (h2 q hq)).2.2.1
  rw [getD_of hL] at c
  exact c
theorem stand_tabs {A B C : List (ByteArray × Int)} {W : Wd} (h : standB A B C W = true) : (∀ t ∈ W.tabs, RTab t) ∧ onceB (listB W.gens W.free) W.tabs = true := by
 simp only [standB, Bool.and_eq_true, tabsB, List.all_eq_true, List.mem_range] at h
 refine ⟨fun t ht => ?_, h.2⟩
 obtain ⟨j, hj, rfl⟩ := List.getElem_of_mem ht
 have := h.1.2 j hj
 rw [tabA_eq (List.getElem?_eq_getElem hj), Bool.and_eq_true] at this
 exact rtab_of this.1
theorem mem_live {G F : List Int} {x : E2} (hk : okE G F = true) : x ∈ listB G F ↔ l2B G F x.1 x.2 = true := by
 simp only [listB, hk, if_true, LK, List.mem_map, List.mem_filter, List.mem_range, l2B, decide_eq_true_eq, Bool.not_eq_true', decide_eq_false_iff_not]
 constructor
 ·
  rintro ⟨i, ⟨hi, hn⟩, rfl⟩
  simp only [Int.toNat_natCast]
  exact ⟨by omega, by omega, trivial, hn⟩
 ·
  rintro ⟨h1, h2, h3, h4⟩
  refine ⟨x.1.toNat, ⟨by omega, ?_⟩, ?_⟩
  ·
   rw [Int.toNat_of_nonneg h1]; exact h4
  ·
   apply Prod.ext
   ·
    simp only; omega
   ·
    simp only; exact h3
def setT (t : Tab) (q : Nat) (L : List V4) : Tab := ⟨t.cols, t.rows, t.cells.set q L⟩
def setW (W : Wd) (i : Nat) (t : Tab) : Wd := ⟨W.gens, W.free, W.tabs.set i t, W.res⟩
def SetR (A B C : List (ByteArray × Int)) (W : Wd) (e : E2) (comp : Int) (v : V4) (W' : Wd) (code : Int) : Prop :=
 ((standB A B C W && fitB A comp v) = false ∧ W' = W ∧ code = 1) ∨
 ((standB A B C W && fitB A comp v) = true ∧ ((¬ e ∈ rowsOf W.tabs ∧ W' = W ∧ code = 2) ∨
 (∃ (i j : Nat) (t : Tab), W.tabs[i]? = some t ∧ t.rows[j]? = some e ∧ (¬ comp ∈ t.cols) ∧ W' = W ∧ code = 4) ∨
 (∃ (i j q : Nat) (t : Tab) (L : List V4), W.tabs[i]? = some t ∧ t.rows[j]? = some e ∧ t.cols[q]? = some comp ∧ t.cells[q]? = some L ∧ W' = setW W i (setT t q (L.set j v)) ∧ code = 0)))
theorem mem_rows {T : List Tab} {i j : Nat} {t : Tab} {x : E2} (h : T[i]? = some t) (hx : t.rows[j]? = some x) : x ∈ rowsOf T := by
 simp only [rowsOf, List.mem_flatMap]
 exact ⟨t, List.mem_of_getElem? h, List.mem_of_getElem? hx⟩
theorem cols_unique {t : Tab} (h : RTab t) {p q : Nat} {x : Int} (hp : t.cols[p]? = some x) (hq : t.cols[q]? = some x) : p = q := by
 rcases Nat.lt_trichotomy p q with h1 | h1 | h1
 ·
  have := h.up p q x x h1 hp hq; omega
 ·
  exact h1
 ·
  have := h.up q p x x h1 hq hp; omega
theorem SetR.same {A B C : List (ByteArray × Int)} {W : Wd} {e : E2} {comp : Int} {v : V4} {W1 W2 : Wd} {c1 c2 : Int} (h1 : SetR A B C W e comp v W1 c1) (h2 : SetR A B C W e comp v W2 c2) : W1 = W2 ∧ c1 = c2 := by
 rcases h1 with ⟨hf, rfl, rfl⟩ | ⟨ht, h1⟩
 ·
  rcases h2 with ⟨_, rfl, rfl⟩ | ⟨ht, _⟩
  ·
   exact ⟨rfl, rfl⟩
  ·
   rw [hf] at ht; cases ht
 ·
  have hst : standB A B C W = true := by simp only [Bool.and_eq_true] at ht; exact ht.1
  obtain ⟨hrt, hon⟩ := stand_tabs hst
  simp only [onceB, decide_eq_true_eq] at hon
  rcases h2 with ⟨hf, _⟩ | ⟨_, h2⟩
  ·
   rw [hf] at ht; cases ht
  ·
   rcases h1 with ⟨hn, rfl, rfl⟩ | ⟨i, j, t, h11, h12, h13, rfl, rfl⟩ | ⟨i, j, q, t, L, h11, h12, h13, h14, rfl, rfl⟩
   ·
    rcases h2 with ⟨_, rfl, rfl⟩ | ⟨i', j', t', h21, h22, _⟩ | ⟨i', j', q', t', L', h21, h22, _⟩
    ·
     exact ⟨rfl, rfl⟩
    ·
     exact absurd (mem_rows h21 h22) hn
    ·
     exact absurd (mem_rows h21 h22) hn
   ·
    rcases h2 with ⟨hn, _⟩ | ⟨i', j', t', h21, h22, _, rfl, rfl⟩ | ⟨i', j', q', t', L', h21, h22, h23, _⟩
    ·
     exact absurd (mem_rows h11 h12) hn
    ·
     exact ⟨rfl, rfl⟩
    ·
     obtain ⟨rfl, rfl⟩ := rows_unique hon.1 h11 h12 h21 h22
     rw [h11] at h21
     cases h21
     exact absurd (List.mem_of_getElem? h23) h13
   ·
    rcases h2 with ⟨hn, _⟩ | ⟨i', j', t', h21, h22, h23, _⟩ | ⟨i', j', q', t', L', h21, h22, h23, h24, rfl, rfl⟩
    ·
     exact absurd (mem_rows h11 h12) hn
    ·
     obtain ⟨rfl, rfl⟩ := rows_unique hon.1 h11 h12 h21 h22
     rw [h11] at h21
     cases h21
     exact absurd (List.mem_of_getElem? h13) h23
    ·
     obtain ⟨rfl, rfl⟩ := rows_unique hon.1 h11 h12 h21 h22
     rw [h11] at h21
     cases h21
     have := cols_unique (hrt t (List.mem_of_getElem? h11)) h13 h23
     subst this
     rw [h14] at h24
     cases h24
     exact ⟨rfl, rfl⟩
theorem kW_set {W : Wd} (hk : kW W) {i q j : Nat} {t : Tab} {L : List V4} {v : V4} (h1 : W.tabs[i]? = some t) (h2 : t.cells[q]? = some L) : kW (setW W i (setT t q (L.set j v))) := by
 obtain ⟨a, b, ⟨c, d⟩, e⟩ := hk
 have ht := d t (List.mem_of_getElem? h1)
 refine ⟨a, b, ⟨by show (W.tabs.set _ _).length ≤ _; rw [List.length_set]; exact c, fun T hT => ?_⟩, e⟩
 have hT : T ∈ W.tabs.set i (setT t q (L.set j v)) := hT
 rcases List.mem_or_eq_of_mem_set hT with h | rfl
 ·
  exact d T h
 ·
  refine ⟨ht.1, ht.2.1, by show (t.cells.set _ _).length ≤ _; rw [List.length_set]; exact ht.2.2.1, fun l hl => ?_⟩
  have hl : l ∈ t.cells.set q (L.set j v) := hl
  rcases List.mem_or_eq_of_mem_set hl with h | rfl
  ·
   exact ht.2.2.2 l h
  ·
   rw [List.length_set]; exact ht.2.2.2 L (List.mem_of_getElem? h2)
theorem SetR.kW {A B C : List (ByteArray × Int)} {W : Wd} {e : E2} {comp : Int} {v : V4} {W1 : Wd} {c1 : Int} (h : SetR A B C W e comp v W1 c1) (hk : kW W) : kW W1 := by
 rcases h with ⟨_, rfl, _⟩ | ⟨_, ⟨_, rfl, _⟩ | ⟨_, _, _, _, _, _, rfl, _⟩ | ⟨i, j, q, t, L, h1, _, _, h4, rfl, _⟩⟩
 ·
  exact hk
 ·
  exact hk
 ·
  exact hk
 ·
  exact kW_set hk h1 h4
theorem rW_split {V : WV} {W : Wd} {i : Nat} {t : TV} {T : Tab} (h1 : V.ts[i]? = some t) (h2 : W.tabs[i]? = some T) (P : List OR) : P ++ rW V W = (P ++ [rI V.g W.gens, rI V.f W.free, rT V.t V.ts, rV V.r W.res] ++ rTabs (V.ts.take i) (W.tabs.take i)) ++ (rTab t T ++ rTabs (V.ts.drop (i + 1)) (W.tabs.drop (i + 1))) := by
 unfold rW
 rw [rTabs_split h1 h2]
 simp
theorem rW_setW {V : WV} {W : Wd} {i : Nat} {t : TV} {T T' : Tab} (h1 : V.ts[i]? = some t) (h2 : W.tabs[i]? = some T) (P : List OR) : P ++ rW V (setW W i T') = (P ++ [rI V.g W.gens, rI V.f W.free, rT V.t V.ts, rV V.r W.res] ++ rTabs (V.ts.take i) (W.tabs.take i)) ++ (rTab t T' ++ rTabs (V.ts.drop (i + 1)) (W.tabs.drop (i + 1))) := by
 unfold rW setW
 dsimp only
 rw [rTabs_set h1 h2]
 simp
theorem OWf.setW {V : WV} {W : Wd} (h : OWf V W) {i q : Nat} {T : Tab} {L' : List V4} (h2 : W.tabs[i]? = some T) (ok : okVs L') : OWf V (setW W i (setT T q L')) := by
 refine ⟨?_, ?_, ?_, h.okr⟩
 ·
  show V.ts.length = (W.tabs.set _ _).length
  rw [List.length_set]; exact h.len
 ·
  intro j t U ht hU
  have hU : (W.tabs.set i (setT T q L'))[j]? = some U := hU
  by_cases e : j = i
  ·
   subst e
   rw [List.getElem?_set_self ((List.getElem?_eq_some_iff.1 h2).1)] at hU
   cases hU
   show _ = (T.cells.set _ _).length
   rw [List.length_set]; exact h.lens j t T ht h2
  ·
   rw [List.getElem?_set_ne (fun e' => e e'.symm)] at hU
   exact h.lens j t U ht hU
 ·
  intro U hU M hM
  have hU : U ∈ W.tabs.set i (setT T q L') := hU
  rcases List.mem_or_eq_of_mem_set hU with h' | rfl
  ·
   exact h.okc U h' M hM
  ·
   have hM : M ∈ T.cells.set q L' := hM
   rcases List.mem_or_eq_of_mem_set hM with h' | rfl
   ·
    exact h.okc T (List.mem_of_getElem? h2) M h'
   ·
    exact ok
theorem rV_set {w : World} {B g c : Nat} {L : List V4} {j : Nat} {p : V4} (hp : L[j]? = some p) (v : V4) (h : (rV (.slice (some ⟨g, 0, none⟩) L.length c) L).on w B) :
  (rV (.slice (some ⟨g, 0, none⟩) L.length c) (L.set j v)).on ((((w.setCell ⟨g, j * 4, none⟩ (.int .i64 v.1)).setCell ⟨g, j * 4 + 1, none⟩ (.int .i64 v.2.1)).setCell ⟨g, j * 4 + 2, none⟩ (.float .f64 v.2.2.1)).setCell ⟨g, j * 4 + 3, none⟩ (.float .f64 v.2.2.2)) B ∧
  w.grownBy ((((w.setCell ⟨g, j * 4, none⟩ (.int .i64 v.1)).setCell ⟨g, j * 4 + 1, none⟩ (.int .i64 v.2.1)).setCell ⟨g, j * 4 + 2, none⟩ (.float .f64 v.2.2.1)).setCell ⟨g, j * 4 + 3, none⟩ (.float .f64 v.2.2.2)) (some g) := by
 refine ⟨?_, grow_set (grow_set (grow_set (grow_set (grown_refl _ _) _ _) _ _) _ _) _ _⟩
 have hj := (List.getElem?_eq_some_iff.1 hp).1
 have e1 : L = L.take j ++ p :: L.drop (j + 1) := by rw [← drop_get hp, List.take_append_drop]
 have e2 : L.set j v = L.take j ++ v :: L.drop (j + 1) := by
  conv => lhs; rw [e1]
  rw [List.set_append_right _ _ (by simp; omega), List.length_take, Nat.min_eq_left (by omega), Nat.sub_self, List.set_cons_zero]
 have ea : ((L.take j).flatMap vcells).length = j * 4 := by rw [flat_len (k := 4) (f := vcells) (fun _ => rfl), List.length_take, Nat.min_eq_left (by omega)]
 have hr : w.ownsRow B 61 4 (.slice (some ⟨g, 0, none⟩) L.length c) L.length (L.flatMap vcells) := h
 have ef : L.flatMap vcells = (L.take j).flatMap vcells ++ (.int .i64 p.1 :: .int .i64 p.2.1 :: .float .f64 p.2.2.1 :: .float .f64 p.2.2.2 :: (L.drop (j + 1)).flatMap vcells) := by
  conv => lhs; rw [e1]
  rw [List.flatMap_append, List.flatMap_cons]
  rfl
 rw [ef] at hr
 have hput := own_put1 (i := j * 4) (u := .int .i64 v.1) hr ea.symm
 rw [List.append_cons] at hput
 have hput := own_put1 (i := j * 4 + 1) (u := .int .i64 v.2.1) hput (by simp [ea])
 rw [List.append_cons] at hput
 have hput := own_put1 (i := j * 4 + 2) (u := .float .f64 v.2.2.1) hput (by simp [ea])
 rw [List.append_cons] at hput
 have hput := own_put1 (i := j * 4 + 3) (u := .float .f64 v.2.2.2) hput (by simp [ea])
 show World.ownsRow _ _ _ _ _ (L.set j v).length ((L.set j v).flatMap vcells)
 rw [List.length_set, e2, List.flatMap_append, List.flatMap_cons]
 simp only [List.append_assoc, List.singleton_append] at hput
 exact hput
end
section
open Go.RowKit
set_option linter.unusedVariables false
set_option linter.unusedSimpArgs false
theorem ownsRow_take {w : World} {B : Nat} {T : TypeId} {k n c : Nat} {s : Option Addr} {cs : List Value} (h : w.ownsRow B T k (.slice s n c) n cs) (m : Nat) (hm : m ≤ n) :
  w.ownsRow B T k (.slice s m c) m (cs.take (m * k)) := by
 have hmk : m * k ≤ n * k := Nat.mul_le_mul_right k hm
 refine ⟨by rw [List.length_take, h.1]; omega, ?_⟩
 rcases h.2 with ⟨h1, h2⟩ | ⟨g, cap, cur, h1, hb, hg, hc, hx, hsz, ht⟩
 ·
  have h3 : m = 0 := by omega
  subst h3
  simp only [Value.slice.injEq] at h1
  obtain ⟨rfl, _, rfl⟩ := h1
  exact Or.inl ⟨rfl, rfl⟩
 ·
  simp only [Value.slice.injEq] at h1
  obtain ⟨rfl, _, rfl⟩ := h1
  refine Or.inr ⟨g, c, cur, rfl, hb, hg, by omega, hx, hsz, ?_⟩
  rw [← ht, List.take_take, Nat.min_eq_left hmk]
def wo {α : Type} (L : List α) (i : Nat) : List α := match L[L.length - 1]? with
 | some x => (L.set i x).take (L.length - 1)
 | none => L
theorem wo_length {α : Type} {L : List α} {i : Nat} (h : i < L.length) : (wo L i).length = L.length - 1 := by
 unfold wo
 rw [List.getElem?_eq_getElem (by omega : L.length - 1 < L.length)]
 simp
theorem wo_get {α : Type} {L : List α} {i j : Nat} (h : i < L.length) (hj : j < L.length - 1) : (wo L i)[j]? = if j = i then L[L.length - 1]? else L[j]? := by
 unfold wo
 rw [List.getElem?_eq_getElem (by omega : L.length - 1 < L.length)]
 simp only
 rw [List.getElem?_take_of_lt hj, List.getElem?_set]
 by_cases e : i = j
 ·
  subst e
  rw [if_pos rfl, if_pos h, if_pos rfl]
 ·
  rw [if_neg e, if_neg (fun x => e x.symm)]
end
end Go.Proofs.YtnockfpobpidgaaGreat
