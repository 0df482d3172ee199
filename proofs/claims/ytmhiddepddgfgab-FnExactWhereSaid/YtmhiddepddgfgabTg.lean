import Derived.Test.YtmhiddepddgfgabTe
namespace Go.Proofs.Ytmhiddepddgfgab
open Go.RowKit
set_option linter.unusedVariables false
set_option linter.unusedSimpArgs false

/-- the first place of a thing in a list; -1: none. -/
def IxE (L : List E2) (v : E2) (r : Int) : Prop := (r = -1 ∧ ∀ j : Nat, ¬ L[j]? = some v) ∨ ∃ j : Nat, r = j ∧ L[j]? = some v ∧ ∀ i : Nat, i < j → ¬ L[i]? = some v

set_option maxHeartbeats 1000000 in
theorem indexE_any (s : Option Addr) (c : Nat) (L : List E2) (B : Nat) (v1 v2 : Int) (w : World) (hL : Els 2 cEnt w B s L) (hl : L.length ≤ 1048576) :
    Calls Try.prog 75 #[.slice s L.length c, .agg #[.int .i64 v1, .int .i64 v2]] w fun e w' => (∃ r : Int, e = .returned (.int .i64 r) ∧ IxE L (v1, v2) r) ∧ Below w.heap.size w w' := by
  have hal := alloc_old
  have haf := alloc_oldf
  have k0 := Blk.new w #[.int .i64 v1, .int .i64 v2] 66
  have L0 : Below w.heap.size w (w.alloc (.cells #[.int .i64 v1, .int .i64 v2] 66)) := bl_alloc (Below.refl _ _) _
  go_enter Try.func75, Try.ntmps75
  go_wp2_with fail
  generalize hX : w.alloc (.cells #[.int .i64 v1, .int .i64 v2] 66) = X at L0 k0 ⊢
  clear hX
  go_loopw [8] (fun i wr => ∃ k : Nat, k ≤ L.length ∧ i = .int .i64 k ∧ Hid (∀ j : Nat, j < k → ¬ L[j]? = some (v1, v2)) ∧ Below X.heap.size X wr) (fun i _ => L.length - (intOf i).toNat)
  case atStart => exact ⟨0, Nat.zero_le _, rfl, fun j hj => by omega, Below.refl _ _⟩
  case round =>
    obtain ⟨k, hk, rfl, hno, hb⟩ := hrel
    obtain ⟨x0, x1, x2⟩ := (k0.later hb).two
    by_cases hlt : k < L.length
    · obtain ⟨a, ha⟩ := get_some hlt
      obtain ⟨b, o, rfl, _, hp, e1, e2⟩ := eEnt_cells (hL.later cEnt_keeps (bl_trans L0 hb)) ha
      obtain ⟨p1, p2⟩ := a
      have HA : Hid (L[k]? = some (p1, p2)) := ha
      clear ha
      by_cases he : v1 = p1 ∧ v2 = p2
      · obtain ⟨rfl, rfl⟩ := he
        go_wp2_with fail
        go_region
        all_goals
          go_wp2_with fail
          go_ret
          refine ⟨⟨_, rfl, Or.inr ⟨k, rfl, HA.out, hno.out⟩⟩, bl_trans L0 ?_⟩
          (repeat (first | with_reducible exact Below.refl _ _ | with_reducible refine bl_alloc ?_ _ | with_reducible refine bl_drewN ?_ _ | with_reducible refine bl_drew ?_ | with_reducible refine bl_setCell ?_ (by first | exact Nat.le_refl _ | (dsimp only; omega) | (simp <;> omega)) _ | with_reducible refine bl_trans ?_ (by with_reducible assumption)))
      · have hst : Hid (∀ j : Nat, j < k + 1 → ¬ L[j]? = some (v1, v2)) := by
          intro j hj
          by_cases e : j = k
          · subst e
            rw [HA.out]
            intro h
            simp at h
            exact he ⟨h.1.symm, h.2.symm⟩
          · exact hno.out j (by omega)
        by_cases c1 : v1 = p1
        · have c2 : ¬ v2 = p2 := fun h => he ⟨c1, h⟩
          subst c1
          clear he
          go_wp2_with fail
          go_region
          all_goals
            go_wp2_with fail
            go_roundw
            case rel =>
              refine ⟨k + 1, by omega, by go_num, hst, ?_⟩
              (repeat (first | with_reducible exact Below.refl _ _ | with_reducible refine bl_alloc ?_ _ | with_reducible refine bl_drewN ?_ _ | with_reducible refine bl_drew ?_ | with_reducible refine bl_setCell ?_ (by first | exact Nat.le_refl _ | (dsimp only; omega) | (simp <;> omega)) _ | with_reducible refine bl_trans ?_ (by with_reducible assumption)))
            case measure => simp [intOf]; omega
        · clear he
          go_wp2_with fail
          go_region
          all_goals
            go_wp2_with fail
            go_roundw
            case rel =>
              refine ⟨k + 1, by omega, by go_num, hst, ?_⟩
              (repeat (first | with_reducible exact Below.refl _ _ | with_reducible refine bl_alloc ?_ _ | with_reducible refine bl_drewN ?_ _ | with_reducible refine bl_drew ?_ | with_reducible refine bl_setCell ?_ (by first | exact Nat.le_refl _ | (dsimp only; omega) | (simp <;> omega)) _ | with_reducible refine bl_trans ?_ (by with_reducible assumption)))
            case measure => simp [intOf]; omega
    · go_wp2_with fail
      go_ret
      refine ⟨⟨_, rfl, Or.inl ⟨rfl, fun j hj => ?_⟩⟩, bl_trans L0 hb⟩
      exact hno.out j (by have := (List.getElem?_eq_some_iff.1 hj).1; omega) hj

/-- where a thing stands first; -1, -1: nowhere. -/
def Wh (T : List Tab) (v : E2) (r s : Int) : Prop :=
  (r = -1 ∧ s = -1 ∧ ∀ (j : Nat) t, T[j]? = some t → ∀ i : Nat, ¬ t.rows[i]? = some v) ∨
  ∃ (j k : Nat) (t : Tab), r = j ∧ s = k ∧ T[j]? = some t ∧ t.rows[k]? = some v ∧ (∀ i : Nat, i < k → ¬ t.rows[i]? = some v) ∧ ∀ (l : Nat) u, l < j → T[l]? = some u → ∀ i : Nat, ¬ u.rows[i]? = some v
theorem Wh.same {T : List Tab} {v : E2} {r s r' s' : Int} (h : Wh T v r s) (g : Wh T v r' s') : r = r' ∧ s = s' := by
  rcases h with ⟨rfl, rfl, h⟩ | ⟨j, k, t, rfl, rfl, h1, h2, h3, h4⟩
  · rcases g with ⟨rfl, rfl, _⟩ | ⟨j', k', t', rfl, rfl, g1, g2, g3, g4⟩
    · exact ⟨rfl, rfl⟩
    · exact absurd g2 (h j' t' g1 k')
  · rcases g with ⟨rfl, rfl, g⟩ | ⟨j', k', t', rfl, rfl, g1, g2, g3, g4⟩
    · exact absurd h2 (g j t h1 k)
    · have ej : j = j' := by
        rcases Nat.lt_trichotomy j j' with h | h | h
        · exact absurd h2 (g4 j t h h1 k)
        · exact h
        · exact absurd g2 (h4 j' t' h g1 k')
      subst ej
      rw [h1] at g1
      cases g1
      have ek : k = k' := by
        rcases Nat.lt_trichotomy k k' with h | h | h
        · exact absurd h2 (g3 k h)
        · exact h
        · exact absurd g2 (h3 k' h)
      subst ek
      exact ⟨rfl, rfl⟩

theorem boxWE (w : World) (c d : Array Value) (t u : TypeId) : Blk ((w.alloc (.cells c t)).alloc (.cells d u)) w.heap.size c t ∧ Blk ((w.alloc (.cells c t)).alloc (.cells d u)) (w.heap.size + 1) d u ∧ Below w.heap.size w ((w.alloc (.cells c t)).alloc (.cells d u)) :=
  ⟨(blk2 w c d t u).1, (blk2 w c d t u).2, bl_alloc (bl_alloc (Below.refl _ _) _) _⟩

set_option maxHeartbeats 1000000 in
theorem implWhere_any (a1 a2 a3 a4 : Option Addr) (c1 c2 c3 c4 : Nat) (W : Wd) (B : Nat) (v1 v2 : Int) (w : World) (hW : InW w B a1 a2 a3 a4 W) (hk : kW W) :
    Calls Try.prog 33 #[.agg #[.slice a1 W.gens.length c1, .slice a2 W.free.length c2, .slice a3 W.tabs.length c3, .slice a4 W.res.length c4], .agg #[.int .i64 v1, .int .i64 v2]] w fun e w' => (∃ r s, e = .returned (.tuple #[.int .i64 r, .int .i64 s]) ∧ Wh W.tabs (v1, v2) r s) ∧ Below w.heap.size w w' := by
  have hal := alloc_old
  have haf := alloc_oldf
  obtain ⟨k0, k1, L0⟩ := boxWE w #[.slice a1 W.gens.length c1, .slice a2 W.free.length c2, .slice a3 W.tabs.length c3, .slice a4 W.res.length c4] #[.int .i64 v1, .int .i64 v2] 52 66
  obtain ⟨x0, x1, x2, x3, x4⟩ := k0.four'
  go_enter Try.func33, Try.ntmps33
  go_wp2_with fail
  clear x0 x1 x2 x3 x4
  generalize hX : (w.alloc (.cells #[.slice a1 W.gens.length c1, .slice a2 W.free.length c2, .slice a3 W.tabs.length c3, .slice a4 W.res.length c4] 52)).alloc (.cells #[.int .i64 v1, .int .i64 v2] 66) = X at L0 k0 k1 ⊢
  clear hX
  obtain ⟨kl, kt⟩ := hk.2.2.1
  go_loopw [12] (fun i wr => ∃ k : Nat, k ≤ W.tabs.length ∧ i = .int .i64 k ∧ Hid (∀ (l : Nat) u, l < k → W.tabs[l]? = some u → ∀ i : Nat, ¬ u.rows[i]? = some (v1, v2)) ∧ Below X.heap.size X wr) (fun i _ => W.tabs.length - (intOf i).toNat)
  case atStart => exact ⟨0, Nat.zero_le _, rfl, fun j t hj => by omega, Below.refl _ _⟩
  case round =>
    obtain ⟨k, hk', rfl, hno, hb⟩ := hrel
    obtain ⟨y0, y1, y2⟩ := (k1.later hb).two
    by_cases hlt : k < W.tabs.length
    · obtain ⟨t, ha⟩ := get_some hlt
      obtain ⟨b, o, rfl, _, hp, s1, d1, s2, d2, s3, d3, e1, e2, e3, f1, f2, f3⟩ := eTab_cells (hW.t.later cTab_keeps (bl_trans L0 hb)) ha
      have HA : Hid (W.tabs[k]? = some t) := ha
      have hkt := kt t (List.mem_of_getElem? ha)
      clear ha f1 f3
      go_wp2_with fail
      refine (indexE_any s2 d2 t.rows B v1 v2 _ (f2.later cEnt_keeps (bl_alloc (Below.refl _ _) _)) hkt.2.1).mono ?_
      rintro e w2 ⟨⟨r, rfl, hr⟩, hb2⟩
      have Lk := bl_trans (bl_alloc hb _) hb2
      clear f2 hb2 hkt
      rcases hr with ⟨rfl, hr⟩ | ⟨j, rfl, hr1, hr2⟩
      · have hst : Hid (∀ (l : Nat) u, l < k + 1 → W.tabs[l]? = some u → ∀ i : Nat, ¬ u.rows[i]? = some (v1, v2)) := by
          intro l u hl hu
          by_cases e : l = k
          · subst e
            rw [HA.out] at hu
            cases hu
            exact hr
          · exact hno.out l u (by omega) hu
        clear hr
        go_wp2_with fail
        go_roundw
        case rel => exact ⟨k + 1, by omega, by go_num, hst, Lk⟩
        case measure => simp [intOf]; omega
      · have hj : (0 : Int) ≤ (j : Int) := by omega
        have HR : Hid (Wh W.tabs (v1, v2) (k : Int) (j : Int)) := Or.inr ⟨k, j, t, rfl, rfl, HA.out, hr1, hr2, hno.out⟩
        clear hr1 hr2
        go_wp2_with fail
        refine bodyPost_ret (v := .tuple #[.int .i64 k, .int .i64 j]) (by simp [results, Try.results33, go_sem]) rfl ⟨⟨_, _, rfl, HR.out⟩, bl_trans L0 Lk⟩
    · go_wp2_with fail
      refine bodyPost_ret (v := .tuple #[.int .i64 (-1), .int .i64 (-1)]) (by simp [results, Try.results33, go_sem]) rfl ⟨⟨_, _, rfl, Or.inl ⟨rfl, rfl, fun j t ht => ?_⟩⟩, bl_trans L0 hb⟩
      exact hno.out j t (by have := (List.getElem?_eq_some_iff.1 ht).1; omega) ht

set_option maxHeartbeats 1000000 in
theorem specWhere_any (a1 a2 a3 a4 : Option Addr) (c1 c2 c3 c4 : Nat) (W : Wd) (B : Nat) (v1 v2 : Int) (w : World) (hW : InW w B a1 a2 a3 a4 W) (hk : kW W) :
    Calls Try.prog 31 #[.agg #[.slice a1 W.gens.length c1, .slice a2 W.free.length c2, .slice a3 W.tabs.length c3, .slice a4 W.res.length c4], .agg #[.int .i64 v1, .int .i64 v2]] w fun e w' => (∃ r s, e = .returned (.tuple #[.int .i64 r, .int .i64 s]) ∧ Wh W.tabs (v1, v2) r s) ∧ Below w.heap.size w w' := by
  have hal := alloc_old
  have haf := alloc_oldf
  obtain ⟨k0, k1, L0⟩ := boxWE w #[.slice a1 W.gens.length c1, .slice a2 W.free.length c2, .slice a3 W.tabs.length c3, .slice a4 W.res.length c4] #[.int .i64 v1, .int .i64 v2] 52 66
  go_enter Try.func31, Try.ntmps31
  go_wp2_with fail
  generalize hX : (w.alloc (.cells #[.slice a1 W.gens.length c1, .slice a2 W.free.length c2, .slice a3 W.tabs.length c3, .slice a4 W.res.length c4] 52)).alloc (.cells #[.int .i64 v1, .int .i64 v2] 66) = X at L0 k0 k1 ⊢
  clear hX
  obtain ⟨kl, kt⟩ := hk.2.2.1
  go_loopw [6] (fun i wr => ∃ k : Nat, k ≤ W.tabs.length ∧ i = .int .i64 k ∧ Hid (∀ (l : Nat) u, l < k → W.tabs[l]? = some u → ∀ i : Nat, ¬ u.rows[i]? = some (v1, v2)) ∧ Below X.heap.size X wr) (fun i _ => W.tabs.length - (intOf i).toNat)
  case atStart => exact ⟨0, Nat.zero_le _, rfl, fun j t hj => by omega, Below.refl _ _⟩
  case round =>
    obtain ⟨k, hk', rfl, hno, hb⟩ := hrel
    have k0' := k0.later hb
    have k1' := k1.later hb
    obtain ⟨y0, y1, y2⟩ := k1'.two
    obtain ⟨x0, x1, x2, x3, x4⟩ := k0'.four'
    by_cases hlt : k < W.tabs.length
    · obtain ⟨t, ha⟩ := get_some hlt
      obtain ⟨b, o, rfl, _, hp, s1, d1, s2, d2, s3, d3, e1, e2, e3, f1, f2, f3⟩ := eTab_cells (hW.t.later cTab_keeps (bl_trans L0 hb)) ha
      have HA : Hid (W.tabs[k]? = some t) := ha
      have hkt := kt t (List.mem_of_getElem? ha)
      have hrl := hkt.2.1
      clear ha f1 f3
      go_wp2_with fail
      clear x0 x1 x2 x3 x4 y0 y1 y2 e1 e3
      have e2' : wr.cell? ⟨b, o + k * 3 + 1, none⟩ = some (.slice s2 t.rows.length d2) := e2
      clear e2
      go_loopw [7] (fun i w2 => ∃ m : Nat, m ≤ t.rows.length ∧ i = .int .i64 m ∧ Hid (∀ j : Nat, j < m → ¬ t.rows[j]? = some (v1, v2)) ∧ Below wr.heap.size wr w2) (fun i _ => t.rows.length - (intOf i).toNat)
      case atStart => exact ⟨0, Nat.zero_le _, rfl, fun j hj => by omega, Below.refl _ _⟩
      case round =>
        obtain ⟨m, hm, rfl, hno2, hb2⟩ := hrel
        obtain ⟨y0, y1, y2⟩ := (k1'.later hb2).two
        obtain ⟨x0, x1, x2, x3, x4⟩ := (k0'.later hb2).four'
        have e2 := (hb2.cell (p := ⟨b, o + k * 3 + 1, none⟩) hp).trans e2'
        by_cases hlt2 : m < t.rows.length
        · obtain ⟨a, ha⟩ := get_some hlt2
          obtain ⟨b', o', rfl, _, hp', g1, g2⟩ := eEnt_cells (f2.later cEnt_keeps hb2) ha
          obtain ⟨p1, p2⟩ := a
          have HB : Hid (t.rows[m]? = some (p1, p2)) := ha
          clear ha
          by_cases he : p1 = v1 ∧ p2 = v2
          · obtain ⟨rfl, rfl⟩ := he
            have HR : Hid (Wh W.tabs (p1, p2) (k : Int) (m : Int)) := Or.inr ⟨k, m, t, rfl, rfl, HA.out, HB.out, hno2.out, hno.out⟩
            go_wp2_with fail
            go_region
            all_goals
              go_wp2_with fail
              refine bodyPost_ret (v := .tuple #[.int .i64 k, .int .i64 m]) (by simp [results, Try.results31, go_sem]) rfl ⟨⟨_, _, rfl, HR.out⟩, bl_trans L0 (bl_trans hb ?_)⟩
              (repeat (first | with_reducible exact Below.refl _ _ | with_reducible refine bl_alloc ?_ _ | with_reducible refine bl_drewN ?_ _ | with_reducible refine bl_drew ?_ | with_reducible refine bl_setCell ?_ (by first | exact Nat.le_refl _ | (dsimp only; omega) | (simp <;> omega)) _ | with_reducible refine bl_trans ?_ (by with_reducible assumption)))
          · have hst : Hid (∀ j : Nat, j < m + 1 → ¬ t.rows[j]? = some (v1, v2)) := by
              intro j hj
              by_cases e : j = m
              · subst e
                rw [HB.out]
                intro h
                simp at h
                exact he h
              · exact hno2.out j (by omega)
            by_cases q1 : p1 = v1
            · have q2 : ¬ p2 = v2 := fun h => he ⟨q1, h⟩
              subst q1
              clear he
              go_wp2_with fail
              go_region
              all_goals
                go_wp2_with fail
                go_roundw
                case rel =>
                  refine ⟨m + 1, by omega, by go_num, hst, ?_⟩
                  (repeat (first | with_reducible exact Below.refl _ _ | with_reducible refine bl_alloc ?_ _ | with_reducible refine bl_drewN ?_ _ | with_reducible refine bl_drew ?_ | with_reducible refine bl_setCell ?_ (by first | exact Nat.le_refl _ | (dsimp only; omega) | (simp <;> omega)) _ | with_reducible refine bl_trans ?_ (by with_reducible assumption)))
                case measure => simp [intOf]; omega
            · clear he
              go_wp2_with fail
              go_region
              all_goals
                go_wp2_with fail
                go_roundw
                case rel =>
                  refine ⟨m + 1, by omega, by go_num, hst, ?_⟩
                  (repeat (first | with_reducible exact Below.refl _ _ | with_reducible refine bl_alloc ?_ _ | with_reducible refine bl_drewN ?_ _ | with_reducible refine bl_drew ?_ | with_reducible refine bl_setCell ?_ (by first | exact Nat.le_refl _ | (dsimp only; omega) | (simp <;> omega)) _ | with_reducible refine bl_trans ?_ (by with_reducible assumption)))
                case measure => simp [intOf]; omega
        · have hst : Hid (∀ (l : Nat) u, l < k + 1 → W.tabs[l]? = some u → ∀ i : Nat, ¬ u.rows[i]? = some (v1, v2)) := by
            intro l u hl hu
            by_cases e : l = k
            · subst e
              rw [HA.out] at hu
              cases hu
              intro i hi
              exact hno2.out i (by have := (List.getElem?_eq_some_iff.1 hi).1; omega) hi
            · exact hno.out l u (by omega) hu
          have Lk := bl_trans hb hb2
          go_wp2_with fail
          go_roundw
          case rel => exact ⟨k + 1, by omega, by go_num, hst, Lk⟩
          case measure => simp [intOf]; omega
    · go_wp2_with fail
      refine bodyPost_ret (v := .tuple #[.int .i64 (-1), .int .i64 (-1)]) (by simp [results, Try.results31, go_sem]) rfl ⟨⟨_, _, rfl, Or.inl ⟨rfl, rfl, fun j t ht => ?_⟩⟩, bl_trans L0 hb⟩
      exact hno.out j t (by have := (List.getElem?_eq_some_iff.1 ht).1; omega) ht
end Go.Proofs.Ytmhiddepddgfgab
