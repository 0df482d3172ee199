import Derived.Test.YtofpkbnocbmgkaaTe
import Derived.Deep.RegionHeld3
import Derived.Test.YtofpkbnocbmgkaaKf
import Derived.Test.YtofpkbnocbmgkaaKl
namespace Go.Proofs.Ytofpkbnocbmgkaa
section
open Go.RowKit
set_option linter.unusedVariables false
set_option linter.unusedSimpArgs false

/-- the first place of a thing in a list; -1: none. -/
def IxE (L : List E2) (v : E2) (r : Int) : Prop := (r = -1 ∧ ∀ j : Nat, ¬ L[j]? = some v) ∨ ∃ j : Nat, r = j ∧ L[j]? = some v ∧ ∀ i : Nat, i < j → ¬ L[i]? = some v

/-- where a thing stands first; -1, -1: nowhere. -/
def Wh (T : List Tab) (v : E2) (r s : Int) : Prop :=
  (r = -1 ∧ s = -1 ∧ ∀ (j : Nat) t, T[j]? = some t → ∀ i : Nat, ¬ t.rows[i]? = some v) ∨
  ∃ (j k : Nat) (t : Tab), r = j ∧ s = k ∧ T[j]? = some t ∧ t.rows[k]? = some v ∧ (∀ i : Nat, i < k → ¬ t.rows[i]? = some v) ∧ ∀ (l : Nat) u, l < j → T[l]? = some u → ∀ i : Nat, ¬ u.rows[i]? = some v
theorem Wh.same {T : List Tab} {v : E2} {r s r' s' : Int} (h : Wh T v r s) (g : Wh T v r' s') : r = r' ∧ s = s' := by
  rcases h with ⟨rfl, rfl, h⟩ | ⟨j, k, t, rfl, rfl, h1, h2, h3, h4⟩
  · rcases g with ⟨rfl, rfl, _⟩ | ⟨j', k', t', rfl, rfl, g1, g2, g3, g4⟩
    · exact ⟨rfl, rfl⟩
    · exact absurd g2 (h j' t' g1 k')
  · rcases g with ⟨rfl, rfl, g⟩ | ⟨j', k', t', rfl, rfl, g1, g2, g3, g4⟩
    · exact absurd h2 (g j t h1 k)
    · have ej : j = j' := by
        rcases Nat.lt_trichotomy j j' with h | h | h
        · exact absurd h2 (g4 j t h h1 k)
        · exact h
        · exact absurd g2 (h4 j' t' h g1 k')
      subst ej
      rw [h1] at g1
      cases g1
      have ek : k = k' := by
        rcases Nat.lt_trichotomy k k' with h | h | h
        · exact absurd h2 (g3 k h)
        · exact h
        · exact absurd g2 (h3 k' h)
      subst ek
      exact ⟨rfl, rfl⟩

theorem boxWE (w : World) (c d : Array Value) (t u : TypeId) : Blk ((w.alloc (.cells c t)).alloc (.cells d u)) w.heap.size c t ∧ Blk ((w.alloc (.cells c t)).alloc (.cells d u)) (w.heap.size + 1) d u ∧ Below w.heap.size w ((w.alloc (.cells c t)).alloc (.cells d u)) :=
  ⟨(blk2 w c d t u).1, (blk2 w c d t u).2, bl_alloc (bl_alloc (Below.refl _ _) _) _⟩

set_option maxHeartbeats 1000000 in
theorem specWhere_any (a1 a2 a3 a4 : Option Addr) (c1 c2 c3 c4 : Nat) (W : Wd) (B : Nat) (v1 v2 : Int) (w : World) (hW : InW w B a1 a2 a3 a4 W) (hk : kW W) :
    Calls Try.prog 38 #[.agg #[.slice a1 W.gens.length c1, .slice a2 W.free.length c2, .slice a3 W.tabs.length c3, .slice a4 W.res.length c4], .agg #[.int .i64 v1, .int .i64 v2]] w fun e w' => (∃ r s, e = .returned (.tuple #[.int .i64 r, .int .i64 s]) ∧ Wh W.tabs (v1, v2) r s) ∧ Below w.heap.size w w' := by
  have hal := alloc_old
  have haf := alloc_oldf
  obtain ⟨k0, k1, L0⟩ := boxWE w #[.slice a1 W.gens.length c1, .slice a2 W.free.length c2, .slice a3 W.tabs.length c3, .slice a4 W.res.length c4] #[.int .i64 v1, .int .i64 v2] 49 51
  go_enter Try.func38, Try.ntmps38
  go_wp2_with fail
  generalize hX : (w.alloc (.cells #[.slice a1 W.gens.length c1, .slice a2 W.free.length c2, .slice a3 W.tabs.length c3, .slice a4 W.res.length c4] 49)).alloc (.cells #[.int .i64 v1, .int .i64 v2] 51) = X at L0 k0 k1 ⊢
  clear hX
  obtain ⟨kl, kt⟩ := hk.2.2.1
  go_loopw [6] (fun i wr => ∃ k : Nat, k ≤ W.tabs.length ∧ i = .int .i64 k ∧ Hid (∀ (l : Nat) u, l < k → W.tabs[l]? = some u → ∀ i : Nat, ¬ u.rows[i]? = some (v1, v2)) ∧ Below X.heap.size X wr) (fun i _ => W.tabs.length - (intOf i).toNat)
  case atStart => exact ⟨0, Nat.zero_le _, rfl, fun j t hj => by omega, Below.refl _ _⟩
  case round =>
    obtain ⟨k, hk', rfl, hno, hb⟩ := hrel
    have k0' := k0.later hb
    have k1' := k1.later hb
    obtain ⟨y0, y1, y2⟩ := k1'.two
    obtain ⟨x0, x1, x2, x3, x4⟩ := k0'.four'
    by_cases hlt : k < W.tabs.length
    · obtain ⟨t, ha⟩ := get_some hlt
      obtain ⟨b, o, rfl, _, hp, s1, d1, s2, d2, s3, d3, e1, e2, e3, f1, f2, f3⟩ := eTab_cells (hW.t.later cTab_keeps (bl_trans L0 hb)) ha
      have HA : Hid (W.tabs[k]? = some t) := ha
      have hkt := kt t (List.mem_of_getElem? ha)
      have hrl := hkt.2.1
      clear ha f1 f3
      go_wp2_with fail
      clear x0 x1 x2 x3 x4 y0 y1 y2 e1 e3
      have e2' : wr.cell? ⟨b, o + k * 3 + 1, none⟩ = some (.slice s2 t.rows.length d2) := e2
      clear e2
      go_loopw [7] (fun i w2 => ∃ m : Nat, m ≤ t.rows.length ∧ i = .int .i64 m ∧ Hid (∀ j : Nat, j < m → ¬ t.rows[j]? = some (v1, v2)) ∧ Below wr.heap.size wr w2) (fun i _ => t.rows.length - (intOf i).toNat)
      case atStart => exact ⟨0, Nat.zero_le _, rfl, fun j hj => by omega, Below.refl _ _⟩
      case round =>
        obtain ⟨m, hm, rfl, hno2, hb2⟩ := hrel
        obtain ⟨y0, y1, y2⟩ := (k1'.later hb2).two
        obtain ⟨x0, x1, x2, x3, x4⟩ := (k0'.later hb2).four'
        have e2 := (hb2.cell (p := ⟨b, o + k * 3 + 1, none⟩) hp).trans e2'
        by_cases hlt2 : m < t.rows.length
        · obtain ⟨a, ha⟩ := get_some hlt2
          obtain ⟨b', o', rfl, _, hp', g1, g2⟩ := eEnt_cells (f2.later cEnt_keeps hb2) ha
          obtain ⟨p1, p2⟩ := a
          have HB : Hid (t.rows[m]? = some (p1, p2)) := ha
          clear ha
          by_cases he : p1 = v1 ∧ p2 = v2
          · obtain ⟨rfl, rfl⟩ := he
            have HR : Hid (Wh W.tabs (p1, p2) (k : Int) (m : Int)) := Or.inr ⟨k, m, t, rfl, rfl, HA.out, HB.out, hno2.out, hno.out⟩
            go_wp2_with fail
            go_region
            all_goals
              go_wp2_with fail
              refine bodyPost_ret (v := .tuple #[.int .i64 k, .int .i64 m]) (by simp [results, Try.results38, go_sem]) rfl ⟨⟨_, _, rfl, HR.out⟩, bl_trans L0 (bl_trans hb ?_)⟩
              (repeat (first | with_reducible exact Below.refl _ _ | with_reducible refine bl_alloc ?_ _ | with_reducible refine bl_drewN ?_ _ | with_reducible refine bl_drew ?_ | with_reducible refine bl_setCell ?_ (by first | exact Nat.le_refl _ | (dsimp only; omega) | (simp <;> omega)) _ | with_reducible refine bl_trans ?_ (by with_reducible assumption)))
          · have hst : Hid (∀ j : Nat, j < m + 1 → ¬ t.rows[j]? = some (v1, v2)) := by
              intro j hj
              by_cases e : j = m
              · subst e
                rw [HB.out]
                intro h
                simp at h
                exact he h
              · exact hno2.out j (by omega)
            by_cases q1 : p1 = v1
            · have q2 : ¬ p2 = v2 := fun h => he ⟨q1, h⟩
              subst q1
              clear he
              go_wp2_with fail
              go_region
              all_goals
                go_wp2_with fail
                go_roundw
                case rel =>
                  refine ⟨m + 1, by omega, by go_num, hst, ?_⟩
                  (repeat (first | with_reducible exact Below.refl _ _ | with_reducible refine bl_alloc ?_ _ | with_reducible refine bl_drewN ?_ _ | with_reducible refine bl_drew ?_ | with_reducible refine bl_setCell ?_ (by first | exact Nat.le_refl _ | (dsimp only; omega) | (simp <;> omega)) _ | with_reducible refine bl_trans ?_ (by with_reducible assumption)))
                case measure => simp [intOf]; omega
            · clear he
              go_wp2_with fail
              go_region
              all_goals
                go_wp2_with fail
                go_roundw
                case rel =>
                  refine ⟨m + 1, by omega, by go_num, hst, ?_⟩
                  (repeat (first | with_reducible exact Below.refl _ _ | with_reducible refine bl_alloc ?_ _ | with_reducible refine bl_drewN ?_ _ | with_reducible refine bl_drew ?_ | with_reducible refine bl_setCell ?_ (by first | exact Nat.le_refl _ | (dsimp only; omega) | (simp <;> omega)) _ | with_reducible refine bl_trans ?_ (by with_reducible assumption)))
                case measure => simp [intOf]; omega
        · have hst : Hid (∀ (l : Nat) u, l < k + 1 → W.tabs[l]? = some u → ∀ i : Nat, ¬ u.rows[i]? = some (v1, v2)) := by
            intro l u hl hu
            by_cases e : l = k
            · subst e
              rw [HA.out] at hu
              cases hu
              intro i hi
              exact hno2.out i (by have := (List.getElem?_eq_some_iff.1 hi).1; omega) hi
            · exact hno.out l u (by omega) hu
          have Lk := bl_trans hb hb2
          go_wp2_with fail
          go_roundw
          case rel => exact ⟨k + 1, by omega, by go_num, hst, Lk⟩
          case measure => simp [intOf]; omega
    · go_wp2_with fail
      refine bodyPost_ret (v := .tuple #[.int .i64 (-1), .int .i64 (-1)]) (by simp [results, Try.results38, go_sem]) rfl ⟨⟨_, _, rfl, Or.inl ⟨rfl, rfl, fun j t ht => ?_⟩⟩, bl_trans L0 hb⟩
      exact hno.out j t (by have := (List.getElem?_eq_some_iff.1 ht).1; omega) ht
end
section
open Go.RowKit
set_option linter.unusedVariables false
set_option linter.unusedSimpArgs false
set_option maxRecDepth 100000

theorem cmpNaN_any (a : Int) (w : World) : Calls Try.prog 135 #[.int .i64 a] w fun e w' => e = .returned (.bool false) ∧ w' = w := by
  have q0 : (a != a) = false := by simp
  go_enter Try.func135, Try.ntmps135
  go_wp2_with fail
  go_ret
  exact ⟨rfl, rfl⟩
theorem slicesNaN_any (a : Int) (w : World) : Calls Try.prog 113 #[.int .i64 a] w fun e w' => e = .returned (.bool false) ∧ w' = w := by
  have q0 : (a != a) = false := by simp
  go_enter Try.func113, Try.ntmps113
  go_wp2_with fail
  go_ret
  exact ⟨rfl, rfl⟩
theorem cmpLess_any (a b : Int) (w : World) : Calls Try.prog 112 #[.int .i64 a, .int .i64 b] w fun e w' => e = .returned (.bool (decide (a < b))) ∧ w' = w := by
  go_enter Try.func112, Try.ntmps112
  go_wp2_with fail
  refine (cmpNaN_any a _).mono ?_
  rintro e w' ⟨rfl, rfl⟩
  go_wp2_with fail
  go_ret
  exact ⟨rfl, rfl⟩

/-- what a search in a rising list tells. -/
def Fnd (L : List Int) (x : Int) (i : Nat) : Prop := i ≤ L.length ∧ (∀ (q : Nat) a, q < i → L[q]? = some a → a < x) ∧ ∀ (q : Nat) a, i ≤ q → L[q]? = some a → x ≤ a

set_option maxHeartbeats 4000000 in
theorem binSearch_any (s : Option Addr) (c : Nat) (L : List Int) (x : Int) (B : Nat) (w : World) (hL : Els 1 cInt w B s L) (hl : L.length ≤ 1048576) (hs : ∀ (p q : Nat) a b, p ≤ q → L[p]? = some a → L[q]? = some b → a ≤ b) :
    Calls Try.prog 85 #[.slice s L.length c, .int .i64 x] w fun e w' => (∃ i : Nat, e = .returned (.tuple #[.int .i64 i, .bool (decide (L[i]? = some x))]) ∧ Fnd L x i) ∧ w' = w := by
  have HL : Hid (Els 1 cInt w B s L) := hL
  have HS : Hid (∀ (p q : Nat) a b, p ≤ q → L[p]? = some a → L[q]? = some b → a ≤ b) := hs
  clear hL hs
  go_enter Try.func85, Try.ntmps85
  go_wp2_with fail
  go_loopw [7, 8] (fun iv jv wr => ∃ (i j : Nat), i ≤ j ∧ j ≤ L.length ∧ iv = .int .i64 i ∧ jv = .int .i64 j ∧ wr = w ∧ Hid ((∀ (q : Nat) a, q < i → L[q]? = some a → a < x) ∧ ∀ (q : Nat) a, j ≤ q → L[q]? = some a → x ≤ a)) (fun iv jv _ => (intOf jv).toNat - (intOf iv).toNat)
  case atStart => exact ⟨0, L.length, Nat.zero_le _, Nat.le_refl _, rfl, rfl, rfl, fun q a hq => absurd hq (Nat.not_lt_zero _), fun q a hq ha => by have := (List.getElem?_eq_some_iff.1 ha).1; omega⟩
  case round =>
    obtain ⟨i, j, hij, hjl, rfl, rfl, rfl, hN⟩ := hrel
    by_cases hlt : i < j
    · obtain ⟨h, hh⟩ : ∃ h : Nat, h = (i + j) / 2 := ⟨_, rfl⟩
      have h1 : i ≤ h := by omega
      have h2 : h < j := by omega
      have th : ((i : Int) + (j : Int)) / 2 = (h : Int) := by omega
      obtain ⟨a, ha⟩ := get_some (L := L) (k := h) (by omega)
      obtain ⟨b, o, rfl, _, hp, e1⟩ := eInt_cells HL.out ha
      have hI0 : (0 : Int) ≤ (h : Int) := by omega
      have hI1 : (h : Int) < (L.length : Int) := by omega
      have HA : Hid (L[h]? = some a) := ha
      clear ha hh
      go_wp2_with fail
      refine (cmpLess_any a x _).mono ?_
      rintro e w' ⟨rfl, rfl⟩
      by_cases hax : a < x
      · have ta : decide (a < x) = true := by simp [hax]
        rw [ta]
        have hn : Hid ((∀ (q : Nat) v, q < h + 1 → L[q]? = some v → v < x) ∧ ∀ (q : Nat) v, j ≤ q → L[q]? = some v → x ≤ v) := ⟨fun q v hq hv => by have := HS.out q h v a (by omega) hv HA.out; omega, hN.out.2⟩
        clear hN ta hax
        go_wp2_with fail
        go_roundw
        case rel => exact ⟨h + 1, j, by omega, hjl, by go_num, rfl, trivial, hn⟩
        case measure => simp [intOf]; omega
      · have ta : decide (a < x) = false := by simp [hax]
        rw [ta]
        have hn : Hid ((∀ (q : Nat) v, q < i → L[q]? = some v → v < x) ∧ ∀ (q : Nat) v, h ≤ q → L[q]? = some v → x ≤ v) := ⟨hN.out.1, fun q v hq hv => by have := HS.out h q a v hq HA.out hv; omega⟩
        clear hN ta hax
        go_wp2_with fail
        go_roundw
        case rel => exact ⟨i, h, h1, by omega, rfl, rfl, trivial, hn⟩
        case measure => simp [intOf]; omega
    · have hij' : i = j := by omega
      subst hij'
      have HF : Hid (Fnd L x i) := ⟨hjl, hN.out.1, hN.out.2⟩
      by_cases hil : i < L.length
      · obtain ⟨a, ha⟩ := get_some hil
        obtain ⟨b, o, rfl, _, hp, e1⟩ := eInt_cells HL.out ha
        have iI0 : (0 : Int) ≤ (i : Int) := by omega
        have iI1 : (i : Int) < (L.length : Int) := by omega
        have HA : Hid (L[i]? = some a) := ha
        clear ha
        by_cases hax : a = x
        · have HB : Hid (true = decide (L[i]? = some x)) := by show _ = _; rw [HA.out, hax]; simp
          subst hax
          go_wp2_with fail
          refine bodyPost_ret (v := .tuple #[.int .i64 i, .bool true]) (by simp [results, Try.results85, go_sem]) rfl ⟨⟨i, by rw [← HB.out], HF.out⟩, rfl⟩
        · have HB : Hid (false = decide (L[i]? = some x)) := by show _ = _; rw [HA.out]; simp [hax]
          have tb : (a == x) = false := by simp [hax]
          clear hax
          go_wp2_with fail
          refine (slicesNaN_any a _).mono ?_
          rintro e w' ⟨rfl, rfl⟩
          go_wp2_with fail
          refine bodyPost_ret (v := .tuple #[.int .i64 i, .bool false]) (by simp [results, Try.results85, go_sem]) rfl ⟨⟨i, by rw [← HB.out], HF.out⟩, rfl⟩
      · have HB : Hid (false = decide (L[i]? = some x)) := by show _ = _; rw [List.getElem?_eq_none (by omega)]; simp
        go_wp2_with fail
        refine bodyPost_ret (v := .tuple #[.int .i64 i, .bool false]) (by simp [results, Try.results85, go_sem]) rfl ⟨⟨i, by rw [← HB.out], HF.out⟩, rfl⟩
end
section
open Go.RowKit Go.Maps Go.WideMaps
set_option linter.unusedVariables false
set_option linter.unusedSimpArgs false
set_option maxRecDepth 100000

/-- what a board leads to. -/
def celR (W : Wd) (f : E2 → Option E2) (e : E2) (comp : Int) (w' : World) (r : Ending) : Prop :=
  (f e = none ∧ r = .returned (.tuple #[.pointer none, .int .i64 2])) ∨
  (∃ (i j : Nat) (t : Tab), f e = some ((i : Int), (j : Int)) ∧ W.tabs[i]? = some t ∧ (¬ comp ∈ t.cols) ∧ r = .returned (.tuple #[.pointer none, .int .i64 4])) ∨
  (∃ (i j q : Nat) (t : Tab) (L : List V4) (v : V4) (vb vo : Nat), f e = some ((i : Int), (j : Int)) ∧ W.tabs[i]? = some t ∧ t.cols[q]? = some comp ∧ t.cells[q]? = some L ∧ L[j]? = some v ∧ r = .returned (.tuple #[.pointer (some ⟨vb, vo, none⟩), .int .i64 0]) ∧
    w'.cell? ⟨vb, vo, none⟩ = some (.int .i64 v.1) ∧ w'.cell? ⟨vb, vo + 1, none⟩ = some (.int .i64 v.2.1) ∧ w'.cell? ⟨vb, vo + 2, none⟩ = some (.float .f64 v.2.2.1) ∧ w'.cell? ⟨vb, vo + 3, none⟩ = some (.float .f64 v.2.2.2))

set_option maxHeartbeats 4000000 in
theorem cell_any (bb : Nat) (a1 a2 a3 a4 : Option Addr) (b1 b2 b3 b4 b n : Nat) (W : Wd) (f : E2 → Option E2) (e : E2) (comp : Int) (LV : List E2) (w : World) (hb : Blk w bb #[.slice a1 W.gens.length b1, .slice a2 W.free.length b2, .slice a3 W.tabs.length b3, .slice a4 W.res.length b4, .map (some b)] 93) (hW : InW w 0 a1 a2 a3 a4 W) (hk : kW W) (hM : SM w b n f) (hS : Std LV W.tabs (rowsOf W.tabs) f) (hlv : ∀ x, x ∈ LV → x ∈ rowsOf W.tabs) (be : bE e)
    (hs : ∀ t ∈ W.tabs, (∀ (p q : Nat) x y, p ≤ q → t.cols[p]? = some x → t.cols[q]? = some y → x ≤ y) ∧ t.cells.length = t.cols.length ∧ ∀ (q : Nat) L, t.cells[q]? = some L → L.length = t.rows.length) :
    Calls Try.prog 45 #[.pointer (some ⟨bb, 0, none⟩), .agg #[.int .i64 e.1, .int .i64 e.2], .int .i64 comp] w fun r w' => celR W f e comp w' r ∧ Below w.heap.size w w' := by
  have hal := alloc_old
  have haf := alloc_oldf
  have L0 : Below w.heap.size w (w.alloc (.cells #[.int .i64 e.1, .int .i64 e.2] 51)) := bl_alloc (Below.refl _ _) _
  obtain ⟨y0, y1, y2⟩ := (Blk.new w #[.int .i64 e.1, .int .i64 e.2] 51).two
  have KB : Hid (Blk (w.alloc (.cells #[.int .i64 e.1, .int .i64 e.2] 51)) bb #[.slice a1 W.gens.length b1, .slice a2 W.free.length b2, .slice a3 W.tabs.length b3, .slice a4 W.res.length b4, .map (some b)] 93) := hb.later L0
  have HM : Hid (SM (w.alloc (.cells #[.int .i64 e.1, .int .i64 e.2] 51)) b n f) := hM.later L0
  have HW : Hid (InW (w.alloc (.cells #[.int .i64 e.1, .int .i64 e.2] 51)) 0 a1 a2 a3 a4 W) := hW.later L0
  have HBE : Hid (bE e) := be
  have HS : Hid (Std LV W.tabs (rowsOf W.tabs) f ∧ ∀ x, x ∈ LV → x ∈ rowsOf W.tabs) := ⟨hS, hlv⟩
  have HT : Hid (∀ t ∈ W.tabs, (∀ (p q : Nat) x y, p ≤ q → t.cols[p]? = some x → t.cols[q]? = some y → x ≤ y) ∧ t.cells.length = t.cols.length ∧ ∀ (q : Nat) L, t.cells[q]? = some L → L.length = t.rows.length) := hs
  clear hb hM hW be hS hlv hs
  go_enter Try.func45, Try.ntmps45
  go_wp2_with fail
  generalize hX : w.alloc (.cells #[.int .i64 e.1, .int .i64 e.2] 51) = X at L0 y0 y1 KB HM HW ⊢
  clear hX
  have x4 := KB.out.cell 4
  have x2 := KB.out.cell 2
  by_cases hf : f e = none
  · have HF : Hid (f e = none) := hf
    have hlk : ∀ w2, Below X.heap.size X w2 → (Instr.lookup 89 (.map (some b)) (.agg #[.int .i64 e.1, .int .i64 e.2]) true).run Try.prog w2 = .ok (.tuple #[.agg #[.int .i64 0, .int .i64 0], .bool false]) w2 := by
      intro w2 h2
      have := (HM.out.later h2).look HBE.out
      rw [HF.out] at this
      simpa [stv] using this
    have HLK : Hid (∀ w2, Below X.heap.size X w2 → (Instr.lookup 89 (.map (some b)) (.agg #[.int .i64 e.1, .int .i64 e.2]) true).run Try.prog w2 = .ok (.tuple #[.agg #[.int .i64 0, .int .i64 0], .bool false]) w2) := hlk
    clear hlk hf
    refine wp_region_held_drew (S := (fun w' => w'.cell? ⟨bb, 4, none⟩ = some (.map (some b)) ∧ w'.cell? ⟨w.heap.size, 0, none⟩ = some (.int .i64 e.1) ∧ w'.cell? ⟨w.heap.size, 1, none⟩ = some (.int .i64 e.2) ∧ (Instr.lookup 89 (.map (some b)) (.agg #[.int .i64 e.1, .int .i64 e.2]) true).run Try.prog w' = .ok (.tuple #[.agg #[.int .i64 0, .int .i64 0], .bool false]) w')) (by kernel_rfl) ?_ (fun hHeld => ?_)
    · exact ⟨kcell (by (repeat (first | with_reducible exact Below.refl _ _ | with_reducible refine bl_alloc ?_ _ | with_reducible refine bl_drewN ?_ _ | with_reducible refine bl_drew ?_ | with_reducible refine bl_setCell ?_ (by first | exact Nat.le_refl _ | (dsimp only; omega) | (simp <;> omega)) _ | with_reducible refine bl_trans ?_ (by with_reducible assumption)))) x4, kcell (by (repeat (first | with_reducible exact Below.refl _ _ | with_reducible refine bl_alloc ?_ _ | with_reducible refine bl_drewN ?_ _ | with_reducible refine bl_drew ?_ | with_reducible refine bl_setCell ?_ (by first | exact Nat.le_refl _ | (dsimp only; omega) | (simp <;> omega)) _ | with_reducible refine bl_trans ?_ (by with_reducible assumption)))) y0, kcell (by (repeat (first | with_reducible exact Below.refl _ _ | with_reducible refine bl_alloc ?_ _ | with_reducible refine bl_drewN ?_ _ | with_reducible refine bl_drew ?_ | with_reducible refine bl_setCell ?_ (by first | exact Nat.le_refl _ | (dsimp only; omega) | (simp <;> omega)) _ | with_reducible refine bl_trans ?_ (by with_reducible assumption)))) y1, HLK.out _ (by (repeat (first | with_reducible exact Below.refl _ _ | with_reducible refine bl_alloc ?_ _ | with_reducible refine bl_drewN ?_ _ | with_reducible refine bl_drew ?_ | with_reducible refine bl_setCell ?_ (by first | exact Nat.le_refl _ | (dsimp only; omega) | (simp <;> omega)) _ | with_reducible refine bl_trans ?_ (by with_reducible assumption))))⟩
    refine wpAnyH_one (i := 0) (d := 14) (v := ?_) rfl rfl (by kernel_rfl) (by kernel_rfl) (by kernel_rfl) (fun _ _ _ h => h) (by rfl) (by assumption) ?_ ?_
    rotate_left 1
    · intro w hSw; (try dsimp only at hSw); go_simp <;> with_reducible rfl
    simp only [List.foldl, Act.put, List.setIfInBounds_toArray, List.set_cons_zero, List.set_cons_succ]
    refine wpAnyH_one (i := 1) (d := 15) (v := ?_) rfl rfl (by kernel_rfl) (by kernel_rfl) (by kernel_rfl) (fun _ _ _ h => h) (by rfl) (by assumption) ?_ ?_
    rotate_left 1
    · intro w hSw; (try dsimp only at hSw); go_simp <;> with_reducible rfl
    simp only [List.foldl, Act.put, List.setIfInBounds_toArray, List.set_cons_zero, List.set_cons_succ]
    refine wpAnyH_one (i := 2) (d := 16) (v := ?_) rfl rfl (by kernel_rfl) (by kernel_rfl) (by kernel_rfl) (fun _ _ _ h => h) (by rfl) (by assumption) ?_ ?_
    rotate_left 1
    · intro w hSw; (try dsimp only at hSw); go_simp <;> with_reducible rfl
    simp only [List.foldl, Act.put, List.setIfInBounds_toArray, List.set_cons_zero, List.set_cons_succ]
    refine wpAnyH_one (i := 3) (d := 17) (v := ?_) rfl rfl (by kernel_rfl) (by kernel_rfl) (by kernel_rfl) (fun _ _ _ h => h) (by rfl) (by assumption) ?_ ?_
    rotate_left 1
    · intro w hSw; (try dsimp only at hSw); go_simp <;> with_reducible rfl
    simp only [List.foldl, Act.put, List.setIfInBounds_toArray, List.set_cons_zero, List.set_cons_succ]
    refine wpAnyH_one (i := 4) (d := 18) (v := ?_) rfl rfl (by kernel_rfl) (by kernel_rfl) (by kernel_rfl) (fun _ _ _ h => h) (by rfl) (by assumption) ?_ ?_
    rotate_left 1
    · intro w hSw; (try dsimp only at hSw); go_simp <;> with_reducible rfl
    simp only [List.foldl, Act.put, List.setIfInBounds_toArray, List.set_cons_zero, List.set_cons_succ]
    refine wpAnyH_one (i := 5) (d := 19) (v := ?_) rfl rfl (by kernel_rfl) (by kernel_rfl) (by kernel_rfl) (fun _ _ _ h => h) (by rfl) (by assumption) ?_ ?_
    rotate_left 1
    · intro w hSw; (try dsimp only at hSw); go_simp <;> with_reducible rfl
    simp only [List.foldl, Act.put, List.setIfInBounds_toArray, List.set_cons_zero, List.set_cons_succ]
    refine wpAnyH_one (i := 6) (d := 13) (v := ?_) rfl rfl (by kernel_rfl) (by kernel_rfl) (by kernel_rfl) (fun _ _ _ h => h) (by rfl) (by assumption) ?_ ?_
    rotate_left 1
    · intro w hSw; (try dsimp only at hSw); go_simp <;> with_reducible rfl
    simp only [List.foldl, Act.put, List.setIfInBounds_toArray, List.set_cons_zero, List.set_cons_succ]
    refine wpAnyH_one (i := 7) (d := 20) (v := ?_) rfl rfl (by kernel_rfl) (by kernel_rfl) (by kernel_rfl) (fun _ _ _ h => h) (by rfl) (by assumption) ?_ ?_
    rotate_left 1
    · intro w hSw; (try dsimp only at hSw); go_simp <;> with_reducible rfl
    simp only [List.foldl, Act.put, List.setIfInBounds_toArray, List.set_cons_zero, List.set_cons_succ]
    refine wpAnyH_one (i := 8) (d := 21) (v := ?_) rfl rfl (by kernel_rfl) (by kernel_rfl) (by kernel_rfl) (fun _ _ _ h => h) (by rfl) (by assumption) ?_ ?_
    rotate_left 1
    · intro w hSw; (try dsimp only at hSw); go_simp <;> with_reducible rfl
    simp only [List.foldl, Act.put, List.setIfInBounds_toArray, List.set_cons_zero, List.set_cons_succ]
    refine wpAnyH_ready (rs := [9]) (by kernel_rfl) (by simp) ?_
    refine AllReadyH.cons rfl (fun K hK => ?_) AllReadyH.nil
    go_simp
    refine hK.out _ _ ?_ (fun hHeld => ?_)
    · exact ⟨kcell (by (repeat (first | with_reducible exact Below.refl _ _ | with_reducible refine bl_alloc ?_ _ | with_reducible refine bl_drewN ?_ _ | with_reducible refine bl_drew ?_ | with_reducible refine bl_setCell ?_ (by first | exact Nat.le_refl _ | (dsimp only; omega) | (simp <;> omega)) _ | with_reducible refine bl_trans ?_ (by with_reducible assumption)))) x4, kcell (by (repeat (first | with_reducible exact Below.refl _ _ | with_reducible refine bl_alloc ?_ _ | with_reducible refine bl_drewN ?_ _ | with_reducible refine bl_drew ?_ | with_reducible refine bl_setCell ?_ (by first | exact Nat.le_refl _ | (dsimp only; omega) | (simp <;> omega)) _ | with_reducible refine bl_trans ?_ (by with_reducible assumption)))) y0, kcell (by (repeat (first | with_reducible exact Below.refl _ _ | with_reducible refine bl_alloc ?_ _ | with_reducible refine bl_drewN ?_ _ | with_reducible refine bl_drew ?_ | with_reducible refine bl_setCell ?_ (by first | exact Nat.le_refl _ | (dsimp only; omega) | (simp <;> omega)) _ | with_reducible refine bl_trans ?_ (by with_reducible assumption)))) y1, HLK.out _ (by (repeat (first | with_reducible exact Below.refl _ _ | with_reducible refine bl_alloc ?_ _ | with_reducible refine bl_drewN ?_ _ | with_reducible refine bl_drew ?_ | with_reducible refine bl_setCell ?_ (by first | exact Nat.le_refl _ | (dsimp only; omega) | (simp <;> omega)) _ | with_reducible refine bl_trans ?_ (by with_reducible assumption))))⟩
    clear hK K
    try simp only [List.foldl, Act.put, List.setIfInBounds_toArray, List.set_cons_zero, List.set_cons_succ]
    refine wpAnyH_ready (rs := [10]) (by kernel_rfl) (by simp) ?_
    refine AllReadyH.cons rfl (fun K hK => ?_) AllReadyH.nil
    go_simp
    refine hK.out _ _ ?_ (fun hHeld => ?_)
    · exact ⟨kcell (by (repeat (first | with_reducible exact Below.refl _ _ | with_reducible refine bl_alloc ?_ _ | with_reducible refine bl_drewN ?_ _ | with_reducible refine bl_drew ?_ | with_reducible refine bl_setCell ?_ (by first | exact Nat.le_refl _ | (dsimp only; omega) | (simp <;> omega)) _ | with_reducible refine bl_trans ?_ (by with_reducible assumption)))) x4, kcell (by (repeat (first | with_reducible exact Below.refl _ _ | with_reducible refine bl_alloc ?_ _ | with_reducible refine bl_drewN ?_ _ | with_reducible refine bl_drew ?_ | with_reducible refine bl_setCell ?_ (by first | exact Nat.le_refl _ | (dsimp only; omega) | (simp <;> omega)) _ | with_reducible refine bl_trans ?_ (by with_reducible assumption)))) y0, kcell (by (repeat (first | with_reducible exact Below.refl _ _ | with_reducible refine bl_alloc ?_ _ | with_reducible refine bl_drewN ?_ _ | with_reducible refine bl_drew ?_ | with_reducible refine bl_setCell ?_ (by first | exact Nat.le_refl _ | (dsimp only; omega) | (simp <;> omega)) _ | with_reducible refine bl_trans ?_ (by with_reducible assumption)))) y1, HLK.out _ (by (repeat (first | with_reducible exact Below.refl _ _ | with_reducible refine bl_alloc ?_ _ | with_reducible refine bl_drewN ?_ _ | with_reducible refine bl_drew ?_ | with_reducible refine bl_setCell ?_ (by first | exact Nat.le_refl _ | (dsimp only; omega) | (simp <;> omega)) _ | with_reducible refine bl_trans ?_ (by with_reducible assumption))))⟩
    clear hK K
    try simp only [List.foldl, Act.put, List.setIfInBounds_toArray, List.set_cons_zero, List.set_cons_succ]
    refine wpAnyH_one (i := 11) (d := 9) (v := ?_) rfl rfl (by kernel_rfl) (by kernel_rfl) (by kernel_rfl) (fun _ _ _ h => h) (by rfl) (by assumption) ?_ ?_
    rotate_left 1
    · intro w hSw; (try dsimp only at hSw); go_simp <;> with_reducible rfl
    simp only [List.foldl, Act.put, List.setIfInBounds_toArray, List.set_cons_zero, List.set_cons_succ]
    refine wpAnyH_done (by kernel_rfl) ?_ _
    have LF : Hid (Below w.heap.size w (X.alloc (.cells #[.int .i64 0, .int .i64 0] 150)).drew) := bl_drew (bl_alloc L0 _)
    go_wp2_with fail
    refine bodyPost_ret (v := .tuple #[.pointer none, .int .i64 2]) (by simp [results, Try.results45, go_sem]) rfl ⟨Or.inl ⟨HF.out, rfl⟩, LF.out⟩
  · have hin : e ∈ LV := by
      by_cases h : e ∈ LV
      · exact h
      · exact absurd (HS.out.1.out e h) hf
    obtain ⟨sp, hf1, i, j, t, rfl, ht, hx⟩ := HS.out.1.taken e (HS.out.2 e hin)
    have HF : Hid (f e = some ((i : Int), (j : Int))) := hf1
    have HTi : Hid (W.tabs[i]? = some t) := ht
    have HXj : Hid (t.rows[j]? = some e) := hx
    have HLK : Hid (∀ w2, Below X.heap.size X w2 → (Instr.lookup 89 (.map (some b)) (.agg #[.int .i64 e.1, .int .i64 e.2]) true).run Try.prog w2 = .ok (.tuple #[.agg #[.int .i64 (i : Int), .int .i64 (j : Int)], .bool true]) w2) := by
      intro w2 h2
      have := (HM.out.later h2).look HBE.out
      rw [HF.out] at this
      simpa [stv] using this
    clear hf hf1 hin ht hx
    refine wp_region_held_drew (S := (fun w' => w'.cell? ⟨bb, 4, none⟩ = some (.map (some b)) ∧ w'.cell? ⟨w.heap.size, 0, none⟩ = some (.int .i64 e.1) ∧ w'.cell? ⟨w.heap.size, 1, none⟩ = some (.int .i64 e.2) ∧ (Instr.lookup 89 (.map (some b)) (.agg #[.int .i64 e.1, .int .i64 e.2]) true).run Try.prog w' = .ok (.tuple #[.agg #[.int .i64 (i : Int), .int .i64 (j : Int)], .bool true]) w')) (by kernel_rfl) ?_ (fun hHeld => ?_)
    · exact ⟨kcell (by (repeat (first | with_reducible exact Below.refl _ _ | with_reducible refine bl_alloc ?_ _ | with_reducible refine bl_drewN ?_ _ | with_reducible refine bl_drew ?_ | with_reducible refine bl_setCell ?_ (by first | exact Nat.le_refl _ | (dsimp only; omega) | (simp <;> omega)) _ | with_reducible refine bl_trans ?_ (by with_reducible assumption)))) x4, kcell (by (repeat (first | with_reducible exact Below.refl _ _ | with_reducible refine bl_alloc ?_ _ | with_reducible refine bl_drewN ?_ _ | with_reducible refine bl_drew ?_ | with_reducible refine bl_setCell ?_ (by first | exact Nat.le_refl _ | (dsimp only; omega) | (simp <;> omega)) _ | with_reducible refine bl_trans ?_ (by with_reducible assumption)))) y0, kcell (by (repeat (first | with_reducible exact Below.refl _ _ | with_reducible refine bl_alloc ?_ _ | with_reducible refine bl_drewN ?_ _ | with_reducible refine bl_drew ?_ | with_reducible refine bl_setCell ?_ (by first | exact Nat.le_refl _ | (dsimp only; omega) | (simp <;> omega)) _ | with_reducible refine bl_trans ?_ (by with_reducible assumption)))) y1, HLK.out _ (by (repeat (first | with_reducible exact Below.refl _ _ | with_reducible refine bl_alloc ?_ _ | with_reducible refine bl_drewN ?_ _ | with_reducible refine bl_drew ?_ | with_reducible refine bl_setCell ?_ (by first | exact Nat.le_refl _ | (dsimp only; omega) | (simp <;> omega)) _ | with_reducible refine bl_trans ?_ (by with_reducible assumption))))⟩
    refine wpAnyH_one (i := 0) (d := 14) (v := ?_) rfl rfl (by kernel_rfl) (by kernel_rfl) (by kernel_rfl) (fun _ _ _ h => h) (by rfl) (by assumption) ?_ ?_
    rotate_left 1
    · intro w hSw; (try dsimp only at hSw); go_simp <;> with_reducible rfl
    simp only [List.foldl, Act.put, List.setIfInBounds_toArray, List.set_cons_zero, List.set_cons_succ]
    refine wpAnyH_one (i := 1) (d := 15) (v := ?_) rfl rfl (by kernel_rfl) (by kernel_rfl) (by kernel_rfl) (fun _ _ _ h => h) (by rfl) (by assumption) ?_ ?_
    rotate_left 1
    · intro w hSw; (try dsimp only at hSw); go_simp <;> with_reducible rfl
    simp only [List.foldl, Act.put, List.setIfInBounds_toArray, List.set_cons_zero, List.set_cons_succ]
    refine wpAnyH_one (i := 2) (d := 16) (v := ?_) rfl rfl (by kernel_rfl) (by kernel_rfl) (by kernel_rfl) (fun _ _ _ h => h) (by rfl) (by assumption) ?_ ?_
    rotate_left 1
    · intro w hSw; (try dsimp only at hSw); go_simp <;> with_reducible rfl
    simp only [List.foldl, Act.put, List.setIfInBounds_toArray, List.set_cons_zero, List.set_cons_succ]
    refine wpAnyH_one (i := 3) (d := 17) (v := ?_) rfl rfl (by kernel_rfl) (by kernel_rfl) (by kernel_rfl) (fun _ _ _ h => h) (by rfl) (by assumption) ?_ ?_
    rotate_left 1
    · intro w hSw; (try dsimp only at hSw); go_simp <;> with_reducible rfl
    simp only [List.foldl, Act.put, List.setIfInBounds_toArray, List.set_cons_zero, List.set_cons_succ]
    refine wpAnyH_one (i := 4) (d := 18) (v := ?_) rfl rfl (by kernel_rfl) (by kernel_rfl) (by kernel_rfl) (fun _ _ _ h => h) (by rfl) (by assumption) ?_ ?_
    rotate_left 1
    · intro w hSw; (try dsimp only at hSw); go_simp <;> with_reducible rfl
    simp only [List.foldl, Act.put, List.setIfInBounds_toArray, List.set_cons_zero, List.set_cons_succ]
    refine wpAnyH_one (i := 5) (d := 19) (v := ?_) rfl rfl (by kernel_rfl) (by kernel_rfl) (by kernel_rfl) (fun _ _ _ h => h) (by rfl) (by assumption) ?_ ?_
    rotate_left 1
    · intro w hSw; (try dsimp only at hSw); go_simp <;> with_reducible rfl
    simp only [List.foldl, Act.put, List.setIfInBounds_toArray, List.set_cons_zero, List.set_cons_succ]
    refine wpAnyH_one (i := 6) (d := 13) (v := ?_) rfl rfl (by kernel_rfl) (by kernel_rfl) (by kernel_rfl) (fun _ _ _ h => h) (by rfl) (by assumption) ?_ ?_
    rotate_left 1
    · intro w hSw; (try dsimp only at hSw); go_simp <;> with_reducible rfl
    simp only [List.foldl, Act.put, List.setIfInBounds_toArray, List.set_cons_zero, List.set_cons_succ]
    refine wpAnyH_one (i := 7) (d := 20) (v := ?_) rfl rfl (by kernel_rfl) (by kernel_rfl) (by kernel_rfl) (fun _ _ _ h => h) (by rfl) (by assumption) ?_ ?_
    rotate_left 1
    · intro w hSw; (try dsimp only at hSw); go_simp <;> with_reducible rfl
    simp only [List.foldl, Act.put, List.setIfInBounds_toArray, List.set_cons_zero, List.set_cons_succ]
    refine wpAnyH_one (i := 8) (d := 21) (v := ?_) rfl rfl (by kernel_rfl) (by kernel_rfl) (by kernel_rfl) (fun _ _ _ h => h) (by rfl) (by assumption) ?_ ?_
    rotate_left 1
    · intro w hSw; (try dsimp only at hSw); go_simp <;> with_reducible rfl
    simp only [List.foldl, Act.put, List.setIfInBounds_toArray, List.set_cons_zero, List.set_cons_succ]
    refine wpAnyH_ready (rs := [9]) (by kernel_rfl) (by simp) ?_
    refine AllReadyH.cons rfl (fun K hK => ?_) AllReadyH.nil
    go_simp
    refine hK.out _ _ ?_ (fun hHeld => ?_)
    · exact ⟨kcell (by (repeat (first | with_reducible exact Below.refl _ _ | with_reducible refine bl_alloc ?_ _ | with_reducible refine bl_drewN ?_ _ | with_reducible refine bl_drew ?_ | with_reducible refine bl_setCell ?_ (by first | exact Nat.le_refl _ | (dsimp only; omega) | (simp <;> omega)) _ | with_reducible refine bl_trans ?_ (by with_reducible assumption)))) x4, kcell (by (repeat (first | with_reducible exact Below.refl _ _ | with_reducible refine bl_alloc ?_ _ | with_reducible refine bl_drewN ?_ _ | with_reducible refine bl_drew ?_ | with_reducible refine bl_setCell ?_ (by first | exact Nat.le_refl _ | (dsimp only; omega) | (simp <;> omega)) _ | with_reducible refine bl_trans ?_ (by with_reducible assumption)))) y0, kcell (by (repeat (first | with_reducible exact Below.refl _ _ | with_reducible refine bl_alloc ?_ _ | with_reducible refine bl_drewN ?_ _ | with_reducible refine bl_drew ?_ | with_reducible refine bl_setCell ?_ (by first | exact Nat.le_refl _ | (dsimp only; omega) | (simp <;> omega)) _ | with_reducible refine bl_trans ?_ (by with_reducible assumption)))) y1, HLK.out _ (by (repeat (first | with_reducible exact Below.refl _ _ | with_reducible refine bl_alloc ?_ _ | with_reducible refine bl_drewN ?_ _ | with_reducible refine bl_drew ?_ | with_reducible refine bl_setCell ?_ (by first | exact Nat.le_refl _ | (dsimp only; omega) | (simp <;> omega)) _ | with_reducible refine bl_trans ?_ (by with_reducible assumption))))⟩
    clear hK K
    try simp only [List.foldl, Act.put, List.setIfInBounds_toArray, List.set_cons_zero, List.set_cons_succ]
    refine wpAnyH_ready (rs := [10]) (by kernel_rfl) (by simp) ?_
    refine AllReadyH.cons rfl (fun K hK => ?_) AllReadyH.nil
    go_simp
    refine hK.out _ _ ?_ (fun hHeld => ?_)
    · exact ⟨kcell (by (repeat (first | with_reducible exact Below.refl _ _ | with_reducible refine bl_alloc ?_ _ | with_reducible refine bl_drewN ?_ _ | with_reducible refine bl_drew ?_ | with_reducible refine bl_setCell ?_ (by first | exact Nat.le_refl _ | (dsimp only; omega) | (simp <;> omega)) _ | with_reducible refine bl_trans ?_ (by with_reducible assumption)))) x4, kcell (by (repeat (first | with_reducible exact Below.refl _ _ | with_reducible refine bl_alloc ?_ _ | with_reducible refine bl_drewN ?_ _ | with_reducible refine bl_drew ?_ | with_reducible refine bl_setCell ?_ (by first | exact Nat.le_refl _ | (dsimp only; omega) | (simp <;> omega)) _ | with_reducible refine bl_trans ?_ (by with_reducible assumption)))) y0, kcell (by (repeat (first | with_reducible exact Below.refl _ _ | with_reducible refine bl_alloc ?_ _ | with_reducible refine bl_drewN ?_ _ | with_reducible refine bl_drew ?_ | with_reducible refine bl_setCell ?_ (by first | exact Nat.le_refl _ | (dsimp only; omega) | (simp <;> omega)) _ | with_reducible refine bl_trans ?_ (by with_reducible assumption)))) y1, HLK.out _ (by (repeat (first | with_reducible exact Below.refl _ _ | with_reducible refine bl_alloc ?_ _ | with_reducible refine bl_drewN ?_ _ | with_reducible refine bl_drew ?_ | with_reducible refine bl_setCell ?_ (by first | exact Nat.le_refl _ | (dsimp only; omega) | (simp <;> omega)) _ | with_reducible refine bl_trans ?_ (by with_reducible assumption))))⟩
    clear hK K
    try simp only [List.foldl, Act.put, List.setIfInBounds_toArray, List.set_cons_zero, List.set_cons_succ]
    refine wpAnyH_one (i := 11) (d := 9) (v := ?_) rfl rfl (by kernel_rfl) (by kernel_rfl) (by kernel_rfl) (fun _ _ _ h => h) (by rfl) (by assumption) ?_ ?_
    rotate_left 1
    · intro w hSw; (try dsimp only at hSw); go_simp <;> with_reducible rfl
    simp only [List.foldl, Act.put, List.setIfInBounds_toArray, List.set_cons_zero, List.set_cons_succ]
    refine wpAnyH_done (by kernel_rfl) ?_ _
    have KS := (Blk.new X #[.int .i64 (i : Int), .int .i64 (j : Int)] 150)
    have hY1 : Below X.heap.size X (X.alloc (.cells #[.int .i64 (i : Int), .int .i64 (j : Int)] 150)).drew := bl_drew (bl_alloc (Below.refl _ _) _)
    have LY : Hid (Below w.heap.size w (X.alloc (.cells #[.int .i64 (i : Int), .int .i64 (j : Int)] 150)).drew) := bl_trans L0 hY1
    have HWY : Hid (InW (X.alloc (.cells #[.int .i64 (i : Int), .int .i64 (j : Int)] 150)).drew 0 a1 a2 a3 a4 W) := HW.out.later hY1
    have KSY : Hid (Blk (X.alloc (.cells #[.int .i64 (i : Int), .int .i64 (j : Int)] 150)).drew X.heap.size #[.int .i64 (i : Int), .int .i64 (j : Int)] 150) := KS.later (bl_drew (Below.refl _ _))
    have KBY : Hid (Blk (X.alloc (.cells #[.int .i64 (i : Int), .int .i64 (j : Int)] 150)).drew bb #[.slice a1 W.gens.length b1, .slice a2 W.free.length b2, .slice a3 W.tabs.length b3, .slice a4 W.res.length b4, .map (some b)] 93) := KB.out.later hY1
    generalize hYe : (X.alloc (.cells #[.int .i64 (i : Int), .int .i64 (j : Int)] 150)).drew = Y at LY HWY KSY KBY ⊢
    obtain ⟨sb, hsb⟩ : ∃ sb, X.heap.size = sb := ⟨_, rfl⟩
    rw [hsb] at KSY ⊢
    clear hYe hsb KS hY1 HLK hHeld HM HW KB L0 y0 y1 x4 x2
    obtain ⟨tb, tq, ea3, _, hpt, t1, d1, t2, d2, t3, d3, z0, z1, z2, f1, f2, f3⟩ := eTab_cells HWY.out.t HTi.out
    subst ea3
    have hit : i < W.tabs.length := (List.getElem?_eq_some_iff.1 HTi.out).1
    have htm := List.mem_of_getElem? HTi.out
    have htt := HT.out t htm
    have hkt := hk.2.2.1.2 t htm
    have hkl := hk.2.2.1.1
    have s0 := KSY.out.cell 0
    have s1 := KSY.out.cell 1
    have x2 := KBY.out.cell 2
    have iI0 : (0 : Int) ≤ (i : Int) := by omega
    have iI1 : (i : Int) < (W.tabs.length : Int) := by omega
    have F1 : Hid (Els 1 cInt Y 0 t1 t.cols) := f1
    have F3 : Hid (Els 1 cVals Y 0 t3 t.cells) := f3
    have HTT : Hid ((∀ (p q : Nat) x y, p ≤ q → t.cols[p]? = some x → t.cols[q]? = some y → x ≤ y) ∧ t.cells.length = t.cols.length ∧ ∀ (q : Nat) L, t.cells[q]? = some L → L.length = t.rows.length) := htt
    have kt1 := hkt.1
    have kt2 := hkt.2.1
    have KT3 : Hid (kLL t.cells) := hkt.2.2
    clear f1 f2 f3 htm htt hkt hk
    go_wp2_with fail
    refine wp_region_held_drew (S := (fun w' => w'.cell? ⟨bb, 2, none⟩ = some (.slice (some ⟨tb, tq, none⟩) W.tabs.length b3) ∧ w'.cell? ⟨sb, 0, none⟩ = some (.int .i64 (i : Int)) ∧ w'.cell? ⟨tb, tq + i * 3, none⟩ = some (.slice t1 t.cols.length d1) ∧ w'.cell? ⟨tb, tq + i * 3 + 1, none⟩ = some (.slice t2 t.rows.length d2) ∧ w'.cell? ⟨tb, tq + i * 3 + 2, none⟩ = some (.slice t3 t.cells.length d3))) (by kernel_rfl) ?_ (fun hHeld => ?_)
    · exact ⟨kcell (by (repeat (first | with_reducible exact Below.refl _ _ | with_reducible refine bl_alloc ?_ _ | with_reducible refine bl_drewN ?_ _ | with_reducible refine bl_drew ?_ | with_reducible refine bl_setCell ?_ (by first | exact Nat.le_refl _ | (dsimp only; omega) | (simp <;> omega)) _ | with_reducible refine bl_trans ?_ (by with_reducible assumption)))) x2, kcell (by (repeat (first | with_reducible exact Below.refl _ _ | with_reducible refine bl_alloc ?_ _ | with_reducible refine bl_drewN ?_ _ | with_reducible refine bl_drew ?_ | with_reducible refine bl_setCell ?_ (by first | exact Nat.le_refl _ | (dsimp only; omega) | (simp <;> omega)) _ | with_reducible refine bl_trans ?_ (by with_reducible assumption)))) s0, kcell (by (repeat (first | with_reducible exact Below.refl _ _ | with_reducible refine bl_alloc ?_ _ | with_reducible refine bl_drewN ?_ _ | with_reducible refine bl_drew ?_ | with_reducible refine bl_setCell ?_ (by first | exact Nat.le_refl _ | (dsimp only; omega) | (simp <;> omega)) _ | with_reducible refine bl_trans ?_ (by with_reducible assumption)))) z0, kcell (by (repeat (first | with_reducible exact Below.refl _ _ | with_reducible refine bl_alloc ?_ _ | with_reducible refine bl_drewN ?_ _ | with_reducible refine bl_drew ?_ | with_reducible refine bl_setCell ?_ (by first | exact Nat.le_refl _ | (dsimp only; omega) | (simp <;> omega)) _ | with_reducible refine bl_trans ?_ (by with_reducible assumption)))) z1, kcell (by (repeat (first | with_reducible exact Below.refl _ _ | with_reducible refine bl_alloc ?_ _ | with_reducible refine bl_drewN ?_ _ | with_reducible refine bl_drew ?_ | with_reducible refine bl_setCell ?_ (by first | exact Nat.le_refl _ | (dsimp only; omega) | (simp <;> omega)) _ | with_reducible refine bl_trans ?_ (by with_reducible assumption)))) z2⟩
    refine wpAnyH_one (i := 0) (d := 24) (v := ?_) rfl rfl (by kernel_rfl) (by kernel_rfl) (by kernel_rfl) (fun _ _ _ h => h) (by rfl) (by assumption) ?_ ?_
    rotate_left 1
    · intro w hSw; (try dsimp only at hSw); go_simp <;> with_reducible rfl
    simp only [List.foldl, Act.put, List.setIfInBounds_toArray, List.set_cons_zero, List.set_cons_succ]
    refine wpAnyH_one (i := 1) (d := 25) (v := ?_) rfl rfl (by kernel_rfl) (by kernel_rfl) (by kernel_rfl) (fun _ _ _ h => h) (by rfl) (by assumption) ?_ ?_
    rotate_left 1
    · intro w hSw; (try dsimp only at hSw); go_simp <;> with_reducible rfl
    simp only [List.foldl, Act.put, List.setIfInBounds_toArray, List.set_cons_zero, List.set_cons_succ]
    refine wpAnyH_one (i := 2) (d := 26) (v := ?_) rfl rfl (by kernel_rfl) (by kernel_rfl) (by kernel_rfl) (fun _ _ _ h => h) (by rfl) (by assumption) ?_ ?_
    rotate_left 1
    · intro w hSw; (try dsimp only at hSw); go_simp <;> with_reducible rfl
    simp only [List.foldl, Act.put, List.setIfInBounds_toArray, List.set_cons_zero, List.set_cons_succ]
    refine wpAnyH_one (i := 3) (d := 27) (v := ?_) rfl rfl (by kernel_rfl) (by kernel_rfl) (by kernel_rfl) (fun _ _ _ h => h) (by rfl) (by assumption) ?_ ?_
    rotate_left 1
    · intro w hSw; (try dsimp only at hSw); go_simp <;> with_reducible rfl
    simp only [List.foldl, Act.put, List.setIfInBounds_toArray, List.set_cons_zero, List.set_cons_succ]
    refine wpAnyH_one (i := 4) (d := 28) (v := ?_) rfl rfl (by kernel_rfl) (by kernel_rfl) (by kernel_rfl) (fun _ _ _ h => h) (by rfl) (by assumption) ?_ ?_
    rotate_left 1
    · intro w hSw; (try dsimp only at hSw); go_simp <;> with_reducible rfl
    simp only [List.foldl, Act.put, List.setIfInBounds_toArray, List.set_cons_zero, List.set_cons_succ]
    refine wpAnyH_one (i := 5) (d := 29) (v := ?_) rfl rfl (by kernel_rfl) (by kernel_rfl) (by kernel_rfl) (fun _ _ _ h => h) (by rfl) (by assumption) ?_ ?_
    rotate_left 1
    · intro w hSw; (try dsimp only at hSw); go_simp <;> with_reducible rfl
    simp only [List.foldl, Act.put, List.setIfInBounds_toArray, List.set_cons_zero, List.set_cons_succ]
    refine wpAnyH_one (i := 6) (d := 30) (v := ?_) rfl rfl (by kernel_rfl) (by kernel_rfl) (by kernel_rfl) (fun _ _ _ h => h) (by rfl) (by assumption) ?_ ?_
    rotate_left 1
    · intro w hSw; (try dsimp only at hSw); go_simp <;> with_reducible rfl
    simp only [List.foldl, Act.put, List.setIfInBounds_toArray, List.set_cons_zero, List.set_cons_succ]
    refine wpAnyH_one (i := 7) (d := 31) (v := ?_) rfl rfl (by kernel_rfl) (by kernel_rfl) (by kernel_rfl) (fun _ _ _ h => h) (by rfl) (by assumption) ?_ ?_
    rotate_left 1
    · intro w hSw; (try dsimp only at hSw); go_simp <;> with_reducible rfl
    simp only [List.foldl, Act.put, List.setIfInBounds_toArray, List.set_cons_zero, List.set_cons_succ]
    refine wpAnyH_one (i := 8) (d := 32) (v := ?_) rfl rfl (by kernel_rfl) (by kernel_rfl) (by kernel_rfl) (fun _ _ _ h => h) (by rfl) (by assumption) ?_ ?_
    rotate_left 1
    · intro w hSw; (try dsimp only at hSw); go_simp <;> with_reducible rfl
    simp only [List.foldl, Act.put, List.setIfInBounds_toArray, List.set_cons_zero, List.set_cons_succ]
    refine wpAnyH_ready (rs := [9]) (by kernel_rfl) (by simp) ?_
    refine AllReadyH.cons rfl (fun K hK => ?_) AllReadyH.nil
    go_simp
    refine hK.out _ _ ?_ (fun hHeld => ?_)
    · exact ⟨kcell (by (repeat (first | with_reducible exact Below.refl _ _ | with_reducible refine bl_alloc ?_ _ | with_reducible refine bl_drewN ?_ _ | with_reducible refine bl_drew ?_ | with_reducible refine bl_setCell ?_ (by first | exact Nat.le_refl _ | (dsimp only; omega) | (simp <;> omega)) _ | with_reducible refine bl_trans ?_ (by with_reducible assumption)))) x2, kcell (by (repeat (first | with_reducible exact Below.refl _ _ | with_reducible refine bl_alloc ?_ _ | with_reducible refine bl_drewN ?_ _ | with_reducible refine bl_drew ?_ | with_reducible refine bl_setCell ?_ (by first | exact Nat.le_refl _ | (dsimp only; omega) | (simp <;> omega)) _ | with_reducible refine bl_trans ?_ (by with_reducible assumption)))) s0, kcell (by (repeat (first | with_reducible exact Below.refl _ _ | with_reducible refine bl_alloc ?_ _ | with_reducible refine bl_drewN ?_ _ | with_reducible refine bl_drew ?_ | with_reducible refine bl_setCell ?_ (by first | exact Nat.le_refl _ | (dsimp only; omega) | (simp <;> omega)) _ | with_reducible refine bl_trans ?_ (by with_reducible assumption)))) z0, kcell (by (repeat (first | with_reducible exact Below.refl _ _ | with_reducible refine bl_alloc ?_ _ | with_reducible refine bl_drewN ?_ _ | with_reducible refine bl_drew ?_ | with_reducible refine bl_setCell ?_ (by first | exact Nat.le_refl _ | (dsimp only; omega) | (simp <;> omega)) _ | with_reducible refine bl_trans ?_ (by with_reducible assumption)))) z1, kcell (by (repeat (first | with_reducible exact Below.refl _ _ | with_reducible refine bl_alloc ?_ _ | with_reducible refine bl_drewN ?_ _ | with_reducible refine bl_drew ?_ | with_reducible refine bl_setCell ?_ (by first | exact Nat.le_refl _ | (dsimp only; omega) | (simp <;> omega)) _ | with_reducible refine bl_trans ?_ (by with_reducible assumption)))) z2⟩
    clear hK K
    try simp only [List.foldl, Act.put, List.setIfInBounds_toArray, List.set_cons_zero, List.set_cons_succ]
    refine wpAnyH_ready (rs := [10]) (by kernel_rfl) (by simp) ?_
    refine AllReadyH.cons rfl (fun K hK => ?_) AllReadyH.nil
    go_simp
    refine hK.out _ _ ?_ (fun hHeld => ?_)
    · exact ⟨kcell (by (repeat (first | with_reducible exact Below.refl _ _ | with_reducible refine bl_alloc ?_ _ | with_reducible refine bl_drewN ?_ _ | with_reducible refine bl_drew ?_ | with_reducible refine bl_setCell ?_ (by first | exact Nat.le_refl _ | (dsimp only; omega) | (simp <;> omega)) _ | with_reducible refine bl_trans ?_ (by with_reducible assumption)))) x2, kcell (by (repeat (first | with_reducible exact Below.refl _ _ | with_reducible refine bl_alloc ?_ _ | with_reducible refine bl_drewN ?_ _ | with_reducible refine bl_drew ?_ | with_reducible refine bl_setCell ?_ (by first | exact Nat.le_refl _ | (dsimp only; omega) | (simp <;> omega)) _ | with_reducible refine bl_trans ?_ (by with_reducible assumption)))) s0, kcell (by (repeat (first | with_reducible exact Below.refl _ _ | with_reducible refine bl_alloc ?_ _ | with_reducible refine bl_drewN ?_ _ | with_reducible refine bl_drew ?_ | with_reducible refine bl_setCell ?_ (by first | exact Nat.le_refl _ | (dsimp only; omega) | (simp <;> omega)) _ | with_reducible refine bl_trans ?_ (by with_reducible assumption)))) z0, kcell (by (repeat (first | with_reducible exact Below.refl _ _ | with_reducible refine bl_alloc ?_ _ | with_reducible refine bl_drewN ?_ _ | with_reducible refine bl_drew ?_ | with_reducible refine bl_setCell ?_ (by first | exact Nat.le_refl _ | (dsimp only; omega) | (simp <;> omega)) _ | with_reducible refine bl_trans ?_ (by with_reducible assumption)))) z1, kcell (by (repeat (first | with_reducible exact Below.refl _ _ | with_reducible refine bl_alloc ?_ _ | with_reducible refine bl_drewN ?_ _ | with_reducible refine bl_drew ?_ | with_reducible refine bl_setCell ?_ (by first | exact Nat.le_refl _ | (dsimp only; omega) | (simp <;> omega)) _ | with_reducible refine bl_trans ?_ (by with_reducible assumption)))) z2⟩
    clear hK K
    try simp only [List.foldl, Act.put, List.setIfInBounds_toArray, List.set_cons_zero, List.set_cons_succ]
    refine wpAnyH_done (by kernel_rfl) ?_ _
    have hZ1 : Below Y.heap.size Y (Y.alloc (.cells #[.slice t1 t.cols.length d1, .slice t2 t.rows.length d2, .slice t3 t.cells.length d3] 84)).drew := bl_drew (bl_alloc (Below.refl _ _) _)
    have LZ : Hid (Below w.heap.size w (Y.alloc (.cells #[.slice t1 t.cols.length d1, .slice t2 t.rows.length d2, .slice t3 t.cells.length d3] 84)).drew) := bl_trans LY.out hZ1
    have KTZ : Hid (Blk (Y.alloc (.cells #[.slice t1 t.cols.length d1, .slice t2 t.rows.length d2, .slice t3 t.cells.length d3] 84)).drew Y.heap.size #[.slice t1 t.cols.length d1, .slice t2 t.rows.length d2, .slice t3 t.cells.length d3] 84) := (Blk.new Y _ _).later (bl_drew (Below.refl _ _))
    have KSZ : Hid (Blk (Y.alloc (.cells #[.slice t1 t.cols.length d1, .slice t2 t.rows.length d2, .slice t3 t.cells.length d3] 84)).drew sb #[.int .i64 (i : Int), .int .i64 (j : Int)] 150) := KSY.out.later hZ1
    have G1 : Hid (Els 1 cInt (Y.alloc (.cells #[.slice t1 t.cols.length d1, .slice t2 t.rows.length d2, .slice t3 t.cells.length d3] 84)).drew 0 t1 t.cols) := F1.out.later cInt_keeps hZ1
    have G3 : Hid (Els 1 cVals (Y.alloc (.cells #[.slice t1 t.cols.length d1, .slice t2 t.rows.length d2, .slice t3 t.cells.length d3] 84)).drew 0 t3 t.cells) := F3.out.later cVals_keeps hZ1
    generalize hZe : (Y.alloc (.cells #[.slice t1 t.cols.length d1, .slice t2 t.rows.length d2, .slice t3 t.cells.length d3] 84)).drew = Z at LZ KTZ KSZ G1 G3 ⊢
    obtain ⟨zb, hzb⟩ : ∃ zb, Y.heap.size = zb := ⟨_, rfl⟩
    rw [hzb] at KTZ ⊢
    clear hZe hzb hZ1 hHeld LY HWY KSY KBY F1 F3 s0 s1 x2 z0 z1 z2
    obtain ⟨z0, z1, z2, z3⟩ := KTZ.out.three'
    go_wp2_with fail
    refine (binSearch_any t1 d1 t.cols comp 0 _ G1.out kt1 HTT.out.1).mono ?_
    rintro r w5 ⟨⟨q, rfl, hq⟩, rfl⟩
    by_cases hfd : t.cols[q]? = some comp
    · have tf : decide (t.cols[q]? = some comp) = true := by simp [hfd]
      rw [tf]
      have HQ : Hid (t.cols[q]? = some comp) := hfd
      have hqc : q < t.cells.length := by rw [HTT.out.2.1]; exact (List.getElem?_eq_some_iff.1 hfd).1
      obtain ⟨L, hL⟩ := get_some hqc
      have hLr := HTT.out.2.2 q L hL
      have hjr : j < t.rows.length := (List.getElem?_eq_some_iff.1 HXj.out).1
      obtain ⟨v, hv⟩ := get_some (L := L) (k := j) (by omega)
      obtain ⟨cb, cq, ec3, _, _, sL, cL, c0, hEL⟩ := eVals_cells G3.out hL
      subst ec3
      obtain ⟨vb, vo, esL, _, _, _, v1, v2, v3, v4⟩ := eVal_cells hEL hv
      subst esL
      have HL : Hid (t.cells[q]? = some L) := hL
      have HV : Hid (L[j]? = some v) := hv
      have s1 := KSZ.out.cell 1
      have qI0 : (0 : Int) ≤ (q : Int) := by omega
      have qI1 : (q : Int) < (t.cells.length : Int) := by omega
      have jI0 : (0 : Int) ≤ (j : Int) := by omega
      have jI1 : (j : Int) < (L.length : Int) := by omega
      clear tf hfd hL hv hEL hLr
      go_wp2_with fail
      refine wp_region_held_drew (S := (fun w' => w'.cell? ⟨zb, 2, none⟩ = some (.slice (some ⟨cb, cq, none⟩) t.cells.length d3) ∧ w'.cell? ⟨cb, cq + q, none⟩ = some (.slice (some ⟨vb, vo, none⟩) L.length cL) ∧ w'.cell? ⟨sb, 1, none⟩ = some (.int .i64 (j : Int)))) (by kernel_rfl) ?_ (fun hHeld => ?_)
      · exact ⟨z2, c0, s1⟩
      refine wpAnyH_one (i := 0) (d := 42) (v := ?_) rfl rfl (by kernel_rfl) (by kernel_rfl) (by kernel_rfl) (fun _ _ _ h => h) (by rfl) (by assumption) ?_ ?_
      rotate_left 1
      · intro w hSw; (try dsimp only at hSw); go_simp <;> with_reducible rfl
      simp only [List.foldl, Act.put, List.setIfInBounds_toArray, List.set_cons_zero, List.set_cons_succ]
      refine wpAnyH_one (i := 1) (d := 43) (v := ?_) rfl rfl (by kernel_rfl) (by kernel_rfl) (by kernel_rfl) (fun _ _ _ h => h) (by rfl) (by assumption) ?_ ?_
      rotate_left 1
      · intro w hSw; (try dsimp only at hSw); go_simp <;> with_reducible rfl
      simp only [List.foldl, Act.put, List.setIfInBounds_toArray, List.set_cons_zero, List.set_cons_succ]
      refine wpAnyH_one (i := 2) (d := 44) (v := ?_) rfl rfl (by kernel_rfl) (by kernel_rfl) (by kernel_rfl) (fun _ _ _ h => h) (by rfl) (by assumption) ?_ ?_
      rotate_left 1
      · intro w hSw; (try dsimp only at hSw); go_simp <;> with_reducible rfl
      simp only [List.foldl, Act.put, List.setIfInBounds_toArray, List.set_cons_zero, List.set_cons_succ]
      refine wpAnyH_one (i := 3) (d := 45) (v := ?_) rfl rfl (by kernel_rfl) (by kernel_rfl) (by kernel_rfl) (fun _ _ _ h => h) (by rfl) (by assumption) ?_ ?_
      rotate_left 1
      · intro w hSw; (try dsimp only at hSw); go_simp <;> with_reducible rfl
      simp only [List.foldl, Act.put, List.setIfInBounds_toArray, List.set_cons_zero, List.set_cons_succ]
      refine wpAnyH_one (i := 4) (d := 46) (v := ?_) rfl rfl (by kernel_rfl) (by kernel_rfl) (by kernel_rfl) (fun _ _ _ h => h) (by rfl) (by assumption) ?_ ?_
      rotate_left 1
      · intro w hSw; (try dsimp only at hSw); go_simp <;> with_reducible rfl
      simp only [List.foldl, Act.put, List.setIfInBounds_toArray, List.set_cons_zero, List.set_cons_succ]
      refine wpAnyH_one (i := 5) (d := 47) (v := ?_) rfl rfl (by kernel_rfl) (by kernel_rfl) (by kernel_rfl) (fun _ _ _ h => h) (by rfl) (by assumption) ?_ ?_
      rotate_left 1
      · intro w hSw; (try dsimp only at hSw); go_simp <;> with_reducible rfl
      simp only [List.foldl, Act.put, List.setIfInBounds_toArray, List.set_cons_zero, List.set_cons_succ]
      refine wpAnyH_one (i := 6) (d := 48) (v := ?_) rfl rfl (by kernel_rfl) (by kernel_rfl) (by kernel_rfl) (fun _ _ _ h => h) (by rfl) (by assumption) ?_ ?_
      rotate_left 1
      · intro w hSw; (try dsimp only at hSw); go_simp <;> with_reducible rfl
      simp only [List.foldl, Act.put, List.setIfInBounds_toArray, List.set_cons_zero, List.set_cons_succ]
      refine wpAnyH_one (i := 7) (d := 49) (v := ?_) rfl rfl (by kernel_rfl) (by kernel_rfl) (by kernel_rfl) (fun _ _ _ h => h) (by rfl) (by assumption) ?_ ?_
      rotate_left 1
      · intro w hSw; (try dsimp only at hSw); go_simp <;> with_reducible rfl
      simp only [List.foldl, Act.put, List.setIfInBounds_toArray, List.set_cons_zero, List.set_cons_succ]
      refine wpAnyH_one (i := 8) (d := 6) (v := ?_) rfl rfl (by kernel_rfl) (by kernel_rfl) (by kernel_rfl) (fun _ _ _ h => h) (by rfl) (by assumption) ?_ ?_
      rotate_left 1
      · intro w hSw; (try dsimp only at hSw); go_simp <;> with_reducible rfl
      simp only [List.foldl, Act.put, List.setIfInBounds_toArray, List.set_cons_zero, List.set_cons_succ]
      refine wpAnyH_one (i := 9) (d := 7) (v := ?_) rfl rfl (by kernel_rfl) (by kernel_rfl) (by kernel_rfl) (fun _ _ _ h => h) (by rfl) (by assumption) ?_ ?_
      rotate_left 1
      · intro w hSw; (try dsimp only at hSw); go_simp <;> with_reducible rfl
      simp only [List.foldl, Act.put, List.setIfInBounds_toArray, List.set_cons_zero, List.set_cons_succ]
      refine wpAnyH_done (by kernel_rfl) ?_ _
      have LF : Hid (Below w.heap.size w w5.drew) := bl_drew LZ.out
      go_wp2_with fail
      refine bodyPost_ret (v := .tuple #[.pointer (some ⟨vb, vo + j * 4, none⟩), .int .i64 0]) (by simp [results, Try.results45, go_sem]) rfl ⟨Or.inr (Or.inr ⟨i, j, q, t, L, v, vb, vo + j * 4, HF.out, HTi.out, HQ.out, HL.out, HV.out, rfl, v1, v2, v3, v4⟩), LF.out⟩
    · have tf : decide (t.cols[q]? = some comp) = false := by simp [hfd]
      rw [tf]
      have HNo : Hid (¬ comp ∈ t.cols) := by
        intro hc
        obtain ⟨p, hp, he⟩ := List.getElem_of_mem hc
        have hpc : t.cols[p]? = some comp := by rw [List.getElem?_eq_getElem hp, he]
        rcases Nat.lt_trichotomy p q with h | h | h
        · have := hq.2.1 p comp h hpc; omega
        · subst h; exact hfd hpc
        · by_cases hql : q < t.cols.length
          · obtain ⟨y, hy⟩ := get_some hql
            have h1 := hq.2.2 q y (Nat.le_refl _) hy
            have h2 := HTT.out.1 q p y comp (by omega) hy hpc
            have : y = comp := by omega
            rw [this] at hy
            exact hfd hy
          · omega
      clear hfd tf hq
      go_wp2_with fail
      refine bodyPost_ret (v := .tuple #[.pointer none, .int .i64 4]) (by simp [results, Try.results45, go_sem]) rfl ⟨Or.inr (Or.inl ⟨i, j, t, HF.out, HTi.out, HNo.out, rfl⟩), LZ.out⟩
end
section
open Go.RowKit Go.Maps Go.WideMaps
set_option linter.unusedVariables false
set_option linter.unusedSimpArgs false
set_option maxRecDepth 100000

theorem nodup_le : ∀ (R M : List E2), R.Nodup → (∀ x ∈ R, x ∈ M) → R.length ≤ M.length
  | [], M, _, _ => by simp
  | a :: R, M, hn, hs => by
    rw [List.nodup_cons] at hn
    have h1 := nodup_le R (M.erase a) hn.2 (fun x hx => by
      have hne : x ≠ a := fun e => hn.1 (e ▸ hx)
      exact (List.mem_erase_of_ne hne).2 (hs x (by simp [hx])))
    have ha := hs a (by simp)
    have h2 := List.length_erase_of_mem ha
    have h3 : 0 < M.length := List.length_pos_of_mem ha
    rw [List.length_cons]
    omega
theorem all_in {R M : List E2} (hn : R.Nodup) (hs : ∀ x ∈ R, x ∈ M) (hl : R.length = M.length) : ∀ x, x ∈ M → x ∈ R := by
  intro x hx
  by_cases h : x ∈ R
  · exact h
  · have h1 := nodup_le R (M.erase x) hn (fun y hy => by
      have hne : y ≠ x := fun e => h (by rw [← e]; exact hy)
      exact (List.mem_erase_of_ne hne).2 (hs y hy))
    have h2 := List.length_erase_of_mem hx
    have h3 : 0 < M.length := List.length_pos_of_mem hx
    omega
theorem once_first {T : List Tab} {i j : Nat} {t : Tab} {x : E2} (hn : (rowsOf T).Nodup) (h : T[i]? = some t) (hx : t.rows[j]? = some x) : ¬ x ∈ rowsOf (T.take i) ++ t.rows.take j := by
  obtain ⟨S, hS⟩ := rows_pre2 h hx
  intro hm
  rw [hS, List.nodup_append] at hn
  exact hn.2.2 x hm x (by simp) rfl
theorem rows_in {T : List Tab} {i j k : Nat} {t : Tab} {x : E2} (h : T[i]? = some t) (hx : t.rows[j]? = some x) (hk : i < k) : x ∈ rowsOf (T.take k) := by
  simp only [rowsOf, List.mem_flatMap]
  exact ⟨t, List.mem_of_getElem? (by rw [List.getElem?_take, if_pos hk]; exact h), List.mem_of_getElem? hx⟩
theorem rows_unique {T : List Tab} {i j i' j' : Nat} {t t' : Tab} {x : E2} (hn : (rowsOf T).Nodup) (h : T[i]? = some t) (hx : t.rows[j]? = some x) (h' : T[i']? = some t') (hx' : t'.rows[j']? = some x) : i = i' ∧ j = j' := by
  have f1 := once_first hn h hx
  have f2 := once_first hn h' hx'
  have ei : i = i' := by
    rcases Nat.lt_trichotomy i i' with g | g | g
    · exact absurd (List.mem_append_left _ (rows_in h hx g)) f2
    · exact g
    · exact absurd (List.mem_append_left _ (rows_in h' hx' g)) f1
  subst ei
  rw [h] at h'
  cases h'
  refine ⟨rfl, ?_⟩
  have tk : ∀ {a b : Nat}, a < b → t.rows[a]? = some x → x ∈ t.rows.take b := fun hab ha => List.mem_of_getElem? (by rw [List.getElem?_take, if_pos hab]; exact ha)
  rcases Nat.lt_trichotomy j j' with g | g | g
  · exact absurd (List.mem_append_right _ (tk g hx)) f2
  · exact g
  · exact absurd (List.mem_append_right _ (tk g hx')) f1
/-- a right table. -/
structure RTab (t : Tab) : Prop where
  up : ∀ (p q : Nat) x y, p < q → t.cols[p]? = some x → t.cols[q]? = some y → x < y
  len : t.cells.length = t.cols.length
  each : ∀ (q : Nat) L, t.cells[q]? = some L → L.length = t.rows.length
theorem rtab_of {A : List (ByteArray × Int)} {t : Tab} (h : tabB A t = true) : RTab t := by
  simp only [tabB, Bool.and_eq_true, decide_eq_true_eq, List.all_eq_true, List.mem_range] at h
  obtain ⟨h1, h2⟩ := h
  refine ⟨?_, h1, fun q L hL => ?_⟩
  · intro p q x y hpq hp hq
    have key : ∀ d : Nat, ∀ q y, p + d + 1 = q → t.cols[q]? = some y → x < y := by
      intro d
      induction d with
      | zero =>
        intro q y e hq
        have c := (colB_iff.1 (h2 q (List.getElem?_eq_some_iff.1 hq).1)).2.1
        rcases c with c | c
        · omega
        · rw [show q - 1 = p by omega, getD_of hp, getD_of hq] at c; exact c
      | succ d ih =>
        intro q y e hq
        have hql := (List.getElem?_eq_some_iff.1 hq).1
        obtain ⟨z, hz⟩ := get_some (L := t.cols) (k := q - 1) (by omega)
        have c := (colB_iff.1 (h2 q hql)).2.1
        have := ih (q - 1) z (by omega) hz
        rcases c with c | c
        · omega
        · rw [getD_of hz, getD_of hq] at c; omega
    exact key (q - p - 1) q y (by omega) hq
  · have hq : q < t.cols.length := by rw [← h1]; exact (List.getElem?_eq_some_iff.1 hL).1
    have c := (colB_iff.1 (h2 q hq)).2.2.1
    rw [getD_of hL] at c
    exact c
theorem stand_tabs {A B C : List (ByteArray × Int)} {W : Wd} (h : standB A B C W = true) : (∀ t ∈ W.tabs, RTab t) ∧ onceB (listB W.gens W.free) W.tabs = true := by
  simp only [standB, Bool.and_eq_true, tabsB, List.all_eq_true, List.mem_range] at h
  refine ⟨fun t ht => ?_, h.2⟩
  obtain ⟨j, hj, rfl⟩ := List.getElem_of_mem ht
  have := h.1.2 j hj
  rw [tabA_eq (List.getElem?_eq_getElem hj), Bool.and_eq_true] at this
  exact rtab_of this.1
/-- what a thing has in a column. -/
def Gt (W : Wd) (e : E2) (comp : Int) (v : V4) : Prop := ∃ (i j q : Nat) (t : Tab) (L : List V4), W.tabs[i]? = some t ∧ t.rows[j]? = some e ∧ t.cols[q]? = some comp ∧ t.cells[q]? = some L ∧ L[j]? = some v
theorem Gt.same {W : Wd} {e : E2} {comp : Int} {v v' : V4} (hn : (rowsOf W.tabs).Nodup) (hr : ∀ t ∈ W.tabs, RTab t) (h : Gt W e comp v) (h' : Gt W e comp v') : v = v' := by
  obtain ⟨i, j, q, t, L, h1, h2, h3, h4, h5⟩ := h
  obtain ⟨i', j', q', t', L', g1, g2, g3, g4, g5⟩ := h'
  obtain ⟨rfl, rfl⟩ := rows_unique hn h1 h2 g1 g2
  rw [h1] at g1
  cases g1
  have rt := hr t (List.mem_of_getElem? h1)
  have eq : q = q' := by
    rcases Nat.lt_trichotomy q q' with g | g | g
    · have := rt.up q q' comp comp g h3 g3; omega
    · exact g
    · have := rt.up q' q comp comp g g3 h3; omega
  subst eq
  rw [h4] at g4
  cases g4
  rw [h5] at g5
  cases g5
  rfl
def zr : Ending := .returned (.tuple #[.agg #[.int .i64 0, .int .i64 0, .float .f64 0, .float .f64 0], .bool false])
def vr (v : V4) : Ending := .returned (.tuple #[.agg #[.int .i64 v.1, .int .i64 v.2.1, .float .f64 v.2.2.1, .float .f64 v.2.2.2], .bool true])
def GR (A B C : List (ByteArray × Int)) (W : Wd) (e : E2) (comp : Int) (r : Ending) : Prop :=
  (standB A B C W = true ∧ ∃ v, Gt W e comp v ∧ okV v ∧ r = vr v) ∨ ((standB A B C W = true → ∀ v, ¬ Gt W e comp v) ∧ r = zr)
theorem GR.same {A B C : List (ByteArray × Int)} {W : Wd} {e : E2} {comp : Int} {r r' : Ending} (h : GR A B C W e comp r) (h' : GR A B C W e comp r') : r = r' := by
  rcases h with ⟨hs, v, hv, _, rfl⟩ | ⟨hn, rfl⟩
  · have hd := stand_tabs hs
    have ho := hd.2
    simp only [onceB, decide_eq_true_eq] at ho
    rcases h' with ⟨_, v', hv', _, rfl⟩ | ⟨hn', rfl⟩
    · rw [Gt.same ho.1 hd.1 hv hv']
    · exact absurd hv (hn' hs v)
  · rcases h' with ⟨hs', v', hv', _, rfl⟩ | ⟨hn', rfl⟩
    · exact absurd hv' (hn hs' v')
    · rfl

theorem box4 (w : World) (c d f g : Array Value) (t u v x : TypeId) : Blk ((((w.alloc (.cells c t)).alloc (.cells d u)).alloc (.cells f v)).alloc (.cells g x)) w.heap.size c t ∧ Blk ((((w.alloc (.cells c t)).alloc (.cells d u)).alloc (.cells f v)).alloc (.cells g x)) (w.heap.size + 1) d u ∧ Blk ((((w.alloc (.cells c t)).alloc (.cells d u)).alloc (.cells f v)).alloc (.cells g x)) (w.heap.size + 1 + 1) f v ∧ Blk ((((w.alloc (.cells c t)).alloc (.cells d u)).alloc (.cells f v)).alloc (.cells g x)) (w.heap.size + 1 + 1 + 1) g x ∧ Below w.heap.size w ((((w.alloc (.cells c t)).alloc (.cells d u)).alloc (.cells f v)).alloc (.cells g x)) :=
  ⟨(((Blk.new w c t).alloc _).alloc _).alloc _, ((Blk.new' _ d u (by simp)).alloc _).alloc _, (Blk.new' _ f v (by simp)).alloc _, Blk.new' _ g x (by simp), bl_alloc (bl_alloc (bl_alloc (bl_alloc (Below.refl _ _) _) _) _) _⟩

set_option maxHeartbeats 4000000 in
theorem implGet_any (s1 s2 s3 : Option Addr) (c1 c2 c3 : Nat) (A B C : List (ByteArray × Int)) (a1 a2 a3 a4 : Option Addr) (b1 b2 b3 b4 : Nat) (W : Wd) (e : E2) (comp : Int) (w : World) (hA : Decls w s1 A) (hB : Decls w s2 B) (hC : Decls w s3 C) (nm : ∀ i, i < (A ++ B ++ C).length → (dAt (A ++ B ++ C) i).1.size ≤ maxLen) (l1 : A.length ≤ 1048576) (l2 : B.length ≤ 1048576) (l3 : C.length ≤ 1048576)
    (hW : InW w 0 a1 a2 a3 a4 W) (hk : kW W) (hcap : W.tabs.length ≤ b3) (bR : ∀ t ∈ W.tabs, ∀ x ∈ t.rows, bE x) (be : bE e) (okc : ∀ t ∈ W.tabs, ∀ L ∈ t.cells, ∀ v ∈ L, okV v) :
    Calls Try.prog 12 #[.agg #[.slice s1 A.length c1, .slice s2 B.length c2, .slice s3 C.length c3], .agg #[.slice a1 W.gens.length b1, .slice a2 W.free.length b2, .slice a3 W.tabs.length b3, .slice a4 W.res.length b4], .agg #[.int .i64 e.1, .int .i64 e.2], .int .i64 comp] w fun r w' => GR A B C W e comp r ∧ Below w.heap.size w w' := by
  have hal := alloc_old
  have haf := alloc_oldf
  obtain ⟨k0, k1, k2, k3, L0⟩ := box4 w #[.slice s1 A.length c1, .slice s2 B.length c2, .slice s3 C.length c3] #[.slice a1 W.gens.length b1, .slice a2 W.free.length b2, .slice a3 W.tabs.length b3, .slice a4 W.res.length b4] #[.int .i64 e.1, .int .i64 e.2] #[.int .i64 0, .int .i64 0, .float .f64 0, .float .f64 0] 43 49 51 38
  go_enter Try.func12, Try.ntmps12
  go_wp2_with fail
  refine (standsOf_any s1 s2 s3 c1 c2 c3 A B C a1 a2 a3 a4 b1 b2 b3 b4 W _ (hA.later L0) (hB.later L0) (hC.later L0) nm l1 l2 l3 (hW.later L0) hk hcap bR).mono ?_
  rintro r w1 ⟨⟨v, rfl, hv⟩, hb1⟩
  have L1 := bl_trans L0 hb1
  have k1 := k1.later hb1
  have k2 := k2.later hb1
  have k3 := k3.later hb1
  obtain ⟨x0, x1, x2, x3, x4⟩ := k1.four'
  obtain ⟨y0, y1, y2⟩ := k2.two
  obtain ⟨z0, z1, z2, z3, z4⟩ := k3.four'
  clear hA hB hC nm L0 hb1 k0
  cases hst : standB A B C W
  · have HG : Hid (GR A B C W e comp zr) := Or.inr ⟨fun h => absurd h (by simp [hst]), rfl⟩
    have LF : Hid (Below w.heap.size w w1) := L1
    clear hv
    go_wp2_with fail
    refine bodyPost_ret (v := .tuple #[.agg #[.int .i64 0, .int .i64 0, .float .f64 0, .float .f64 0], .bool false]) (by simp [results, Try.results12, go_sem, z0, z1, z2, z3]) rfl ⟨HG.out, ?_⟩
    repeat (first | with_reducible exact LF.out | with_reducible refine Below.setCell ?_ (by simp <;> omega) _)
  · obtain ⟨b, n, f, rfl, hM, hS⟩ := hv hst
    obtain ⟨hrt, hon⟩ := stand_tabs hst
    simp only [onceB, decide_eq_true_eq] at hon
    have HST : Hid (standB A B C W = true) := hst
    have HON : Hid ((rowsOf W.tabs).Nodup ∧ (∀ x ∈ rowsOf W.tabs, x ∈ listB W.gens W.free) ∧ (rowsOf W.tabs).length = (listB W.gens W.free).length) := hon
    have HSt : Hid (Std (listB W.gens W.free) W.tabs (rowsOf W.tabs) f) := hS
    have HRT : Hid (∀ t ∈ W.tabs, RTab t) := hrt
    have OKC : Hid (∀ t ∈ W.tabs, ∀ L ∈ t.cells, ∀ v ∈ L, okV v) := okc
    have HWw : Hid (InW w1 0 a1 a2 a3 a4 W) := hW.later L1
    have HMw : Hid (SM w1 b n f) := hM
    have HBE : Hid (bE e) := be
    have LF : Hid (Below w.heap.size w w1) := L1
    have K3 : Hid (Blk w1 (w.heap.size + 1 + 1 + 1) #[.int .i64 0, .int .i64 0, .float .f64 0, .float .f64 0] 38) := k3
    have hK3 : Hid (w.heap.size + 1 + 1 + 1 < w1.heap.size) := k3.lt
    clear hst hon hS hrt okc hW hM be L1 hv bR k1 k2 k3
    go_wp2_with fail
    have hb2 : Below w1.heap.size w1 (w1.alloc (.cells #[.slice a1 W.gens.length b1, .slice a2 W.free.length b2, .slice a3 W.tabs.length b3, .slice a4 W.res.length b4, .map (some b)] 93)) := bl_alloc (Below.refl _ _) _
    refine (cell_any w1.heap.size a1 a2 a3 a4 b1 b2 b3 b4 b n W f e comp (listB W.gens W.free) _ (Blk.new w1 _ _) (HWw.out.later hb2) hk (HMw.out.later hb2) HSt.out (all_in HON.out.1 HON.out.2.1 HON.out.2.2) HBE.out (fun t ht => ⟨fun p q x y hpq hp hq => by
      rcases Nat.lt_or_eq_of_le hpq with h | h
      · exact Int.le_of_lt ((HRT.out t ht).up p q x y h hp hq)
      · subst h; rw [hp] at hq; cases hq; exact Int.le_refl _, (HRT.out t ht).len, (HRT.out t ht).each⟩)).mono ?_
    rintro r w2 ⟨hr, hb3⟩
    have hc2 := bl_trans hb2 hb3
    have L2 : Hid (Below w.heap.size w w2) := bl_trans LF.out hc2
    obtain ⟨z0, z1, z2, z3, z4⟩ := (K3.out.later hc2).four'
    clear hb2 hb3 hc2 HWw HMw LF x0 x1 x2 x3 x4 y0 y1 y2
    rcases hr with ⟨hf, rfl⟩ | ⟨i, j, t, hf, ht, hno, rfl⟩ | ⟨i, j, q, t, L, v, vb, vo, hf, ht, hq, hL, hv, rfl, v1, v2, v3, v4⟩
    · have HG : Hid (GR A B C W e comp zr) := Or.inr ⟨fun _ v hg => by
        obtain ⟨i, j, q, t, L, h1, h2, _⟩ := hg
        obtain ⟨s, hs, _⟩ := HSt.out.taken e (by
          simp only [rowsOf, List.mem_flatMap]
          exact ⟨t, List.mem_of_getElem? h1, List.mem_of_getElem? h2⟩)
        rw [hf] at hs
        exact absurd hs (by simp), rfl⟩
      go_wp2_with fail
      refine bodyPost_ret (v := .tuple #[.agg #[.int .i64 0, .int .i64 0, .float .f64 0, .float .f64 0], .bool false]) (by simp [results, Try.results12, go_sem, z0, z1, z2, z3]) rfl ⟨HG.out, ?_⟩
      repeat (first | with_reducible exact L2.out | with_reducible refine Below.setCell ?_ (by simp <;> omega) _)
    · have HG : Hid (GR A B C W e comp zr) := Or.inr ⟨fun _ v hg => by
        obtain ⟨i', j', q, t', L, h1, h2, h3, _⟩ := hg
        obtain ⟨s, hs, i2, j2, t2, rfl, g1, g2⟩ := HSt.out.taken e (by
          simp only [rowsOf, List.mem_flatMap]
          exact ⟨t', List.mem_of_getElem? h1, List.mem_of_getElem? h2⟩)
        rw [hf] at hs
        simp only [Option.some.injEq, Prod.mk.injEq] at hs
        have e1 : i = i2 := by omega
        subst e1
        rw [ht] at g1
        cases g1
        obtain ⟨rfl, rfl⟩ := rows_unique HON.out.1 h1 h2 ht g2
        rw [ht] at h1
        cases h1
        exact hno (List.mem_of_getElem? h3), rfl⟩
      go_wp2_with fail
      refine bodyPost_ret (v := .tuple #[.agg #[.int .i64 0, .int .i64 0, .float .f64 0, .float .f64 0], .bool false]) (by simp [results, Try.results12, go_sem, z0, z1, z2, z3]) rfl ⟨HG.out, ?_⟩
      repeat (first | with_reducible exact L2.out | with_reducible refine Below.setCell ?_ (by simp <;> omega) _)
    · have HG : Hid (GR A B C W e comp (vr v)) := by
        obtain ⟨s, hs, i2, j2, t2, rfl, g1, g2⟩ := HSt.out.taken e (by
          by_cases h : e ∈ listB W.gens W.free
          · exact all_in HON.out.1 HON.out.2.1 HON.out.2.2 e h
          · have := HSt.out.out e h
            rw [hf] at this
            cases this)
        rw [hf] at hs
        simp only [Option.some.injEq, Prod.mk.injEq] at hs
        have e1 : i = i2 := by omega
        have e2 : j = j2 := by omega
        subst e1
        subst e2
        rw [ht] at g1
        cases g1
        exact Or.inl ⟨HST.out, v, ⟨i, j, q, t, L, ht, g2, hq, hL, hv⟩, OKC.out t (List.mem_of_getElem? ht) L (List.mem_of_getElem? hL) v (List.mem_of_getElem? hv), rfl⟩
      clear hf ht hq hL hv
      go_wp2_with fail
      refine bodyPost_ret (v := .tuple #[.agg #[.int .i64 v.1, .int .i64 v.2.1, .float .f64 v.2.2.1, .float .f64 v.2.2.2], .bool true]) (by simp [results, Try.results12, go_sem, z0, z1, z2, z3]) rfl ⟨HG.out, ?_⟩
      repeat (first | with_reducible exact L2.out | with_reducible refine Below.setCell ?_ (by simp <;> omega) _)
end
section
open Go.RowKit Go.Maps Go.WideMaps
set_option linter.unusedVariables false
set_option linter.unusedSimpArgs false
set_option maxRecDepth 100000

theorem mem_live {G F : List Int} {x : E2} (hk : okE G F = true) : x ∈ listB G F ↔ l2B G F x.1 x.2 = true := by
  simp only [listB, hk, if_true, LK, List.mem_map, List.mem_filter, List.mem_range, l2B, decide_eq_true_eq, Bool.not_eq_true', decide_eq_false_iff_not]
  constructor
  · rintro ⟨i, ⟨hi, hn⟩, rfl⟩
    simp only [Int.toNat_natCast]
    exact ⟨by omega, by omega, trivial, hn⟩
  · rintro ⟨h1, h2, h3, h4⟩
    refine ⟨x.1.toNat, ⟨by omega, ?_⟩, ?_⟩
    · rw [Int.toNat_of_nonneg h1]; exact h4
    · apply Prod.ext
      · simp only; omega
      · simp only; exact h3

set_option maxHeartbeats 1000000 in
theorem l4At_any (s : Option Addr) (c : Nat) (L : List Int) (x : Int) (B : Nat) (w : World) (hL : Els 1 cInt w B s L) (hl : L.length ≤ 1048576) :
    Calls Try.prog 39 #[.slice s L.length c, .int .i64 x] w fun e w' => (∃ r : Int, e = .returned (.int .i64 r) ∧ ((r = -1 ∧ ¬ x ∈ L) ∨ ∃ q : Nat, r = q ∧ L[q]? = some x)) ∧ w' = w := by
  have HL : Hid (Els 1 cInt w B s L) := hL
  clear hL
  go_enter Try.func39, Try.ntmps39
  go_wp2_with fail
  go_loopw [5] (fun i wr => ∃ k : Nat, k ≤ L.length ∧ i = .int .i64 k ∧ wr = w ∧ Hid (∀ (j : Nat) a, j < k → L[j]? = some a → ¬ a = x)) (fun i _ => L.length - (intOf i).toNat)
  case atStart => exact ⟨0, Nat.zero_le _, rfl, rfl, fun j a hj => absurd hj (Nat.not_lt_zero _)⟩
  case round =>
    obtain ⟨k, hk, rfl, rfl, hN⟩ := hrel
    by_cases hlt : k < L.length
    · obtain ⟨a, ha⟩ := get_some hlt
      obtain ⟨b, o, rfl, _, hp, e1⟩ := eInt_cells HL.out ha
      have HA : Hid (L[k]? = some a) := ha
      have kI0 : (0 : Int) ≤ (k : Int) := by omega
      have kI1 : (k : Int) < (L.length : Int) := by omega
      clear ha
      by_cases hax : a = x
      · subst hax
        go_wp2_with fail
        go_ret
        exact ⟨⟨_, rfl, Or.inr ⟨k, rfl, HA.out⟩⟩, rfl⟩
      · have tb : (a == x) = false := by simp [hax]
        have hn : Hid (∀ (j : Nat) v, j < k + 1 → L[j]? = some v → ¬ v = x) := by
          intro j v hj hv
          by_cases e : j = k
          · subst e; rw [HA.out] at hv; cases hv; exact hax
          · exact hN.out j v (by omega) hv
        clear hN hax
        go_wp2_with fail
        go_roundw
        case rel => exact ⟨k + 1, by omega, by go_num, trivial, hn⟩
        case measure => simp [intOf]; omega
    · have hk' : k = L.length := by omega
      subst hk'
      go_wp2_with fail
      go_ret
      refine ⟨⟨_, rfl, Or.inl ⟨rfl, fun hx => ?_⟩⟩, rfl⟩
      obtain ⟨j, hj, he⟩ := List.getElem_of_mem hx
      exact hN.out j _ hj (List.getElem?_eq_getElem hj) he

set_option maxHeartbeats 4000000 in
theorem specGet_any (p1 q1 c1 p2 q2 c2 p3 q3 c3 : Nat) (A B C : List (ByteArray × Int)) (a1 a2 a3 a4 : Option Addr) (b1 b2 b3 b4 : Nat) (W : Wd) (e : E2) (comp : Int) (w : World) (hA : Decls w (some ⟨p1, q1, none⟩) A) (hB : Decls w (some ⟨p2, q2, none⟩) B) (hC : Decls w (some ⟨p3, q3, none⟩) C)
    (hW : InW w 0 a1 a2 a3 a4 W) (hk : kW W) (okc : ∀ t ∈ W.tabs, ∀ L ∈ t.cells, ∀ v ∈ L, okV v) :
    Calls Try.prog 8 #[.agg #[.slice (some ⟨p1, q1, none⟩) A.length c1, .slice (some ⟨p2, q2, none⟩) B.length c2, .slice (some ⟨p3, q3, none⟩) C.length c3], .agg #[.slice a1 W.gens.length b1, .slice a2 W.free.length b2, .slice a3 W.tabs.length b3, .slice a4 W.res.length b4], .agg #[.int .i64 e.1, .int .i64 e.2], .int .i64 comp] w fun r w' => GR A B C W e comp r ∧ Below w.heap.size w w' := by
  have hal := alloc_old
  have haf := alloc_oldf
  obtain ⟨k0, k1, k2, k3, L0⟩ := box4 w #[.slice (some ⟨p1, q1, none⟩) A.length c1, .slice (some ⟨p2, q2, none⟩) B.length c2, .slice (some ⟨p3, q3, none⟩) C.length c3] #[.slice a1 W.gens.length b1, .slice a2 W.free.length b2, .slice a3 W.tabs.length b3, .slice a4 W.res.length b4] #[.int .i64 e.1, .int .i64 e.2] #[.int .i64 0, .int .i64 0, .float .f64 0, .float .f64 0] 43 49 51 38
  go_enter Try.func8, Try.ntmps8
  go_wp2_with fail
  refine (specWorldOk_any p1 q1 c1 p2 q2 c2 p3 q3 c3 A B C a1 a2 a3 a4 b1 b2 b3 b4 W _ (hA.later L0) (hB.later L0) (hC.later L0) (hW.later L0) hk).mono ?_
  rintro r w1 ⟨rfl, hb1⟩
  rw [spec_stand]
  have L1 := bl_trans L0 hb1
  have k1 := k1.later hb1
  have k2 := k2.later hb1
  have k3 := k3.later hb1
  obtain ⟨x0, x1, x2, x3, x4⟩ := k1.four'
  obtain ⟨y0, y1, y2⟩ := k2.two
  obtain ⟨z0, z1, z2, z3, z4⟩ := k3.four'
  clear hA hB hC L0 hb1 k0
  cases hst : standB A B C W
  · have HG : Hid (GR A B C W e comp zr) := Or.inr ⟨fun h => absurd h (by simp [hst]), rfl⟩
    have LF : Hid (Below w.heap.size w w1) := L1
    go_wp2_with fail
    refine bodyPost_ret (v := .tuple #[.agg #[.int .i64 0, .int .i64 0, .float .f64 0, .float .f64 0], .bool false]) (by simp [results, Try.results8, go_sem, z0, z1, z2, z3]) rfl ⟨HG.out, ?_⟩
    repeat (first | with_reducible exact LF.out | with_reducible refine Below.setCell ?_ (by simp <;> omega) _)
  · obtain ⟨hrt, hon⟩ := stand_tabs hst
    simp only [onceB, decide_eq_true_eq] at hon
    have hoe : okE W.gens W.free = true := by
      have := hst
      simp only [standB, Bool.and_eq_true] at this
      exact this.1.1.1.1.2
    have HST : Hid (standB A B C W = true) := hst
    have HOE : Hid (okE W.gens W.free = true) := hoe
    have HON : Hid ((rowsOf W.tabs).Nodup ∧ (∀ x ∈ rowsOf W.tabs, x ∈ listB W.gens W.free) ∧ (rowsOf W.tabs).length = (listB W.gens W.free).length) := hon
    have HRT : Hid (∀ t ∈ W.tabs, RTab t) := hrt
    have OKC : Hid (∀ t ∈ W.tabs, ∀ L ∈ t.cells, ∀ v ∈ L, okV v) := okc
    have HWw : Hid (InW w1 0 a1 a2 a3 a4 W) := hW.later L1
    have LF : Hid (Below w.heap.size w w1) := L1
    clear hst hon hoe hrt okc hW L1
    go_wp2_with fail
    refine (l2Live_any a1 a2 b1 b2 W.gens W.free e.1 e.2 _ HWw.out.g.ints HWw.out.f.ints hk.1 hk.2.1).mono ?_
    rintro r w2 ⟨rfl, hb2⟩
    have k1 := k1.later hb2
    have k2 := k2.later hb2
    have k3 := k3.later hb2
    have LF : Hid (Below w.heap.size w w2) := bl_trans LF.out hb2
    have HWw : Hid (InW w2 0 a1 a2 a3 a4 W) := HWw.out.later hb2
    clear x0 x1 x2 x3 x4 y0 y1 y2 z0 z1 z2 z3 z4 hb2
    obtain ⟨x0, x1, x2, x3, x4⟩ := k1.four'
    obtain ⟨y0, y1, y2⟩ := k2.two
    obtain ⟨z0, z1, z2, z3, z4⟩ := k3.four'
    have nog : Hid (¬ e ∈ rowsOf W.tabs → ∀ v, ¬ Gt W e comp v) := by
      intro hn v hg
      obtain ⟨i, j, q, t, L, h1, h2, _⟩ := hg
      exact hn (by simp only [rowsOf, List.mem_flatMap]; exact ⟨t, List.mem_of_getElem? h1, List.mem_of_getElem? h2⟩)
    cases hlv : l2B W.gens W.free e.1 e.2
    · have HG : Hid (GR A B C W e comp zr) := Or.inr ⟨fun _ => nog.out (fun h => by
        have := (mem_live HOE.out).1 (HON.out.2.1 e h)
        rw [hlv] at this
        exact absurd this (by simp)), rfl⟩
      go_wp2_with fail
      refine bodyPost_ret (v := .tuple #[.agg #[.int .i64 0, .int .i64 0, .float .f64 0, .float .f64 0], .bool false]) (by simp [results, Try.results8, go_sem, z0, z1, z2, z3]) rfl ⟨HG.out, ?_⟩
      repeat (first | with_reducible exact LF.out | with_reducible refine Below.setCell ?_ (by simp <;> omega) _)
    · have HER : Hid (e ∈ rowsOf W.tabs) := all_in HON.out.1 HON.out.2.1 HON.out.2.2 e ((mem_live HOE.out).2 hlv)
      clear hlv nog
      go_wp2_with fail
      refine (specWhere_any a1 a2 a3 a4 b1 b2 b3 b4 W 0 e.1 e.2 _ HWw.out hk).mono ?_
      rintro r w3 ⟨⟨r1, r2, rfl, hwh⟩, hb3⟩
      have k1 := k1.later hb3
      have k3 := k3.later hb3
      have LF : Hid (Below w.heap.size w w3) := bl_trans LF.out hb3
      have HWw : Hid (InW w3 0 a1 a2 a3 a4 W) := HWw.out.later hb3
      clear x0 x1 x2 x3 x4 y0 y1 y2 z0 z1 z2 z3 z4 hb3 k2
      obtain ⟨x0, x1, x2, x3, x4⟩ := k1.four'
      have K3 : Hid (Blk w3 (w.heap.size + 1 + 1 + 1) #[.int .i64 0, .int .i64 0, .float .f64 0, .float .f64 0] 38) := k3
      have K1 : Hid (Blk w3 (w.heap.size + 1) #[.slice a1 W.gens.length b1, .slice a2 W.free.length b2, .slice a3 W.tabs.length b3, .slice a4 W.res.length b4] 49) := k1
      rcases hwh with ⟨rfl, rfl, hno⟩ | ⟨i, j, t, rfl, rfl, ht, hx, _, _⟩
      · exfalso
        have := HER.out
        simp only [rowsOf, List.mem_flatMap] at this
        obtain ⟨t, ht, hx⟩ := this
        obtain ⟨i, hi, rfl⟩ := List.getElem_of_mem ht
        obtain ⟨j, hj, he⟩ := List.getElem_of_mem hx
        exact hno i _ (List.getElem?_eq_getElem hi) j (by rw [List.getElem?_eq_getElem hj, he])
      · have HTi : Hid (W.tabs[i]? = some t) := ht
        have HXj : Hid (t.rows[j]? = some e) := hx
        have hit : i < W.tabs.length := (List.getElem?_eq_some_iff.1 ht).1
        obtain ⟨tb, tq, ea3, _, hpt, t1, d1, t2, d2, t3, d3, u0, u1, u2, f1, f2, f3⟩ := eTab_cells HWw.out.t ht
        subst ea3
        have rt := HRT.out t (List.mem_of_getElem? ht)
        have hkt := hk.2.2.1.2 t (List.mem_of_getElem? ht)
        have kt1 := hkt.1
        have kt2 := hkt.2.1
        have hkl := hk.2.2.1.1
        have F1 : Hid (Els 1 cInt w3 0 t1 t.cols) := f1
        have F3 : Hid (Els 1 cVals w3 0 t3 t.cells) := f3
        have HRt : Hid (RTab t) := rt
        have iI0 : (0 : Int) ≤ (i : Int) := by omega
        have iI1 : (i : Int) < (W.tabs.length : Int) := by omega
        clear ht hx f1 f2 f3 rt hkt k1 k3
        go_wp2_with fail
        refine (l4At_any t1 d1 t.cols comp 0 _ F1.out kt1).mono ?_
        rintro r w4 ⟨⟨qa, rfl, hq⟩, rfl⟩
        obtain ⟨z0, z1, z2, z3, z4⟩ := K3.out.four'
        rcases hq with ⟨rfl, hno⟩ | ⟨q, rfl, hq⟩
        · have HG : Hid (GR A B C W e comp zr) := Or.inr ⟨fun _ v hg => by
            obtain ⟨i', j', q, t', L, h1, h2, h3, _⟩ := hg
            obtain ⟨rfl, rfl⟩ := rows_unique HON.out.1 h1 h2 HTi.out HXj.out
            rw [HTi.out] at h1
            cases h1
            exact hno (List.mem_of_getElem? h3), rfl⟩
          go_wp2_with fail
          refine bodyPost_ret (v := .tuple #[.agg #[.int .i64 0, .int .i64 0, .float .f64 0, .float .f64 0], .bool false]) (by simp [results, Try.results8, go_sem, z0, z1, z2, z3]) rfl ⟨HG.out, ?_⟩
          repeat (first | with_reducible exact LF.out | with_reducible refine Below.setCell ?_ (by simp <;> omega) _)
        · have hqc : q < t.cells.length := by rw [HRt.out.len]; exact (List.getElem?_eq_some_iff.1 hq).1
          obtain ⟨L, hL⟩ := get_some hqc
          have hLr := HRt.out.each q L hL
          have hjr : j < t.rows.length := (List.getElem?_eq_some_iff.1 HXj.out).1
          obtain ⟨v, hv⟩ := get_some (L := L) (k := j) (by omega)
          obtain ⟨cb, cq, ec3, _, _, sL, cL, c0, hEL⟩ := eVals_cells F3.out hL
          subst ec3
          obtain ⟨vb, vo, esL, _, _, _, v1, v2, v3, v4⟩ := eVal_cells hEL hv
          subst esL
          have HG : Hid (GR A B C W e comp (vr v)) := Or.inl ⟨HST.out, v, ⟨i, j, q, t, L, HTi.out, HXj.out, hq, hL, hv⟩, OKC.out t (List.mem_of_getElem? HTi.out) L (List.mem_of_getElem? hL) v (List.mem_of_getElem? hv), rfl⟩
          have qI0 : (0 : Int) ≤ (q : Int) := by omega
          have qI1 : (q : Int) < (t.cells.length : Int) := by omega
          have qn : ¬ ((q : Int) < 0) := by omega
          have jI0 : (0 : Int) ≤ (j : Int) := by omega
          have jI1 : (j : Int) < (L.length : Int) := by omega
          have hjL : j < L.length := by omega
          clear hq hL hv hEL hLr
          go_wp2_with fail
          refine bodyPost_ret (v := .tuple #[.agg #[.int .i64 v.1, .int .i64 v.2.1, .float .f64 v.2.2.1, .float .f64 v.2.2.2], .bool true]) (by simp [results, Try.results8, go_sem, z0, z1, z2, z3]) rfl ⟨HG.out, ?_⟩
          repeat (first | with_reducible exact LF.out | with_reducible refine Below.setCell ?_ (by simp <;> omega) _)
end
end Go.Proofs.Ytofpkbnocbmgkaa
