import Derived.Test.YtigllpegaljkmaaDoorQegj
import Derived.Test.YtigllpegaljkmaaDoorN1j
namespace Go.Proofs.YtigllpegaljkmaaDoor
open Go.RowKit
set_option linter.unusedVariables false
set_option linter.unusedSimpArgs false

/-! who runs, in logic -/
/-- .. behind a move. -/
def rb (L : List Int) (k t : Int) : List Int := if k = 2 then L.filter (fun x => decide (x < t)) ++ t :: L.filter (fun x => decide (t < x)) else if k = 1 then L.filter (fun x => decide (x ≠ t)) else L
theorem mem_rb {L : List Int} {k t x : Int} : x ∈ rb L k t ↔ if k = 2 then x = t ∨ x ∈ L else if k = 1 then x ∈ L ∧ x ≠ t else x ∈ L := by
  unfold rb
  by_cases h2 : k = 2
  · simp only [h2, if_true, List.mem_append, List.mem_filter, List.mem_cons, decide_eq_true_eq]
    constructor
    · rintro (h | h | h)
      · exact Or.inr h.1
      · exact Or.inl h
      · exact Or.inr h.1
    · rintro (h | h)
      · exact Or.inr (Or.inl h)
      · rcases Int.lt_trichotomy x t with g | g | g
        · exact Or.inl ⟨h, g⟩
        · exact Or.inr (Or.inl g)
        · exact Or.inr (Or.inr ⟨h, g⟩)
  · by_cases h1 : k = 1
    · simp [h1]
    · simp [h1, h2]
theorem rb_asc {L : List Int} (h : Asc L) (k t : Int) : Asc (rb L k t) := by
  unfold rb
  split
  · refine List.pairwise_append.2 ⟨h.filter _, List.pairwise_cons.2 ⟨fun b hb => ?_, h.filter _⟩, fun a ha b hb => ?_⟩
    · simpa using (List.mem_filter.1 hb).2
    · have ha := (List.mem_filter.1 ha).2
      simp at ha
      rcases List.mem_cons.1 hb with rfl | hb
      · exact ha
      · have hb := (List.mem_filter.1 hb).2
        simp at hb
        omega
  · split
    · exact h.filter _
    · exact h
theorem two_len (t : Int) : ∀ L : List Int, (L.filter (fun x => decide (x < t))).length + (L.filter (fun x => decide (t < x))).length ≤ L.length
  | [] => by simp
  | a :: L => by
    have := two_len t L
    simp only [List.filter_cons, List.length_cons]
    by_cases h1 : a < t
    · have h2 : ¬ t < a := by omega
      simp only [h1, h2, decide_true, decide_false, if_true, List.length_cons]
      simp
      omega
    · by_cases h2 : t < a
      · simp only [h1, h2, decide_true, decide_false, if_true, List.length_cons]
        simp
        omega
      · simp only [h1, h2, decide_false]
        simp
        omega
theorem rb_len (L : List Int) (k t : Int) : (rb L k t).length ≤ L.length + 1 := by
  unfold rb
  split
  · have := two_len t L
    simp only [List.length_append, List.length_cons]
    omega
  · split
    · have := List.length_filter_le (fun x => decide (x ≠ t)) L
      omega
    · omega

/-- who runs behind all of these. -/
def rnL (M : List (Int × Int)) : List Int := M.foldl (fun L p => rb L p.1 p.2) []
theorem foldl_asc (M : List (Int × Int)) : ∀ L, Asc L → Asc (M.foldl (fun L p => rb L p.1 p.2) L) := by
  induction M with
  | nil => intro L h; exact h
  | cons p M ih => intro L h; exact ih _ (rb_asc h _ _)
theorem rnL_asc (M : List (Int × Int)) : Asc (rnL M) := foldl_asc M [] List.Pairwise.nil
theorem foldl_len (M : List (Int × Int)) : ∀ L, (M.foldl (fun L p => rb L p.1 p.2) L).length ≤ L.length + M.length := by
  induction M with
  | nil => intro L; simp
  | cons p M ih =>
    intro L
    have h1 := ih (rb L p.1 p.2)
    have h2 := rb_len L p.1 p.2
    simp only [List.foldl_cons, List.length_cons]
    omega
theorem rnL_len (M : List (Int × Int)) : (rnL M).length ≤ M.length := by have := foldl_len M []; simpa [rnL] using this
theorem rnL_snoc (M : List (Int × Int)) (p : Int × Int) : rnL (M ++ [p]) = rb (rnL M) p.1 p.2 := by simp [rnL]
/-- begun, and not ended behind that. -/
def begP : List (Int × Int) → Int → Prop
  | [], _ => False
  | p :: S, x => begP S x ∨ (p = (2, x) ∧ ¬ (1, x) ∈ S)
theorem mem_foldl (x : Int) (M : List (Int × Int)) : ∀ L, x ∈ M.foldl (fun L p => rb L p.1 p.2) L ↔ begP M x ∨ (x ∈ L ∧ ¬ (1, x) ∈ M) := by
  induction M with
  | nil => intro L; simp [begP]
  | cons p M ih =>
    intro L
    obtain ⟨k, t⟩ := p
    rw [List.foldl_cons, ih, mem_rb]
    simp only [begP, List.mem_cons, Prod.mk.injEq, not_or, not_and]
    by_cases h2 : k = 2
    · subst h2
      simp only [if_true, true_and]
      constructor
      · rintro (h | ⟨rfl | h, g⟩)
        · exact Or.inl (Or.inl h)
        · exact Or.inl (Or.inr ⟨rfl, g⟩)
        · exact Or.inr ⟨h, fun e => by omega, g⟩
      · rintro ((h | ⟨rfl, g⟩) | ⟨h, _, g⟩)
        · exact Or.inl h
        · exact Or.inr ⟨Or.inl rfl, g⟩
        · exact Or.inr ⟨Or.inr h, g⟩
    · by_cases h1 : k = 1
      · subst h1
        simp only [h2, if_false, if_true, false_and, or_false, true_implies]
        constructor
        · rintro (h | ⟨⟨h, e⟩, g⟩)
          · exact Or.inl h
          · exact Or.inr ⟨h, e, g⟩
        · rintro (h | ⟨h, e, g⟩)
          · exact Or.inl h
          · exact Or.inr ⟨⟨h, e⟩, g⟩
      · simp only [h2, h1, if_false, false_and, or_false]
        constructor
        · rintro (h | ⟨h, g⟩)
          · exact Or.inl h
          · exact Or.inr ⟨h, fun e => absurd e.symm h1, g⟩
        · rintro (h | ⟨h, _, g⟩)
          · exact Or.inl h
          · exact Or.inr ⟨h, g⟩
theorem mem_rnL {M : List (Int × Int)} {x : Int} : x ∈ rnL M ↔ begP M x := by
  have := mem_foldl x M []
  simpa [rnL] using this
def runB (M : List (Int × Int)) : List Int := if M.length ≤ 200 then rnL M else []
theorem runB_len (M : List (Int × Int)) : (runB M).length ≤ 200 := by
  unfold runB
  split
  · have := rnL_len M; omega
  · simp
/-- the most that run at one time. -/
def wd (M : List (Int × Int)) : Nat → Nat
  | 0 => 0
  | k + 1 => max (wd M k) (rnL (M.take (k + 1))).length
theorem wd_le (M : List (Int × Int)) : ∀ k, wd M k ≤ M.length
  | 0 => Nat.zero_le _
  | k + 1 => by
    have h1 := wd_le M k
    have h2 := rnL_len (M.take (k + 1))
    have h3 : (M.take (k + 1)).length ≤ M.length := by simp; omega
    unfold wd
    omega
def widB (M : List (Int × Int)) : Nat := if M.length ≤ 200 then wd M M.length else 0
theorem take_rn {M : List (Int × Int)} {k : Nat} (h : k < M.length) {a b : Int} (hx : M[k]?.getD (0, 0) = (a, b)) : rnL (M.take (k + 1)) = rb (rnL (M.take k)) a b := by
  rw [takeE_succ M k h, hx, rnL_snoc]


set_option maxHeartbeats 1000000 in
theorem l4At_any (s : Option Addr) (c : Nat) (L : List Int) (x : Int) (B : Nat) (w : World) (hL : Els 1 cInt w B s L) (hl : L.length ≤ 1048576) :
    Calls Tryd.prog 29 #[.slice s L.length c, .int .i64 x] w fun e w' => (∃ r : Int, e = .returned (.int .i64 r) ∧ ((r = -1 ∧ ¬ x ∈ L) ∨ ∃ q : Nat, r = q ∧ L[q]? = some x)) ∧ w' = w := by
  have HL : Hid (Els 1 cInt w B s L) := hL
  clear hL
  go_enter Tryd.func29, Tryd.ntmps29
  go_wp2_with fail
  go_loopw [5] (fun i wr => ∃ k : Nat, k ≤ L.length ∧ i = .int .i64 k ∧ wr = w ∧ Hid (∀ (j : Nat) a, j < k → L[j]? = some a → ¬ a = x)) (fun i _ => L.length - (intOf i).toNat)
  case atStart => exact ⟨0, Nat.zero_le _, rfl, rfl, fun j a hj => absurd hj (Nat.not_lt_zero _)⟩
  case round =>
    obtain ⟨k, hk, rfl, rfl, hN⟩ := hrel
    by_cases hlt : k < L.length
    · obtain ⟨a, ha⟩ := get_some hlt
      obtain ⟨b, o, rfl, _, hp, e1⟩ := eInt_cells HL.out ha
      have HA : Hid (L[k]? = some a) := ha
      have kI0 : (0 : Int) ≤ (k : Int) := by omega
      have kI1 : (k : Int) < (L.length : Int) := by omega
      clear ha
      by_cases hax : a = x
      · subst hax
        go_wp2_with fail
        go_ret
        exact ⟨⟨_, rfl, Or.inr ⟨k, rfl, HA.out⟩⟩, rfl⟩
      · have tb : (a == x) = false := by simp [hax]
        have hn : Hid (∀ (j : Nat) v, j < k + 1 → L[j]? = some v → ¬ v = x) := by
          intro j v hj hv
          by_cases e : j = k
          · subst e; rw [HA.out] at hv; cases hv; exact hax
          · exact hN.out j v (by omega) hv
        clear hN hax
        go_wp2_with fail
        go_roundw
        case rel => exact ⟨k + 1, by omega, by go_num, trivial, hn⟩
        case measure => simp [intOf] <;> omega
    · have hk' : k = L.length := by omega
      subst hk'
      go_wp2_with fail
      go_ret
      refine ⟨⟨_, rfl, Or.inl ⟨rfl, fun hx => ?_⟩⟩, rfl⟩
      obtain ⟨j, hj, he⟩ := List.getElem_of_mem hx
      exact hN.out j _ hj (List.getElem?_eq_getElem hj) he

theorem begP_drop {M : List (Int × Int)} {k : Nat} (h : k < M.length) {a b : Int} (hx : M[k]?.getD (0, 0) = (a, b)) : M.drop k = (a, b) :: M.drop (k + 1) := by
  rw [List.drop_eq_getElem_cons h, ← hx]; simp [h]
theorem OI.keptO {w w' : World} {B : Nat} {v : Value} {L : List Int} {r : Option Nat} (h : OI w B v L) (hg : w.grownBy w' r) (hr : ∀ g, v.ownBlock = some g → ¬ r = some g) : OI w' B v L := by
  cases hv : v.ownBlock with
  | none => exact World.ownsRow.kept h hg (Or.inl hv)
  | some k => exact World.ownsRow.kept h hg (Or.inr (by rw [hv]; exact fun e => hr k hv e.symm))

set_option maxHeartbeats 8000000 in
theorem specRunning_any (s : Option Addr) (c : Nat) (M : List (Int × Int)) (w : World) (hM : Eds w s M) (hl : M.length ≤ 1048576) :
    Calls Tryd.prog 11 #[.slice s M.length c] w fun e w' => (∃ s' c', e = .returned (.slice s' (runB M).length c') ∧ OI w' w.heap.size (.slice s' (runB M).length c') (runB M)) ∧ Below w.heap.size w w' := by
  have k0 := Blk.new w #[] 3
  have k1 := Blk.new (w.alloc (.cells #[] 3)) #[] 3
  have L1 := bl_alloc (Below.refl _ w) (.cells #[] 3)
  have L2 := bl_alloc L1 (.cells #[] 3)
  have O0 : OI ((w.alloc (.cells #[] 3)).alloc (.cells #[] 3)) w.heap.size (.slice (some ⟨w.heap.size, 0, none⟩) 0 0) [] := (OI.empty k0).later (bl_alloc (Below.refl _ _) _)
  have O1 : OI ((w.alloc (.cells #[] 3)).alloc (.cells #[] 3)) w.heap.size (.slice (some ⟨w.heap.size + 1, 0, none⟩) 0 0) [] := by
    have := OI.empty k1
    have e : (w.alloc (.cells #[] 3)).heap.size = w.heap.size + 1 := by simp
    rw [e] at this
    exact this.mono (by omega)
  have HM : Hid (Eds w s M) := hM
  have HO0 := (show Hid _ from O0)
  have HO1 := (show Hid _ from O1)
  have HL2 := (show Hid _ from L2)
  clear hM O0 O1 L2 L1 k0 k1
  by_cases h2 : M.length ≤ 200
  · have t2 : decide (200 < (M.length : Int)) = false := by simp; omega
    have eR : Hid (runB M = rnL M) := by unfold runB; rw [if_pos h2]; rfl
    go_enter Tryd.func11, Tryd.ntmps11
    go_wp2_with fail
    go_loopw [3, 4, 5] (fun bv ev iv wr => ∃ k : Nat, k ≤ M.length ∧ iv = .int .i64 ((k : Int) - 1) ∧ (∃ sb cb Bg se ce En, bv = .slice sb (List.length (α := Int) Bg) cb ∧ ev = .slice se (List.length (α := Int) En) ce ∧ Hid (OI wr w.heap.size (.slice sb Bg.length cb) Bg) ∧ Hid (OI wr w.heap.size (.slice se En.length ce) En) ∧ Hid (∀ g, (Value.slice sb Bg.length cb).ownBlock = some g → ¬ (Value.slice se En.length ce).ownBlock = some g) ∧ Hid (∀ x, x ∈ Bg ↔ begP (M.drop k) x) ∧ Hid (∀ x, x ∈ En ↔ (1, x) ∈ M.drop k) ∧ Bg.length + k ≤ M.length ∧ En.length + k ≤ M.length) ∧ Hid (Below w.heap.size w wr)) (fun _ _ iv _ => (intOf iv + 1).toNat)
    case atStart =>
      refine ⟨M.length, Nat.le_refl _, by go_num, ⟨_, _, [], _, _, [], rfl, rfl, HO0, HO1, ?_, ?_, ?_, by simp, by simp⟩, HL2⟩
      · intro g h1 h2
        simp [Value.ownBlock] at h1 h2
        omega
      · intro x; simp [begP]
      · intro x; simp
    case round =>
      obtain ⟨k, hk, rfl, ⟨sb, cb, Bg, se, ce, En, rfl, rfl, hB, hE, hS, hb, he, lb, le⟩, hbel⟩ := hrel
      by_cases hlt : 0 < k
      · obtain ⟨j, rfl⟩ : ∃ j, k = j + 1 := ⟨k - 1, by omega⟩
        have hlt' : j < M.length := by omega
        obtain ⟨b, o, rfl, hp, e1, e2⟩ := (HM.out.later hbel.out).get hlt'
        obtain ⟨⟨p1, p2⟩, hx⟩ : ∃ x, Hid (M[j]?.getD (0, 0) = x) := ⟨_, rfl⟩
        rw [hx.out] at e1 e2
        have hD : Hid (M.drop j = (p1, p2) :: M.drop (j + 1)) := begP_drop hlt' hx.out
        rw [show (((j + 1 : Nat) : Int) - 1) = (j : Int) by omega]
        have hbs := hbel.out.size
        have jI0 : (0 : Int) ≤ (j : Int) := by omega
        have jI1 : (j : Int) < (M.length : Int) := by omega
        have O5B : Hid (OI (wr.alloc (.cells #[.int .i64 p2] 3)) w.heap.size (.slice sb Bg.length cb) Bg) := hB.out.later (bl_alloc (Below.refl _ _) _)
        have O5E : Hid (OI (wr.alloc (.cells #[.int .i64 p2] 3)) w.heap.size (.slice se En.length ce) En) := hE.out.later (bl_alloc (Below.refl _ _) _)
        have E5 : Hid (Els 1 cInt (wr.alloc (.cells #[.int .i64 p2] 3)) wr.heap.size (some ⟨wr.heap.size, 0, none⟩) [p2]) := Els.one (Blk.new wr #[.int .i64 p2] 3)
        have B5 : Hid (Below w.heap.size w (wr.alloc (.cells #[.int .i64 p2] 3))) := hbel.out.alloc hbs _
        have s5 : w.heap.size ≤ (wr.alloc (.cells #[.int .i64 p2] 3)).heap.size := by simp; omega
        by_cases q1 : p1 = 1
        · subst q1
          have hb' : Hid (∀ x, x ∈ Bg ↔ begP (M.drop j) x) := by
            intro x; rw [hD.out, hb.out x]; simp [begP]
          have he' : Hid (∀ x, x ∈ En ++ [p2] ↔ (1, x) ∈ M.drop j) := by
            intro x; rw [hD.out, List.mem_append, he.out x]; simp; exact Or.comm
          have hR2 : Hid (En ++ [p2] = En ++ [p2]) := rfl
          have lb2 : Bg.length + j ≤ M.length := by omega
          have le2 : (En ++ [p2]).length + j ≤ M.length := by simp; omega
          obtain ⟨R2, eR2⟩ : ∃ R2, Hid (En ++ [p2] = R2) := ⟨_, rfl⟩
          rw [eR2.out] at he' le2
          clear hb he hx hD
          go_wp2_with (at_builtin; refine wpList_append_ints rfl _ _ rfl w.heap.size se ce En rfl O5E.out wr.heap.size _ 1 [p2] rfl E5.out R2 eR2.out (by simp; omega) s5 ?_; intro s' c' w4 hO4 hg4 hn4)
          have hB4 : Hid (OI w4 w.heap.size (.slice sb Bg.length cb) Bg) := O5B.out.keptO hg4 (fun g h1 h2 => hS.out g h1 h2)
          have b4 : Hid (Below w.heap.size w w4) := grown_oi B5.out s5 O5E.out hg4
          have hS4 : Hid (∀ g, (Value.slice sb Bg.length cb).ownBlock = some g → ¬ (Value.slice s' R2.length c').ownBlock = some g) := by
            intro g h1 h2
            rcases hn4 g h2 with h3 | h3
            · exact hS.out g h1 h3
            · have := (hB.out.lt g h1).2; simp at h3; omega
          go_roundw
          case rel => exact ⟨j, by omega, by go_num, ⟨_, _, Bg, _, _, R2, rfl, rfl, hB4, hO4, hS4, hb', he', lb2, le2⟩, b4⟩
          case measure => simp [intOf] <;> omega
        · have tq : (p1 == 1) = false := by simp [q1]
          have he' : Hid (∀ x, x ∈ En ↔ (1, x) ∈ M.drop j) := by
            intro x; rw [hD.out, he.out x]; simp [Ne.symm q1]
          by_cases q2 : p1 = 2
          · subst q2
            go_wp2_with fail
            refine (l4At_any se ce En p2 w.heap.size _ hE.out.els (by omega)).mono ?_
            rintro e w' ⟨⟨r, rfl, hr⟩, rfl⟩
            rcases hr with ⟨rfl, hn⟩ | ⟨q, rfl, hq⟩
            · have hnS : ¬ (1, p2) ∈ M.drop (j + 1) := fun h => hn ((he.out p2).2 h)
              have hb' : Hid (∀ x, x ∈ Bg ++ [p2] ↔ begP (M.drop j) x) := by
                intro x
                rw [hD.out, List.mem_append, hb.out x]
                simp only [begP, List.mem_singleton, Prod.mk.injEq, true_and]
                constructor
                · rintro (h | rfl)
                  · exact Or.inl h
                  · exact Or.inr ⟨rfl, hnS⟩
                · rintro (h | ⟨rfl, _⟩)
                  · exact Or.inl h
                  · exact Or.inr rfl
              have lb2 : (Bg ++ [p2]).length + j ≤ M.length := by simp; omega
              have le2 : En.length + j ≤ M.length := by omega
              obtain ⟨R2, eR2⟩ : ∃ R2, Hid (Bg ++ [p2] = R2) := ⟨_, rfl⟩
              rw [eR2.out] at hb' lb2
              clear hb he hx hD hn hnS
              go_wp2_with (at_builtin; refine wpList_append_ints rfl _ _ rfl w.heap.size sb cb Bg rfl O5B.out w'.heap.size _ 1 [p2] rfl E5.out R2 eR2.out (by simp; omega) s5 ?_; intro s' c' w4 hO4 hg4 hn4)
              have hE4 : Hid (OI w4 w.heap.size (.slice se En.length ce) En) := O5E.out.keptO hg4 (fun g h1 h2 => hS.out g h2 h1)
              have b4 : Hid (Below w.heap.size w w4) := grown_oi B5.out s5 O5B.out hg4
              have hS4 : Hid (∀ g, (Value.slice s' R2.length c').ownBlock = some g → ¬ (Value.slice se En.length ce).ownBlock = some g) := by
                intro g h1 h2
                rcases hn4 g h1 with h3 | h3
                · exact hS.out g h3 h2
                · have := (hE.out.lt g h2).2; simp at h3; omega
              go_roundw
              case rel => exact ⟨j, by omega, by go_num, ⟨_, _, R2, _, _, En, rfl, rfl, hO4, hE4, hS4, hb', he', lb2, le2⟩, b4⟩
              case measure => simp [intOf] <;> omega
            · have hyS : (1, p2) ∈ M.drop (j + 1) := (he.out p2).1 (List.mem_of_getElem? hq)
              have hb' : Hid (∀ x, x ∈ Bg ↔ begP (M.drop j) x) := by
                intro x
                rw [hD.out, hb.out x]
                simp only [begP, Prod.mk.injEq, true_and]
                constructor
                · exact Or.inl
                · rintro (h | ⟨rfl, g⟩)
                  · exact h
                  · exact absurd hyS g
              have tr : decide ((q : Int) < 0) = false := by simp
              clear hb he hx hD hq hyS
              go_wp2_with fail
              go_roundw
              case rel => exact ⟨j, by omega, by go_num, ⟨_, _, Bg, _, _, En, rfl, rfl, hB, hE, hS, hb', he', by omega, by omega⟩, hbel⟩
              case measure => simp [intOf] <;> omega
          · have tq2 : (p1 == 2) = false := by simp [q2]
            have hb' : Hid (∀ x, x ∈ Bg ↔ begP (M.drop j) x) := by
              intro x; rw [hD.out, hb.out x]; simp [begP, q2]
            go_wp2_with fail
            go_roundw
            case rel => exact ⟨j, by omega, by go_num, ⟨_, _, Bg, _, _, En, rfl, rfl, hB, hE, hS, hb', he', by omega, by omega⟩, hbel⟩
            case measure => simp [intOf] <;> omega
      · obtain rfl : k = 0 := by omega
        have lBg : Bg.length ≤ 200 := by omega
        have hbs := hbel.out.size
        go_wp2_with fail
        refine (l10Sorted_any Bg.length Bg rfl (by omega) sb cb w.heap.size _ hB.out.els hB.out.cap).mono ?_
        rintro e w' ⟨⟨s', c', R, rfl, hO, hT⟩, hb2⟩
        have eQ : R = rnL M := asc_unique hT.1 (rnL_asc M) fun x => by
          rw [hT.2.1 x, hb.out x, mem_rnL, List.drop_zero]
        subst eQ
        go_wp2_with fail
        go_ret
        rw [eR.out]
        exact ⟨⟨s', c', rfl, hO.mono hbs⟩, bl_trans hbel.out (hb2)⟩
  · have t2 : decide (200 < (M.length : Int)) = true := by simp; omega
    have eR : Hid (runB M = []) := by unfold runB; rw [if_neg h2]; rfl
    go_enter Tryd.func11, Tryd.ntmps11
    go_wp2_with fail
    go_ret
    rw [eR.out]
    exact ⟨⟨_, _, rfl, HO0.out⟩, HL2.out⟩

theorem Eds.takeN {w : World} {s : Option Addr} {M : List (Int × Int)} (h : Eds w s M) (m : Nat) : Eds w s (M.take m) := by
  rcases h with rfl | ⟨b, o, e, h1, h2⟩
  · exact Or.inl (by simp)
  · refine Or.inr ⟨b, o, e, h1, fun j hj => ?_⟩
    have hj' : j < M.length := by simp at hj; omega
    have hjm : j < m := by simp at hj; omega
    have := h2 j hj'
    rw [List.getElem?_take, if_pos hjm]
    exact this
theorem wd_run {M : List (Int × Int)} (h : M.length ≤ 200) {k : Nat} (hk : k ≤ M.length) : runB (M.take k) = rnL (M.take k) := by
  unfold runB
  rw [if_pos (by simp; omega)]

end Go.Proofs.YtigllpegaljkmaaDoor
