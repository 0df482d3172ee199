import Derived.Test.YtknallkcengbbaaGreatDoorOc
import Derived.Test.YtknallkcengbbaaGreatDoorOd
namespace Go.Proofs.YtknallkcengbbaaGreatDoor
open Go.RowKit
set_option linter.unusedVariables false
set_option linter.unusedSimpArgs false

theorem FitL.same {K : Nat → List Int} {ok : Nat → Prop} {l : List Int} {a m : Nat} (h : FitL K ok l a m) : ∀ m', FitL K ok l a m' → m = m' := by
  induction h with
  | nil nx => intro m' g; cases g; rfl
  | cons nx k ks e _ _ _ _ _ ih =>
    intro m' g
    generalize hx : (k : Int) :: ks = l' at g
    cases g with
    | nil => cases hx
    | cons _ k' ks' _ _ _ _ g4 =>
      simp only [List.cons.injEq] at hx
      obtain ⟨e1, rfl⟩ := hx
      obtain rfl : k = k' := by omega
      exact ih m' g4
/-- a kind is of a class (10: a call alone). -/
def clsOk (cl kind : Int) : Prop := if cl = 10 then kind = 7 else cls kind = cl ∧ ¬ cl = 0
def kidsOf (t : Tre) (k : Nat) : List Int := ((t.nodes[k]?).map Nd.kids).getD []
/-- a node is right but for the order. -/
def okN (t : Tre) (k : Nat) : Prop := ∃ nd, t.nodes[k]? = some nd ∧ hasB nd.kind nd.text nd.num = true ∧ (shp nd.kind nd.kids.length).length = nd.kids.length ∧ ∀ (j : Nat) (x c : Int), nd.kids[j]? = some x → (shp nd.kind nd.kids.length)[j]? = some c → ∃ (m : Nat) (nd' : Nd), x = m ∧ t.nodes[m]? = some nd' ∧ clsOk c nd'.kind
/-- what l8Fits asks. -/
def FitN (t : Tre) (cl : Int) (k nx : Nat) : Prop := ∃ nd, t.nodes[k]? = some nd ∧ clsOk cl nd.kind ∧ nx ≤ k ∧ okN t k ∧ FitL (kidsOf t) (okN t) nd.kids nx k
theorem kidsOf_some {t : Tre} {k : Nat} {nd : Nd} (h : t.nodes[k]? = some nd) : kidsOf t k = nd.kids := by simp [kidsOf, h]
/-- the list 'seen'. -/
structure SeenIs (w : World) (g n : Nat) (f : Nat → Bool) : Prop where
  lt : g < w.heap.size
  cell : ∀ j, j < n → w.cell? ⟨g, j, none⟩ = some (.bool (f j))
  fz : ∀ j, w.frozen? ⟨g, j, none⟩ = false
theorem SeenIs.later {w w' : World} {g n : Nat} {f : Nat → Bool} (h : SeenIs w g n f) (hb : Below w.heap.size w w') : SeenIs w' g n f :=
  ⟨Nat.lt_of_lt_of_le h.lt hb.size, fun j hj => (hb.cell (p := ⟨g, j, none⟩) h.lt).trans (h.cell j hj), fun j => (hb.frozen (p := ⟨g, j, none⟩) h.lt).trans (h.fz j)⟩
theorem SeenIs.set {w : World} {g n : Nat} {f : Nat → Bool} (h : SeenIs w g n f) {k : Nat} (hk : k < n) : SeenIs (w.setCell ⟨g, k, none⟩ (.bool true)) g n (fun j => if j = k then true else f j) := by
  refine ⟨by simpa [World.setCell] using h.lt, fun j hj => ?_, fun j => (World.frozen?_setCell _ _ _ _).trans (h.fz j)⟩
  by_cases e : j = k
  · subst e
    rw [if_pos rfl]
    exact World.cell?_setCell_same _ _ _ (h.cell j hj)
  · rw [if_neg e]
    exact (World.cell?_setCell_other _ _ _ _ (fun q => e (by simp at q <;> omega))).trans (h.cell j hj)
/-- what l8Fits answers. -/
def FitsSays (t : Tre) (I cl : Int) (nx : Nat) (f : Nat → Bool) (g : Nat) (w : World) (e : Ending) (w' : World) : Prop :=
  w.grownBy w' (some g) ∧ ∃ f', SeenIs w' g t.nodes.length f' ∧ ((∃ k : Nat, I = k ∧ FitN t cl k nx ∧ e = .returned (.tuple #[.int .i64 ((k : Int) + 1), .bool true]) ∧ (∀ j, j ≤ k → f' j = true) ∧ ∀ j, k < j → f' j = f j) ∨ ((¬ ∃ k : Nat, I = k ∧ FitN t cl k nx) ∧ ∃ r, e = .returned (.tuple #[.int .i64 r, .bool false])))
theorem grown_bl {g : Nat} {a b c : World} (h : a.grownBy b (some g)) (hb : Below b.heap.size b c) : a.grownBy c (some g) := grown_trans h ⟨hb.os, hb.tape, hb.output, hb.size, fun k hk _ => hb.block k hk⟩
theorem Blk.grown {w w' : World} {n g : Nat} {c : Array Value} {t : TypeId} (h : Blk w n c t) (hg : w.grownBy w' (some g)) (hn : ¬ n = g) : Blk w' n c t := by
  unfold Blk
  rw [hg.block n h.lt (by simpa using hn)]
  exact h
/-! The letters that the program has for the classes of nodes. -/
/-- the letter of a kind. -/
def rl (k : Int) : UInt8 :=
  if k = 27 then 98 else if k = 28 then 99 else if k = 29 then 119 else if k = 30 then 111 else if k = 31 then 110 else if k = 32 then 112 else if k = 33 ∨ k = 34 then 116 else if 1 ≤ k ∧ k ≤ 11 then 101 else if 12 ≤ k ∧ k ≤ 26 then 115 else 63
/-- the letter of a class. -/
def ltr (c : Int) : UInt8 :=
  if c = 1 then 101 else if c = 2 then 115 else if c = 3 then 98 else if c = 4 then 119 else if c = 5 then 111 else if c = 6 then 110 else if c = 7 then 112 else if c = 8 then 99 else if c = 9 then 116 else 0
theorem rl_none {k : Int} (h : k < 1 ∨ 34 < k) : rl k = 63 := by
  unfold rl
  rw [if_neg (by omega), if_neg (by omega), if_neg (by omega), if_neg (by omega), if_neg (by omega), if_neg (by omega), if_neg (by omega), if_neg (by omega), if_neg (by omega)]
theorem rl_cls (k c : Int) (h1 : 1 ≤ c) (h9 : c ≤ 9) : rl k = ltr c ↔ cls k = c := by
  have hc : c = 1 ∨ c = 2 ∨ c = 3 ∨ c = 4 ∨ c = 5 ∨ c = 6 ∨ c = 7 ∨ c = 8 ∨ c = 9 := by omega
  rcases kind_split k with h | h | h
  · rw [rl_none (Or.inl h), cls_none (Or.inl h)]
    clear h
    rcases hc with rfl | rfl | rfl | rfl | rfl | rfl | rfl | rfl | rfl <;> decide
  · rw [rl_none (Or.inr h), cls_none (Or.inr h)]
    clear h
    rcases hc with rfl | rfl | rfl | rfl | rfl | rfl | rfl | rfl | rfl <;> decide
  · rcases h with rfl | rfl | rfl | rfl | rfl | rfl | rfl | rfl | rfl | rfl | rfl | rfl | rfl | rfl | rfl | rfl | rfl | rfl | rfl | rfl | rfl | rfl | rfl | rfl | rfl | rfl | rfl | rfl | rfl | rfl | rfl | rfl | rfl | rfl <;> (rcases hc with rfl | rfl | rfl | rfl | rfl | rfl | rfl | rfl | rfl <;> decide)
theorem clsOk_rl (k c : Int) (h1 : 1 ≤ c) (h9 : c ≤ 9) : clsOk c k ↔ rl k = ltr c := by
  rw [rl_cls k c h1 h9]
  unfold clsOk
  rw [if_neg (by omega)]
  exact ⟨fun h => h.1, fun h => ⟨h, by omega⟩⟩
/-- kids of these kinds are of these classes. -/
def Fit2 (cs ks : List Int) : Prop := cs.length = ks.length ∧ ∀ (j : Nat) (x c : Int), ks[j]? = some x → cs[j]? = some c → clsOk c x
theorem Fit2.cons {c k : Int} {cs ks : List Int} : Fit2 (c :: cs) (k :: ks) ↔ clsOk c k ∧ Fit2 cs ks := by
  constructor
  · rintro ⟨h1, h2⟩
    exact ⟨h2 0 k c rfl rfl, by simpa using h1, fun j x d e1 e2 => h2 (j + 1) x d (by simpa using e1) (by simpa using e2)⟩
  · rintro ⟨h0, h1, h2⟩
    refine ⟨by simp [h1], fun j x d e1 e2 => ?_⟩
    cases j with
    | zero => simp at e1 e2; subst e1; subst e2; exact h0
    | succ j => exact h2 j x d (by simpa using e1) (by simpa using e2)
theorem fit_map {cs : List Int} : ∀ {ks : List Int}, (∀ c ∈ cs, 1 ≤ c ∧ c ≤ 9) → (Fit2 cs ks ↔ ks.map rl = cs.map ltr) := by
  induction cs with
  | nil =>
    intro ks _
    cases ks with
    | nil => simp [Fit2]
    | cons k ks => simp [Fit2]
  | cons c cs ih =>
    intro ks h
    cases ks with
    | nil => simp [Fit2]
    | cons k ks =>
      have hc := h c (by simp)
      rw [Fit2.cons, clsOk_rl k c hc.1 hc.2, ih (fun d hd => h d (by simp [hd]))]
      simp
/-- the kinds of kids are as a kind wants them. -/
def KidsP (kind : Int) (ks : List Int) : Prop := Fit2 (shp kind ks.length) ks
theorem kids_const {kind : Int} (cs : List Int) {ks : List Int} (h : ∀ n, shp kind n = cs) (h9 : ∀ c ∈ cs, 1 ≤ c ∧ c ≤ 9) : KidsP kind ks ↔ ks.map rl = cs.map ltr := by
  unfold KidsP
  rw [h]
  exact fit_map h9
theorem all_rep {a : UInt8} {l : List UInt8} : l = List.replicate l.length a ↔ ∀ b ∈ l, b = a := by
  constructor
  · intro h b hb
    rw [h] at hb
    exact (List.mem_replicate.1 hb).2
  · intro h
    exact List.eq_replicate_iff.2 ⟨rfl, h⟩
theorem kids_rep {kind c : Int} {ks : List Int} (h : ∀ n, shp kind n = List.replicate n c) (h9 : 1 ≤ c ∧ c ≤ 9) : KidsP kind ks ↔ ∀ b ∈ ks.map rl, b = ltr c := by
  unfold KidsP
  rw [h, fit_map (fun d hd => by obtain rfl := (List.mem_replicate.1 hd).2; exact h9), ← all_rep]
  simp
theorem kids_pick {ks : List Int} : KidsP 11 ks ↔ ∃ r, ks.map rl = 101 :: 110 :: r ∧ ∀ b ∈ r, b = 110 := by
  have hs : ∀ n, shp 11 n = 1 :: 6 :: List.replicate (n - 2) 6 := fun n => by simp [shp]
  unfold KidsP
  rw [hs, fit_map (by
    intro c hc
    simp at hc
    rcases hc with rfl | rfl | ⟨_, rfl⟩ <;> decide)]
  have e1 : (1 :: 6 :: List.replicate (ks.length - 2) 6 : List Int).map ltr = 101 :: 110 :: List.replicate (ks.length - 2) 110 := by
    simp [List.map_replicate]
    refine ⟨by decide, by decide, Or.inr (by decide)⟩
  rw [e1]
  constructor
  · intro h
    exact ⟨_, h, fun b hb => (List.mem_replicate.1 hb).2⟩
  · rintro ⟨r, h1, h2⟩
    rw [h1]
    have hl : (ks.map rl).length = r.length + 2 := by rw [h1]; rfl
    rw [List.length_map] at hl
    have : ks.length - 2 = r.length := by omega
    rw [this, ← all_rep.2 h2]
theorem kids_if {ks : List Int} : KidsP 16 ks ↔ (ks.map rl = [101, 98] ∨ ks.map rl = [101, 98, 98]) := by
  unfold KidsP
  by_cases h : ks.length = 3
  · have hs : shp 16 ks.length = [1, 3, 3] := by simp [shp, h]
    rw [hs, fit_map (by decide)]
    have e1 : ([1, 3, 3] : List Int).map ltr = [101, 98, 98] := by decide
    rw [e1]
    exact ⟨Or.inr, fun g => g.elim (fun g => by have := congrArg List.length g; simp [h] at this) id⟩
  · have hs : shp 16 ks.length = [1, 3] := by simp [shp, h]
    rw [hs, fit_map (by decide)]
    have e1 : ([1, 3] : List Int).map ltr = [101, 98] := by decide
    rw [e1]
    exact ⟨Or.inl, fun g => g.elim id (fun g => by have := congrArg List.length g; simp at this; omega)⟩
theorem kids_with {ks : List Int} : KidsP 29 ks ↔ (¬ ks.map rl = [] ∧ ∀ b ∈ ks.map rl, b = 110) := by
  have hs : ∀ n, shp 29 n = 6 :: List.replicate (n - 1) 6 := fun n => by simp [shp]
  unfold KidsP
  rw [hs, fit_map (by
    intro c hc
    simp at hc
    rcases hc with rfl | ⟨_, rfl⟩ <;> decide)]
  have e1 : (6 :: List.replicate (ks.length - 1) 6 : List Int).map ltr = 110 :: List.replicate (ks.length - 1) 110 := by
    simp [List.map_replicate]
    refine ⟨by decide, Or.inr (by decide)⟩
  rw [e1]
  constructor
  · intro h
    rw [h]
    exact ⟨by simp, fun b hb => by
      rcases List.mem_cons.1 hb with rfl | hb
      · rfl
      · exact (List.mem_replicate.1 hb).2⟩
  · rintro ⟨h1, h2⟩
    cases hk : ks.map rl with
    | nil => exact absurd hk h1
    | cons a r =>
      rw [hk] at h2
      have hl := congrArg List.length hk
      simp at hl
      have : ks.length - 1 = r.length := by omega
      rw [this, ← all_rep.2 (fun b hb => h2 b (by simp [hb])), h2 a (by simp)]
theorem kids_fn {ks : List Int} : KidsP 33 ks ↔ ∃ r, ks.map rl = r ++ [98] ∧ ∀ b ∈ r, b = 112 := by
  have hs : ∀ n, shp 33 n = List.replicate (n - 1) 7 ++ [3] := fun n => by simp [shp]
  unfold KidsP
  rw [hs, fit_map (by
    intro c hc
    simp at hc
    rcases hc with ⟨_, rfl⟩ | rfl <;> decide)]
  have e1 : (List.replicate (ks.length - 1) 7 ++ [3] : List Int).map ltr = List.replicate (ks.length - 1) 112 ++ [98] := by
    simp [List.map_replicate]
    have h1 : ltr 7 = 112 := by decide
    have h2 : ltr 3 = 98 := by decide
    rw [h1, h2]
    exact ⟨Or.inr rfl, rfl⟩
  rw [e1]
  constructor
  · intro h
    exact ⟨_, h, fun b hb => (List.mem_replicate.1 hb).2⟩
  · rintro ⟨r, h1, h2⟩
    have hl := congrArg List.length h1
    simp at hl
    have : ks.length - 1 = r.length := by omega
    rw [this, ← all_rep.2 h2, h1]
theorem kids_do {ks : List Int} : KidsP 25 ks ↔ (ks.map rl = [101] ∧ ks[0]? = some 7) := by
  have hs : ∀ n, shp 25 n = [10] := fun n => by simp [shp]
  unfold KidsP
  rw [hs]
  cases ks with
  | nil => simp [Fit2]
  | cons k ks =>
    rw [Fit2.cons]
    cases ks with
    | nil =>
      have h1 : Fit2 [] [] := ⟨rfl, fun j x c e => by simp at e⟩
      constructor
      · rintro ⟨h, _⟩
        simp [clsOk] at h
        subst h
        exact ⟨by decide, rfl⟩
      · rintro ⟨_, h⟩
        simp at h
        exact ⟨by simp [clsOk, h], h1⟩
    | cons a b => simp [Fit2]
theorem kids_none {kind : Int} (h : kind < 1 ∨ 34 < kind) {ks : List Int} : KidsP kind ks ↔ ks.map rl = [] := kids_const [] (fun n => shp_none h n) (by simp)
/-- the kind of a node that is named by its number. -/
def kkAt (t : Tre) (x : Int) : Int := ((t.nodes[x.toNat]?).map Nd.kind).getD 0
theorem okN_kids {t : Tre} {k : Nat} {nd : Nd} (hk : t.nodes[k]? = some nd) (hv : ∀ x ∈ nd.kids, ∃ m : Nat, x = m ∧ m < t.nodes.length) :
    okN t k ↔ (hasB nd.kind nd.text nd.num = true ∧ KidsP nd.kind (nd.kids.map (kkAt t))) := by
  unfold okN KidsP Fit2
  simp only [List.length_map]
  constructor
  · rintro ⟨nd', e1, h1, h2, h3⟩
    rw [hk] at e1
    cases e1
    refine ⟨h1, h2, fun j x c e2 e3 => ?_⟩
    rw [List.getElem?_map] at e2
    cases hx : nd.kids[j]? with
    | none => simp [hx] at e2
    | some y =>
      simp [hx] at e2
      obtain ⟨m, nd', rfl, e5, e6⟩ := h3 j y c hx e3
      subst e2
      simp [kkAt, e5]
      exact e6
  · rintro ⟨h1, h2, h3⟩
    refine ⟨nd, hk, h1, h2, fun j x c e2 e3 => ?_⟩
    obtain ⟨m, rfl, hm⟩ := hv x (List.mem_of_getElem? e2)
    have := h3 j (kkAt t m) c (by simp [List.getElem?_map, e2]) e3
    refine ⟨m, t.nodes[m], rfl, by simp [hm], ?_⟩
    simpa [kkAt, hm] using this
end Go.Proofs.YtknallkcengbbaaGreatDoor
