import Derived.Test.YtofpkbnocbmgkaaQa
import Derived.Test.YtofpkbnocbmgkaaTf
import Derived.Test.YtofpkbnocbmgkaaSk
import Derived.Maps.AppendAt
namespace Go.Proofs.Ytofpkbnocbmgkaa
open Go.RowKit
set_option linter.unusedVariables false
set_option linter.unusedSimpArgs false

set_option maxHeartbeats 2000000 in
theorem markEntS_more (B g cap : Nat) (L : List (Int × Int)) (w : World) (h : ERow w B (.slice (some ⟨g, 0, none⟩) L.length cap) L) (hl : L.length ≤ 67108864) :
    Calls Try.prog 23 #[.slice (some ⟨g, 0, none⟩) L.length cap, .int .i64 1] w fun e w' => e = .returned (.int .i64 (1 + 2 * L.length)) ∧ ERow w' B (.slice (some ⟨g, 0, none⟩) L.length cap) (emarks 1 L.length) ∧ w.grownBy w' (some g) := by
  go_enter Try.func23, Try.ntmps23
  go_wp2_with fail
  go_loopw [1, 5] (fun c i wr => ∃ m : Nat, m ≤ L.length ∧ i = .int .i64 m ∧ c = .int .i64 (1 + 2 * m) ∧ ERow wr B (.slice (some ⟨g, 0, none⟩) L.length cap) (emarks 1 m ++ L.drop m) ∧ w.grownBy wr (some g)) (fun _ i _ => L.length - (intOf i).toNat)
  case atStart => exact ⟨0, Nat.zero_le _, rfl, by simp, by simpa [emarks] using h, grown_refl _ _⟩
  case round =>
    obtain ⟨m, hm, rfl, rfl, hr, hg⟩ := hrel
    by_cases hlt : m < L.length
    · have hlen : (emarks 1 m ++ L.drop m).length = L.length := by simp [emarks_len]; omega
      have hcut : emarks 1 m ++ L.drop m = emarks 1 m ++ L[m] :: L.drop (m + 1) := by rw [List.drop_eq_getElem_cons hlt]
      have hp := ERow.put (L := emarks 1 m ++ L.drop m) (cap := cap) (g := g) (B := B) (w := wr) (by rw [hlen]; exact hr) hcut (1 + 2 * (m : Int)) (1 + 2 * (m : Int) + 1)
      rw [hlen, emarks_len, Nat.mul_comm 2 m] at hp
      rw [show emarks 1 m ++ (1 + 2 * (m : Int), 1 + 2 * (m : Int) + 1) :: L.drop (m + 1) = emarks 1 (m + 1) ++ L.drop (m + 1) by simp [emarks]] at hp
      have hform := hr.form
      rcases hform with ⟨hv, hL⟩ | ⟨g', cap', hv, h1, h2, h3⟩
      · simp at hv
      simp only [Value.slice.injEq, Option.some.injEq, Addr.mk.injEq, and_true] at hv
      obtain ⟨rfl, -, -⟩ := hv
      obtain ⟨p, q, r, t⟩ := h3 m L[m] (by rw [hcut, List.getElem?_append_right (by rw [emarks_len]; omega), emarks_len]; simp)
      rw [Nat.mul_comm 2 m] at p q r t
      obtain ⟨a1, ha1⟩ : ∃ a, L[m].1 = a := ⟨_, rfl⟩
      obtain ⟨a2, ha2⟩ : ∃ a, L[m].2 = a := ⟨_, rfl⟩
      rw [ha1] at p
      rw [ha2] at q
      clear h3 hcut h1 h2 hlen h ha1 ha2
      go_wp2_with fail
      go_roundw
      case rel => exact ⟨m + 1, by omega, by go_num, by go_num, hp.1, grown_trans hg hp.2⟩
      case measure => simp [intOf]; omega
    · have hm' : m = L.length := by omega
      subst hm'
      go_wp2_with fail
      go_ret
      exact ⟨rfl, by simpa using hr, hg⟩

/-- .. of whatever list, a nil one too. -/
theorem markEntS_full (B : Nat) (v : Value) (L : List (Int × Int)) (w : World) (h : ERow w B v L) (hl : L.length ≤ 67108864) :
    Calls Try.prog 23 #[v, .int .i64 1] w fun e w' => e = .returned (.int .i64 (1 + 2 * L.length)) ∧ ERow w' B v (emarks 1 L.length) ∧ w.grownBy w' v.ownBlock := by
  rcases h.form with ⟨rfl, rfl⟩ | ⟨g, cap, rfl, h1, h2, h3⟩
  · go_enter Try.func23, Try.ntmps23
    go_wp2_with fail
    refine wp_loop_rounds 1 ?_
    rw [rounds_succ]
    go_wp2_with fail
    go_ret
    exact ⟨rfl, ERow.nil _ _, grown_refl _ _⟩
  · exact markEntS_more B g cap L w h hl

set_option maxHeartbeats 2000000 in
theorem heldEntS_more (g cap n : Nat) (w : World) (h : EList w (.slice (some ⟨g, 0, none⟩) n cap) (emarks 1 n)) (hl : n ≤ 67108864) :
    Calls Try.prog 24 #[.slice (some ⟨g, 0, none⟩) n cap, .int .i64 1] w fun e w' => e = .returned (.int .i64 (1 + 2 * n)) ∧ Below w.heap.size w w' := by
  have hc : 0 < n → ∀ j, j < n → w.cell? ⟨g, j * 2, none⟩ = some (.int .i64 (1 + 2 * (j : Int))) ∧ w.cell? ⟨g, j * 2 + 1, none⟩ = some (.int .i64 (1 + 2 * (j : Int) + 1)) := by
    intro h0
    rcases h with ⟨s, c, hv, hL⟩ | ⟨g', c, hv, h1, h2⟩
    · have := congrArg List.length hL; rw [emarks_len] at this; simp at this; omega
    · simp only [Value.slice.injEq, Option.some.injEq, Addr.mk.injEq, and_true] at hv
      obtain ⟨rfl, -, -⟩ := hv
      intro j hj
      have := h2 j (by rw [emarks_len]; exact hj)
      rw [emarks_get 1 n j hj] at this
      exact this
  clear h
  go_enter Try.func24, Try.ntmps24
  go_wp2_with fail
  go_loop [1, 5] (fun c i => ∃ m : Nat, m ≤ n ∧ i = .int .i64 m ∧ c = .int .i64 (1 + 2 * m)) (fun _ i => n - (intOf i).toNat)
  case atStart => exact ⟨0, Nat.zero_le _, rfl, by simp⟩
  case round =>
    obtain ⟨m, hm, rfl, rfl⟩ := hrel
    by_cases hlt : m < n
    · obtain ⟨p, q⟩ := hc (by omega) m hlt
      clear hc
      go_wp2_with fail
      go_round
      case rel => exact ⟨m + 1, by omega, by go_num, by go_num⟩
      case measure => simp [intOf]; omega
    · have hm' : m = n := by omega
      subst hm'
      clear hc
      go_wp2_with fail
      go_ret
      exact ⟨rfl, Below.refl _ _⟩

theorem heldEntS_full (B : Nat) (v : Value) (L : List (Int × Int)) (n : Nat) (w : World) (h : ERow w B v L) (hL : L = emarks 1 n) (hl : n ≤ 67108864) :
    Calls Try.prog 24 #[v, .int .i64 1] w fun e w' => e = .returned (.int .i64 (1 + 2 * n)) ∧ Below w.heap.size w w' := by
  subst hL
  have hi := h.list
  rcases h.form with ⟨rfl, h0⟩ | ⟨g, cap, rfl, h1, h2, h3⟩
  · have h0' : n = 0 := by have := congrArg List.length h0; rw [emarks_len] at this; simpa using this
    subst h0'
    go_enter Try.func24, Try.ntmps24
    go_wp2_with fail
    refine wp_loop_rounds 1 ?_
    rw [rounds_succ]
    go_wp2_with fail
    go_ret
    exact ⟨rfl, Below.refl _ _⟩
  · rw [emarks_len] at hi ⊢
    exact heldEntS_more g cap n w hi hl

set_option maxHeartbeats 4000000 in
theorem eqEntS_more (v u : Value) (L : List (Int × Int)) (w : World) (hL : EList w v L) (hM : EList w u L) (hl : L.length ≤ 67108864) :
    Calls Try.prog 19 #[v, u] w fun e w' => e = .returned (.bool true) ∧ Below w.heap.size w w' := by
  have hal := alloc_old
  have haf := alloc_oldf
  obtain ⟨s, c, rfl⟩ := hL.shape
  obtain ⟨s', c', rfl⟩ := hM.shape
  go_enter Try.func19, Try.ntmps19
  go_wp2_with fail
  go_loopw [5] (fun i wr => ∃ m : Nat, m ≤ L.length ∧ i = .int .i64 m ∧ Below w.heap.size w wr) (fun i _ => L.length - (intOf i).toNat)
  case atStart => exact ⟨0, Nat.zero_le _, rfl, Below.refl _ _⟩
  case round =>
    obtain ⟨m, hm, rfl, hbel⟩ := hrel
    by_cases hlt : m < L.length
    · obtain ⟨g, c1, hv, hcg⟩ := hL.get hlt
      obtain ⟨h, c2, hu, hch⟩ := hM.get hlt
      simp only [Value.slice.injEq, true_and] at hv hu
      obtain ⟨rfl, rfl⟩ := hv
      obtain ⟨rfl, rfl⟩ := hu
      obtain ⟨a, ha⟩ : ∃ a, (L[m]?.getD (0, 0)).1 = a := ⟨_, rfl⟩
      obtain ⟨b, hb⟩ : ∃ a, (L[m]?.getD (0, 0)).2 = a := ⟨_, rfl⟩
      rw [ha, hb] at hcg hch
      obtain ⟨p1, p2⟩ := hcg wr hbel
      obtain ⟨q1, q2⟩ := hch wr hbel
      have hlt' : (m : Int) < (L.length : Int) := by omega
      clear hcg hch ha hb hL hM
      go_wp2_with fail
      go_region_with (first
        | (go_at_call 52; refine (eqEnt_any a b a b _).mono ?_; rintro e w2 ⟨rfl, hb2⟩; rw [show (a == a && b == b) = true by simp]))
      all_goals
        go_wp2_with fail
        go_roundw
        case rel =>
          refine ⟨m + 1, by omega, by go_num, ?_⟩
          (repeat (first | with_reducible exact Below.refl _ _ | with_reducible refine bl_alloc ?_ _ | with_reducible refine bl_drewN ?_ _ | with_reducible refine bl_drew ?_ | with_reducible refine bl_setCell ?_ (by first | exact Nat.le_refl _ | (dsimp only; omega) | (simp <;> omega)) _ | with_reducible refine bl_trans ?_ (by with_reducible assumption)))
        case measure => simp [intOf]; omega
    · have hm' : m = L.length := by omega
      clear hm'
      go_wp2_with fail
      go_ret
      exact ⟨rfl, hbel⟩

set_option maxHeartbeats 1000000 in
theorem l4At_any (s : Option Addr) (c : Nat) (L : List Int) (x : Int) (B : Nat) (w : World) (hL : Els 1 cInt w B s L) (hl : L.length ≤ 1048576) :
    Calls Try.prog 39 #[.slice s L.length c, .int .i64 x] w fun e w' => (∃ r : Int, e = .returned (.int .i64 r) ∧ ((r = -1 ∧ ¬ x ∈ L) ∨ ∃ q : Nat, r = q ∧ L[q]? = some x)) ∧ w' = w := by
  have HL : Hid (Els 1 cInt w B s L) := hL
  clear hL
  go_enter Try.func39, Try.ntmps39
  go_wp2_with fail
  go_loopw [5] (fun i wr => ∃ k : Nat, k ≤ L.length ∧ i = .int .i64 k ∧ wr = w ∧ Hid (∀ (j : Nat) a, j < k → L[j]? = some a → ¬ a = x)) (fun i _ => L.length - (intOf i).toNat)
  case atStart => exact ⟨0, Nat.zero_le _, rfl, rfl, fun j a hj => absurd hj (Nat.not_lt_zero _)⟩
  case round =>
    obtain ⟨k, hk, rfl, rfl, hN⟩ := hrel
    by_cases hlt : k < L.length
    · obtain ⟨a, ha⟩ := get_some hlt
      obtain ⟨b, o, rfl, _, hp, e1⟩ := eInt_cells HL.out ha
      have HA : Hid (L[k]? = some a) := ha
      have kI0 : (0 : Int) ≤ (k : Int) := by omega
      have kI1 : (k : Int) < (L.length : Int) := by omega
      clear ha
      by_cases hax : a = x
      · subst hax
        go_wp2_with fail
        go_ret
        exact ⟨⟨_, rfl, Or.inr ⟨k, rfl, HA.out⟩⟩, rfl⟩
      · have tb : (a == x) = false := by simp [hax]
        have hn : Hid (∀ (j : Nat) v, j < k + 1 → L[j]? = some v → ¬ v = x) := by
          intro j v hj hv
          by_cases e : j = k
          · subst e; rw [HA.out] at hv; cases hv; exact hax
          · exact hN.out j v (by omega) hv
        clear hN hax
        go_wp2_with fail
        go_roundw
        case rel => exact ⟨k + 1, by omega, by go_num, trivial, hn⟩
        case measure => simp [intOf]; omega
    · have hk' : k = L.length := by omega
      subst hk'
      go_wp2_with fail
      go_ret
      refine ⟨⟨_, rfl, Or.inl ⟨rfl, fun hx => ?_⟩⟩, rfl⟩
      obtain ⟨j, hj, he⟩ := List.getElem_of_mem hx
      exact hN.out j _ hj (List.getElem?_eq_getElem hj) he

theorem run_append_none (w : World) (ty : TypeId) (b : Option Addr) (l c d : Nat) (h : l ≤ c) : (Builtin.append_ #[57, 57] ty #[.slice b l c, .slice none 0 d]).run Try.prog w = .ok (.slice b l c) w := by
  obtain ⟨i0, hi, hz0, hz1, hz2⟩ := info_parts Try.infoE
  cases b with
  | none => simp [Builtin.append_, run_underlying Try.underlying57, sizeOf, typeInfo, hi, Builtin.lenOf, h, run_firstCells_none]
  | some a => simp [Builtin.append_, run_underlying Try.underlying57, sizeOf, typeInfo, hi, Builtin.lenOf, h, run_firstCells_none, storeCells]
theorem ERow.cap {w : World} {B : Nat} {s : Option Addr} {n c : Nat} {L : List E2} (h : ERow w B (.slice s n c) L) : n ≤ c := by
  rcases h.2 with ⟨h1, _⟩ | ⟨g, cap, cur, h1, _, _, h2, _⟩
  · simp only [Value.slice.injEq] at h1; omega
  · simp only [Value.slice.injEq] at h1
    obtain ⟨_, rfl, rfl⟩ := h1
    exact h2
theorem ERow.shape {w : World} {B : Nat} {v : Value} {L : List E2} (h : ERow w B v L) : ∃ s c, v = .slice s L.length c := by
  rcases h.form with ⟨rfl, rfl⟩ | ⟨g, cap, rfl, _⟩
  · exact ⟨_, _, rfl⟩
  · exact ⟨_, _, rfl⟩
theorem ecells_one (L : List E2) : ∀ u ∈ ecells L, u.oneCell' = true := by
  intro u hu
  simp only [ecells, List.mem_flatMap] at hu
  obtain ⟨t, _, ht⟩ := hu
  simp only [List.mem_cons, List.not_mem_nil, or_false] at ht
  rcases ht with rfl | rfl <;> rfl
/-- where an append leaves the list: where it was, or in the next block. -/
def Near (w : World) (v v' : Value) : Prop := ∀ g, v'.ownBlock = some g → v.ownBlock = some g ∨ g = w.heap.size
theorem append_ents (w : World) (ty : TypeId) (Bs : Nat) (s : Option Addr) (c : Nat) (L : List E2) (hv : ERow w Bs (.slice s L.length c) L) (B0 : Nat) (t : Option Addr) (d : Nat) (M : List E2) (hM : Els 2 cEnt w B0 t M) (hl : L.length + M.length ≤ 67108864) (hB : Bs ≤ w.heap.size) :
    ∃ s' c' w', (Builtin.append_ #[57, 57] ty #[.slice s L.length c, .slice t M.length d]).run Try.prog w = .ok (.slice s' (L ++ M).length c') w' ∧ ERow w' Bs (.slice s' (L ++ M).length c') (L ++ M) ∧ w.grownBy w' (Value.slice s L.length c).ownBlock ∧ Near w (.slice s L.length c) (.slice s' (L ++ M).length c') := by
  have hnone : t = none → M = [] := by
    rintro rfl
    rcases hM with h | ⟨b, o, e, _⟩
    · exact h
    · cases e
  cases t with
  | none =>
    have := hnone rfl
    subst this
    refine ⟨s, c, w, ?_, ?_, grown_refl _ _, ?_⟩
    · rw [List.append_nil]; exact run_append_none w ty s L.length c d hv.cap
    · rw [List.append_nil]; exact hv
    · intro g hg; rw [List.append_nil] at hg; exact Or.inl hg
  | some a =>
    obtain ⟨i0, hi, hz0, hz1, hz2⟩ := info_parts Try.infoE
    have hnews : ∀ j u, (ecells M)[j]? = some u → w.cell? (a.add j) = some u := by
      intro j u hu
      have hj : j < 2 * M.length := by have := (List.getElem?_eq_some_iff.1 hu).1; rw [ecells_len] at this; omega
      rcases hM with h | ⟨b, o, e, _, _, h3, _⟩
      · subst h; simp at hj
      · cases e
        obtain ⟨p, hp⟩ := get_some (L := M) (k := j / 2) (by omega)
        obtain ⟨cs, e1, e2, e3⟩ := h3 (j / 2) p hp
        have e3 : cs = [.int .i64 p.1, .int .i64 p.2] := e3
        subst e3
        obtain ⟨q0, q1⟩ := ecells_get M (j / 2) p hp
        rw [Go.WideShapes.add_plain]
        rcases Nat.mod_two_eq_zero_or_one j with h | h
        · rw [show 2 * (j / 2) = j by omega] at q0
          rw [q0] at hu
          cases hu
          have := e2 0 _ rfl
          rw [show o + j / 2 * 2 + 0 = o + j by omega] at this
          exact this
        · rw [show 2 * (j / 2) + 1 = j by omega] at q1
          rw [q1] at hu
          cases hu
          have := e2 1 _ rfl
          rw [show o + j / 2 * 2 + 1 = o + j by omega] at this
          exact this
    obtain ⟨v', w', hrun, h2, h3, _, h5⟩ := run_append_own_at (P := Try.prog) w Bs 57 ty 51 i0 (.agg #[.int .i64 0, .int .i64 0]) 2 16 Try.underlying57 hi hz0 hz1 hz2 rfl (by decide) (.slice s L.length c) L.length (ecells L) hv a M.length d (ecells M) (by rw [ecells_len]) hnews (ecells_one M) (by unfold maxLen; omega) (by omega) hB
    have hO : ERow w' Bs v' (L ++ M) := by
      unfold ERow
      rw [List.length_append, ecells_app]
      exact h2
    obtain ⟨s', c', rfl⟩ := hO.shape
    refine ⟨s', c', w', hrun, hO, h3, ?_⟩
    intro q hq
    rcases h5 with h5 | h5
    · left; rw [← h5]; exact hq
    · right; rw [h5] at hq; cases hq; rfl
theorem wpList_append_ents {w : World} {ops : Array Oper} {rest : List Oper} {o : Oper} {a : Act} {Q : Exit → Act → World → Prop}
    (hgd : o.guard = none) (s x : Operand) (hop : o.op = Op.call { callee := Callee.builtin Builtin.append, args := #[s, x], argTypes := #[57, 57] })
    (Bs : Nat) (s0 : Option Addr) (c0 : Nat) (L : List E2) (hs : a.eval s = .slice s0 L.length c0) (hv : ERow w Bs (.slice s0 L.length c0) L) (B0 : Nat) (t : Option Addr) (d : Nat) (M : List E2) (hx : a.eval x = .slice t M.length d) (hM : Els 2 cEnt w B0 t M) (R : List E2) (hR : L ++ M = R) (hl : L.length + M.length ≤ 67108864) (hB : Bs ≤ w.heap.size)
    (h : ∀ s' c' w', ERow w' Bs (.slice s' R.length c') R → w.grownBy w' (Value.slice s0 L.length c0).ownBlock → Near w (.slice s0 L.length c0) (.slice s' R.length c') → wpList Try.prog ops Q rest (a.put o.dst (.slice s' R.length c')) w') :
    wpList Try.prog ops Q (o :: rest) a w := by
  refine wpList_plain hgd fun K hK => ?_
  obtain ⟨s', c', w', hrun, h1, h2, h3⟩ := append_ents w o.type Bs s0 c0 L hv B0 t d M hM hl hB
  rw [hR] at hrun h1 h3
  unfold Oper.wp
  simp [execOp, hop, resolve, invoke, builtin, hs, hx, hrun, Result.andThen]
  exact hK _ _ (h s' c' w' h1 h2 h3)

/-- does a table have all of the one list and none of the other? -/
def fitB (t : Tab) (A C : List Int) : Bool := A.all (fun x => decide (x ∈ t.cols)) && C.all (fun x => !decide (x ∈ t.cols))
def mtL (T : List Tab) (A C : List Int) : List E2 := (T.filter (fun t => fitB t A C)).flatMap (fun t => t.rows)
def mtW (T : List Tab) (A C : List Int) : List E2 := if T.length ≤ 40 ∧ A.length ≤ 12 ∧ C.length ≤ 12 then mtL T A C else []
theorem mtL_succ {T : List Tab} {A C : List Int} {k : Nat} {t : Tab} (h : T[k]? = some t) : mtL (T.take (k + 1)) A C = mtL (T.take k) A C ++ (if fitB t A C then t.rows else []) := by
  have hk : k < T.length := (List.getElem?_eq_some_iff.1 h).1
  rw [List.take_succ_eq_append_getElem hk]
  have e : T[k] = t := by rw [List.getElem?_eq_getElem hk] at h; simpa using h
  rw [e]
  unfold mtL
  rw [List.filter_append, List.flatMap_append]
  congr 1
  cases hf : fitB t A C <;> simp [hf]
theorem mtL_len {T : List Tab} {A C : List Int} (hk : ∀ t ∈ T, t.rows.length ≤ 1048576) : ∀ (m : Nat), m ≤ T.length → (mtL (T.take m) A C).length ≤ 1048576 * m
  | 0, _ => by simp [mtL]
  | m + 1, h => by
    obtain ⟨t, ht⟩ := get_some (L := T) (k := m) (by omega)
    have h1 := mtL_len (A := A) (C := C) hk m (by omega)
    have h2 := hk t (List.mem_of_getElem? ht)
    rw [mtL_succ ht, List.length_append]
    cases fitB t A C
    · simp; omega
    · simp only [if_true]; omega
/-- how many of a list stand in another one. -/
def cnt (cols asked : List Int) : Nat := (asked.filter (fun x => decide (x ∈ cols))).length
theorem cnt_succ {cols asked : List Int} {k : Nat} {x : Int} (h : asked[k]? = some x) : cnt cols (asked.take (k + 1)) = cnt cols (asked.take k) + (if decide (x ∈ cols) then 1 else 0) := by
  have hk : k < asked.length := (List.getElem?_eq_some_iff.1 h).1
  rw [List.take_succ_eq_append_getElem hk]
  have e : asked[k] = x := by rw [List.getElem?_eq_getElem hk] at h; simpa using h
  rw [e]
  unfold cnt
  rw [List.filter_append, List.length_append]
  congr 1
  by_cases hx : x ∈ cols <;> simp [hx]
theorem cnt_all (cols : List Int) (A : List Int) : (((cnt cols A : Nat) : Int) == (A.length : Int)) = A.all (fun x => decide (x ∈ cols)) := by
  rw [Bool.eq_iff_iff]
  unfold cnt
  simp only [beq_iff_eq, List.all_eq_true, decide_eq_true_eq]
  constructor
  · intro h x hx
    have := List.length_filter_eq_length_iff.1 (Int.ofNat.inj h) x hx
    simpa using this
  · intro h
    congr 1
    exact List.length_filter_eq_length_iff.2 (fun x hx => by simpa using h x hx)
theorem cnt_none (cols : List Int) (A : List Int) : (((cnt cols A : Nat) : Int) == 0) = A.all (fun x => !decide (x ∈ cols)) := by
  rw [Bool.eq_iff_iff]
  unfold cnt
  simp only [beq_iff_eq, List.all_eq_true]
  constructor
  · intro h x hx
    have h' : (A.filter (fun x => decide (x ∈ cols))).length = 0 := by omega
    have := List.filter_eq_nil_iff.1 (List.length_eq_zero_iff.1 h') x hx
    simpa using this
  · intro h
    have : A.filter (fun x => decide (x ∈ cols)) = [] := List.filter_eq_nil_iff.2 (fun x hx => by simpa using h x hx)
    rw [this]; rfl

set_option maxHeartbeats 2000000 in
theorem countIn_any (s t : Option Addr) (c d : Nat) (L M : List Int) (B C : Nat) (w : World) (hs : Els 1 cInt w B s L) (ht : Els 1 cInt w C t M) (hl : L.length ≤ 1048576) (hm : M.length ≤ 12) :
    Calls Try.prog 51 #[.slice s L.length c, .slice t M.length d] w fun e w' => e = .returned (.int .i64 (cnt L M : Nat)) ∧ Below w.heap.size w w' := by
  go_enter Try.func51, Try.ntmps51
  go_wp2_with fail
  go_loopw [5, 10] (fun n i wr => ∃ k q : Nat, k ≤ M.length ∧ q ≤ k ∧ i = .int .i64 k ∧ n = .int .i64 q ∧ Hid (q = cnt L (M.take k)) ∧ Below w.heap.size w wr) (fun _ i _ => M.length - (intOf i).toNat)
  case atStart => exact ⟨0, 0, Nat.zero_le _, Nat.le_refl _, rfl, rfl, (rfl : (0 : Nat) = cnt L (M.take 0)), Below.refl _ _⟩
  case round =>
    obtain ⟨k, q, hk, hqk, rfl, rfl, hq, hb⟩ := hrel
    by_cases hlt : k < M.length
    · obtain ⟨x, hx⟩ := get_some hlt
      obtain ⟨b, o, rfl, _, hp, e0⟩ := eInt_cells (ht.later cInt_keeps hb) hx
      have HQ : Hid (cnt L (M.take (k + 1)) = q + (if decide (x ∈ L) then 1 else 0)) := by show _ = _; rw [cnt_succ hx, ← hq.out]
      have hI : Hid (Ints wr s L) := (hs.later cInt_keeps hb).ints
      clear hx hs hq
      go_wp2_with fail
      refine (contains_any s c L x _ hI.out hl).mono ?_
      rintro e w2 ⟨rfl, hb2⟩
      have hbz := bl_trans hb hb2
      clear e0 hb hb2
      cases hd : decide (x ∈ L)
      · rw [hd] at HQ
        go_wp2_with fail
        go_roundw
        case rel => exact ⟨k + 1, q, by omega, by omega, by go_num, rfl, (HQ.out.symm : q = _), hbz⟩
        case measure => simp [intOf]; omega
      · rw [hd] at HQ
        go_wp2_with fail
        go_roundw
        case rel => exact ⟨k + 1, q + 1, by omega, by omega, by go_num, by go_num, (HQ.out.symm : q + 1 = _), hbz⟩
        case measure => simp [intOf]; omega
    · have hE : Hid ((q : Int) = ((cnt L M : Nat) : Int)) := by
        show (q : Int) = _
        rw [hq.out, show k = M.length by omega, List.take_length]
      go_wp2_with fail
      go_ret
      exact ⟨by rw [hE.out]; rfl, hb⟩
/-- what both Matches answer. -/
def MtSays (R : List E2) (B : Nat) (e : Ending) (w' : World) : Prop := ∃ s c, e = .returned (.slice s R.length c) ∧ ERow w' B (.slice s R.length c) R
theorem ERow.none' (w : World) (B : Nat) : ERow w B (.slice none 0 0) [] := ERow.nil w B

def WV (a1 a2 a3 a4 : Option Addr) (c1 c2 c3 c4 : Nat) (V : Wd) : Array Value := #[.slice a1 V.gens.length c1, .slice a2 V.free.length c2, .slice a3 V.tabs.length c3, .slice a4 V.res.length c4]
/-- an own list that grew: nothing below has turned. -/
theorem grown_row {w X Y : World} {s : Option Addr} {L : List E2} {c : Nat} (hb : Below w.heap.size w X) (hv : ERow X w.heap.size (.slice s L.length c) L) (hg : X.grownBy Y (Value.slice s L.length c).ownBlock) : Below w.heap.size w Y :=
  hb.grown hg hb.size (fun q hq => (hv.lt q hq).1)
theorem Els.grown {α : Type} {k : Nat} {E : World → Nat → List Value → α → Prop} (hE : KeepsE E) {X Y : World} {B : Nat} {s : Option Addr} {L : List α} {r : Option Nat} (h : Els k E X B s L) (hg : X.grownBy Y r) (hn : ∀ q, r = some q → q < B) : Els k E Y B s L :=
  h.kept hE ⟨hg.size, fun j hj hl => hg.block j hl (fun e => by have := hn j e.symm; omega)⟩

set_option maxRecDepth 100000 in
set_option maxHeartbeats 4000000 in
theorem implMatch_any (a1 a2 a3 a4 : Option Addr) (c1 c2 c3 c4 : Nat) (V : Wd) (s t : Option Addr) (c d : Nat) (A C : List Int) (w : World) (hV : InW w 0 a1 a2 a3 a4 V) (kv : kW V) (hA : Els 1 cInt w 0 s A) (hC : Els 1 cInt w 0 t C) (lA : A.length ≤ 1048576) (lC : C.length ≤ 1048576) :
    Calls Try.prog 18 #[.agg #[.slice a1 V.gens.length c1, .slice a2 V.free.length c2, .slice a3 V.tabs.length c3, .slice a4 V.res.length c4], .slice s A.length c, .slice t C.length d] w fun e w' => MtSays (mtW V.tabs A C) w.heap.size e w' ∧ Below w.heap.size w w' := by
  obtain ⟨v1, v2, ⟨v3, v3s⟩, v4⟩ := kv
  have HK : Hid (∀ t ∈ V.tabs, kTab t) := v3s
  clear v3s
  have k0 := Blk.new w #[.slice a1 V.gens.length c1, .slice a2 V.free.length c2, .slice a3 V.tabs.length c3, .slice a4 V.res.length c4] 49
  have L0 := bl_alloc (Below.refl _ w) (.cells #[.slice a1 V.gens.length c1, .slice a2 V.free.length c2, .slice a3 V.tabs.length c3, .slice a4 V.res.length c4] 49)
  obtain ⟨x0, x1, x2, x3, x4⟩ := k0.four'
  by_cases g : V.tabs.length ≤ 40 ∧ A.length ≤ 12 ∧ C.length ≤ 12
  · obtain ⟨g1, g2, g3⟩ := g
    have HR : Hid (mtW V.tabs A C = mtL V.tabs A C) := by show _ = _; unfold mtW; rw [if_pos ⟨g1, g2, g3⟩]
    have tT : Hid (∀ t ∈ V.tabs, t.rows.length ≤ 1048576) := fun t ht => (HK.out t ht).2.1
    have q1 : ¬ (40 : Int) < (V.tabs.length : Int) := by omega
    have q2 : ¬ (12 : Int) < (A.length : Int) := by omega
    have q3 : ¬ (12 : Int) < (C.length : Int) := by omega
    go_enter Try.func18, Try.ntmps18
    go_wp2_with fail
    generalize hX : w.alloc (.cells #[.slice a1 V.gens.length c1, .slice a2 V.free.length c2, .slice a3 V.tabs.length c3, .slice a4 V.res.length c4] 49) = X at k0 L0 ⊢
    clear hX x0 x1 x2 x3 x4 k0
    go_loopw [7, 27] (fun v i wr => ∃ (k : Nat) (s9 : Option Addr) (c9 : Nat) (R : List E2), k ≤ V.tabs.length ∧ i = .int .i64 k ∧ v = .slice s9 R.length c9 ∧ Hid (R = mtL (V.tabs.take k) A C) ∧ Hid (ERow wr w.heap.size (.slice s9 R.length c9) R) ∧ Hid (Below w.heap.size w wr)) (fun _ i _ => V.tabs.length - (intOf i).toNat)
    case atStart => exact ⟨0, none, 0, [], Nat.zero_le _, rfl, rfl, (by simp [Hid, mtL]), ERow.nil _ _, L0⟩
    case round =>
      obtain ⟨k, s9, c9, R, hk, rfl, rfl, hR, hO, hb⟩ := hrel
      by_cases hlt : k < V.tabs.length
      · obtain ⟨tb, htb⟩ := get_some hlt
        have hT := hV.t.later cTab_keeps hb.out
        obtain ⟨p, o, rfl, _, hp, s1, e1, s2, e2, s3, e3, z1, z2, z3, f1, f2, f3⟩ := eTab_cells hT htb
        have kt := HK.out tb (List.mem_of_getElem? htb)
        have lR : R.length ≤ 1048576 * k := by rw [hR.out]; exact mtL_len tT.out k (by omega)
        have HS : Hid (mtL (V.tabs.take (k + 1)) A C = R ++ (if fitB tb A C then tb.rows else [])) := by show _ = _; rw [mtL_succ htb, ← hR.out]
        have kx := Blk.new wr #[.slice s1 tb.cols.length e1, .slice s2 tb.rows.length e2, .slice s3 tb.cells.length e3] 84
        have LX := bl_alloc (Below.refl _ wr) (.cells #[.slice s1 tb.cols.length e1, .slice s2 tb.rows.length e2, .slice s3 tb.cells.length e3] 84)
        have kc := kt.1
        have kr := kt.2.1
        obtain ⟨x0, x1, x2, x3⟩ := kx.three'
        clear htb hT kt f3 hR
        go_wp2_with fail
        have F1 := f1.later cInt_keeps LX
        have F2 : Hid (Els 2 cEnt _ 0 s2 tb.rows) := f2.later cEnt_keeps LX
        have hO1 : Hid (ERow _ w.heap.size (.slice s9 R.length c9) R) := hO.out.later LX
        have hb1 := bl_trans hb.out LX
        generalize hX : wr.alloc (.cells #[.slice s1 tb.cols.length e1, .slice s2 tb.rows.length e2, .slice s3 tb.cells.length e3] 84) = Y at kx LX F1 F2 hO1 hb1 ⊢
        generalize hn : wr.heap.size = n9 at kx ⊢
        clear hX hn f1 f2 LX hO hb x0 x1 x2 x3 z1 z2 z3
        refine (countIn_any s1 s e1 c tb.cols A 0 0 Y F1 (hA.later cInt_keeps hb1) kc g2).mono ?_
        rintro e w2 ⟨rfl, hb2⟩
        have c0 := cnt_all tb.cols A
        have KX := kx.later hb2
        obtain ⟨x0, x1, x2, x3⟩ := KX.three'
        have hb2' := bl_trans hb1 hb2
        cases q4 : A.all (fun x => decide (x ∈ tb.cols))
        · rw [q4] at c0
          have HF : Hid (fitB tb A C = false) := by show _ = _; unfold fitB; rw [q4]; rfl
          have HS2 : Hid (R = mtL (V.tabs.take (k + 1)) A C) := by show R = _; rw [HS.out, HF.out]; simp
          have hO2 : Hid (ERow w2 w.heap.size (.slice s9 R.length c9) R) := hO1.out.later hb2
          clear q4 HS hO1 hb2 kx KX F1 F2
          go_wp2_with fail
          go_roundw
          case rel => exact ⟨k + 1, s9, c9, R, by omega, by go_num, rfl, HS2, hO2, hb2'⟩
          case measure => simp [intOf]; omega
        · rw [q4] at c0
          go_wp2_with fail
          refine (countIn_any s1 t e1 d tb.cols C 0 0 w2 (F1.later cInt_keeps hb2) (hC.later cInt_keeps hb2') kc g3).mono ?_
          rintro e w3 ⟨rfl, hb3⟩
          have c5 := cnt_none tb.cols C
          have KY := KX.later hb3
          have hb3' := bl_trans hb2' hb3
          have hO3 : Hid (ERow w3 w.heap.size (.slice s9 R.length c9) R) := hO1.out.later (bl_trans hb2 hb3)
          have F3 : Hid (Els 2 cEnt w3 0 s2 tb.rows) := F2.out.later cEnt_keeps (bl_trans hb2 hb3)
          clear x0 x1 x2 x3
          obtain ⟨x0, x1, x2, x3⟩ := KY.three'
          cases q5 : C.all (fun x => !decide (x ∈ tb.cols))
          · rw [q5] at c5
            have HF : Hid (fitB tb A C = false) := by show _ = _; unfold fitB; rw [q4, q5]; rfl
            have HS2 : Hid (R = mtL (V.tabs.take (k + 1)) A C) := by show R = _; rw [HS.out, HF.out]; simp
            clear q4 q5 HS hO1 hb2 hb3 kx KX F1 F2
            go_wp2_with fail
            go_roundw
            case rel => exact ⟨k + 1, s9, c9, R, by omega, by go_num, rfl, HS2, hO3, hb3'⟩
            case measure => simp [intOf]; omega
          · rw [q5] at c5
            have HF : Hid (fitB tb A C = true) := by show _ = _; unfold fitB; rw [q4, q5]; rfl
            obtain ⟨R2, hR2⟩ : ∃ R2, Hid (R ++ tb.rows = R2) := ⟨_, (rfl : R ++ tb.rows = _)⟩
            have HS2 : Hid (R2 = mtL (V.tabs.take (k + 1)) A C) := by show R2 = _; rw [HS.out, HF.out, ← hR2.out]; rfl
            clear q4 q5 HS hO1 hb2 hb3 kx KX F1 F2
            go_wp2_with (at_builtin; refine wpList_append_ents rfl _ _ rfl w.heap.size s9 c9 R rfl hO3.out 0 s2 e2 tb.rows rfl F3.out R2 hR2.out (by omega) hb3'.size ?_; intro s' c' w4 hO4 hg4 hn4)
            have hO4 : Hid (ERow w4 w.heap.size (.slice s' R2.length c') R2) := hO4
            have hb4 : Hid (Below w.heap.size w w4) := grown_row hb3' hO3.out hg4
            clear hg4 hn4 hO3 F3 KY x0 x1 x2 x3
            go_wp2_with fail
            go_roundw
            case rel => exact ⟨k + 1, s', c', R2, by omega, by go_num, rfl, HS2, hO4, hb4⟩
            case measure => simp [intOf]; omega
      · have hRR : R = mtW V.tabs A C := by rw [HR.out, hR.out, show k = V.tabs.length by omega, List.take_length]
        have HH : Hid (MtSays (mtW V.tabs A C) w.heap.size (.returned (.slice s9 R.length c9)) wr) := by
          rw [← hRR]; exact ⟨s9, c9, rfl, hO.out⟩
        clear hRR
        go_wp2_with fail
        go_ret
        exact ⟨HH.out, hb.out⟩
  · have HR : Hid (mtW V.tabs A C = []) := by show _ = _; unfold mtW; rw [if_neg g]
    by_cases q1 : (40 : Int) < (V.tabs.length : Int)
    · go_enter Try.func18, Try.ntmps18
      go_wp2_with fail
      go_ret
      exact ⟨by rw [HR.out]; exact ⟨none, 0, rfl, ERow.nil _ _⟩, L0⟩
    · by_cases q2 : (12 : Int) < (A.length : Int)
      · go_enter Try.func18, Try.ntmps18
        go_wp2_with fail
        go_ret
        exact ⟨by rw [HR.out]; exact ⟨none, 0, rfl, ERow.nil _ _⟩, L0⟩
      · have q3 : (12 : Int) < (C.length : Int) := by omega
        go_enter Try.func18, Try.ntmps18
        go_wp2_with fail
        go_ret
        exact ⟨by rw [HR.out]; exact ⟨none, 0, rfl, ERow.nil _ _⟩, L0⟩
end Go.Proofs.Ytofpkbnocbmgkaa
