import Derived.Test.YtcllkmdlheggkabEy
namespace Go.Proofs.Ytcllkmdlheggkab
open Go.RowKit
set_option linter.unusedVariables false
set_option linter.unusedSimpArgs false

/-- k, k + 1 .. -/
def iota (k : Int) : Nat → List Int
  | 0 => []
  | n + 1 => iota k n ++ [k + n]
theorem iota_len (k : Int) : ∀ n, (iota k n).length = n
  | 0 => rfl
  | n + 1 => by simp [iota, iota_len k n]
theorem iota_get (k : Int) : ∀ (n j : Nat), j < n → (iota k n)[j]? = some (k + j)
  | n + 1, j, h => by
    by_cases e : j < n
    · rw [iota, List.getElem?_append_left (by rw [iota_len]; exact e), iota_get k n j e]
    · have : j = n := by omega
      subst this
      rw [iota, List.getElem?_append_right (by rw [iota_len]; omega), iota_len]; simp

theorem grown_refl (w : World) (r : Option Nat) : w.grownBy w r := ⟨rfl, rfl, rfl, Nat.le_refl _, fun _ _ _ => rfl⟩
theorem grown_trans {a b c : World} {r : Option Nat} (h : a.grownBy b r) (g : b.grownBy c r) : a.grownBy c r :=
  ⟨g.os.trans h.os, g.tape.trans h.tape, g.output.trans h.output, Nat.le_trans h.size g.size, fun k hk hr => (g.block k (Nat.lt_of_lt_of_le hk h.size) hr).trans (h.block k hk hr)⟩
theorem grown_of_below {w w' : World} (hb : Below w.heap.size w w') : w.grownBy w' none := ⟨hb.os, hb.tape, hb.output, hb.size, fun k hk _ => hb.block k hk⟩

theorem mark_step (G : List Int) (k : Int) (m : Nat) (h : m < G.length) : (iota k m ++ G.drop m).set m (k + m) = iota k (m + 1) ++ G.drop (m + 1) := by
  rw [List.set_append_right _ _ (by rw [iota_len]; omega), iota_len, Nat.sub_self, List.drop_eq_getElem_cons h, List.set_cons_zero, iota]
  simp

set_option maxHeartbeats 2000000 in
theorem markV_main (B g c : Nat) (G : List Int) (k : Int) (w : World) (h : VRow w B (.slice (some ⟨g, 0, none⟩) G.length c) G) (hl : G.length ≤ 1048576) (k0 : 0 ≤ k) (k1 : k ≤ 8388608) :
    Calls Try.prog 42 #[.slice (some ⟨g, 0, none⟩) G.length c, .int .i64 k] w fun e w' => e = .returned (.int .i64 (k + G.length)) ∧ VRow w' B (.slice (some ⟨g, 0, none⟩) G.length c) (iota k G.length) ∧ w.grownBy w' (some g) := by
  go_enter Try.func42, Try.ntmps42
  go_wp2_with fail
  go_loopw [1, 5] (fun cv i wr => ∃ m : Nat, m ≤ G.length ∧ i = .int .i64 m ∧ cv = .int .i64 (k + m) ∧ Row wr B (some ⟨g, 0, none⟩) G.length c (iota k m ++ G.drop m) ∧ w.grownBy wr (some g)) (fun _ i _ => G.length - (intOf i).toNat)
  case atStart => exact ⟨0, Nat.zero_le _, rfl, by simp, by simpa [iota] using (show Row w B (some ⟨g, 0, none⟩) G.length c G from h), grown_refl _ _⟩
  case round =>
    obtain ⟨m, hm, rfl, rfl, hr, hg⟩ := hrel
    by_cases hlt : m < G.length
    · obtain ⟨y, hy⟩ : ∃ y, wr.cell? ⟨g, m, none⟩ = some (.int .i64 y) := ⟨_, (hr.cell m hlt).1⟩
      have hf := (hr.cell m hlt).2
      have hr' := hr.set m (k + m)
      rw [mark_step G k m hlt] at hr'
      have hg' := grown_trans hg (grown_setCell wr g m (.int .i64 (k + m)))
      clear h
      go_wp2_with fail
      go_roundw
      case rel => exact ⟨m + 1, by omega, by go_num, by go_num, hr', hg'⟩
      case measure => simp [intOf]; omega
    · have hm' : m = G.length := by omega
      subst hm'
      go_wp2_with fail
      go_ret
      refine ⟨rfl, ?_, hg⟩
      unfold VRow
      rw [iota_len]
      have := hr
      simp at this
      exact this

theorem markV_any (B : Nat) (s : Option Addr) (c : Nat) (G : List Int) (k : Int) (w : World) (h : VRow w B (.slice s G.length c) G) (hl : G.length ≤ 1048576) (k0 : 0 ≤ k) (k1 : k ≤ 8388608) :
    Calls Try.prog 42 #[.slice s G.length c, .int .i64 k] w fun e w' => e = .returned (.int .i64 (k + G.length)) ∧ VRow w' B (.slice s G.length c) (iota k G.length) ∧ w.grownBy w' (Value.slice s G.length c).ownBlock := by
  rcases h.form with ⟨hv, rfl⟩ | ⟨g, cap, hv, _, hr⟩
  · simp only [Value.slice.injEq] at hv
    obtain ⟨rfl, -, rfl⟩ := hv
    go_enter Try.func42, Try.ntmps42
    go_wp2_with fail
    refine wp_loop_rounds 1 ?_
    rw [rounds_succ]
    go_wp2_with fail
    go_ret
    exact ⟨by simp, World.ownsRow_nil _ _ _ _, grown_refl _ _⟩
  · simp only [Value.slice.injEq, true_and] at hv
    obtain ⟨rfl, rfl⟩ := hv
    exact markV_main B g c G k w h hl k0 k1

set_option maxHeartbeats 2000000 in
theorem heldV_any (B : Nat) (s : Option Addr) (n c : Nat) (k : Int) (w : World) (h : VRow w B (.slice s n c) (iota k n)) (hl : n ≤ 1048576) (k0 : 0 ≤ k) (k1 : k ≤ 8388608) :
    Calls Try.prog 43 #[.slice s n c, .int .i64 k] w fun e w' => e = .returned (.int .i64 (k + n)) ∧ Below w.heap.size w w' := by
  obtain ⟨s', c', hv, hi⟩ := h.slice
  rw [iota_len] at hv
  simp only [Value.slice.injEq, true_and] at hv
  obtain ⟨rfl, rfl⟩ := hv
  clear h
  go_enter Try.func43, Try.ntmps43
  go_wp2_with fail
  go_loop [1, 5] (fun cv i => ∃ m : Nat, m ≤ n ∧ i = .int .i64 m ∧ cv = .int .i64 (k + m)) (fun _ i => n - (intOf i).toNat)
  case atStart => exact ⟨0, Nat.zero_le _, rfl, by simp⟩
  case round =>
    obtain ⟨m, hm, rfl, rfl⟩ := hrel
    by_cases hlt : m < n
    · obtain ⟨pb, po, rfl, hp, hc⟩ := hi.get (k := m) (by rw [iota_len]; exact hlt)
      have d1 : w.cell? ⟨pb, po + m, none⟩ = some (.int .i64 (k + m)) := by
        rw [hc m (by rw [iota_len]; exact hlt), iota_get k n m hlt]; rfl
      clear hc hi
      go_wp2_with fail
      go_round
      case rel => exact ⟨m + 1, by omega, by go_num, by go_num⟩
      case measure => simp [intOf]; omega
    · have hm' : m = n := by omega
      subst hm'
      go_wp2_with fail
      go_ret
      exact ⟨rfl, Below.refl _ _⟩

set_option maxHeartbeats 2000000 in
theorem markEntsV_any (B : Nat) (s t : Option Addr) (c d : Nat) (G F : List Int) (w : World) (h1 : VRow w B (.slice s G.length c) G) (h2 : VRow w B (.slice t F.length d) F) (hap : Apart (.slice s G.length c) (.slice t F.length d)) (l1 : G.length ≤ 1048576) (l2 : F.length ≤ 1048576) :
    Calls Try.prog 15 #[.agg #[.slice s G.length c, .slice t F.length d], .int .i64 1] w fun e w' => e = .returned (.int .i64 (1 + G.length + F.length)) ∧
      VRow w' B (.slice s G.length c) (iota 1 G.length) ∧ VRow w' B (.slice t F.length d) (iota (1 + G.length) F.length) ∧
      (∃ wa wb, w.grownBy wa none ∧ wa.grownBy wb (Value.slice s G.length c).ownBlock ∧ wb.grownBy w' (Value.slice t F.length d).ownBlock) := by
  have hal := alloc_old
  have haf := alloc_oldf
  have k0 := Blk.new w #[.slice s G.length c, .slice t F.length d] 26
  have e1 := h1.lt
  have e2 := h2.lt
  go_enter Try.func15, Try.ntmps15
  go_wp2_with fail
  refine (markV_any B s c G 1 _ (h1.alloc _) l1 (by omega) (by omega)).mono ?_
  rintro e w1 ⟨rfl, v1, hg1⟩
  have k1 := k0.kept' hg1 (fun e => by have := (e1 _ e).2; omega)
  obtain ⟨x0, x1, x2⟩ := k1.two
  have v2 := (h2.alloc (.cells #[.slice s G.length c, .slice t F.length d] 26)).kept hg1 (fun k hk e => hap k e hk)
  go_wp2_with fail
  refine (markV_any B t d F _ _ v2 l2 (by omega) (by omega)).mono ?_
  rintro e w2 ⟨rfl, v2', hg2⟩
  have v1' := v1.kept hg2 (fun k hk e => hap k (by simpa [Value.ownBlock] using hk) e)
  go_wp2_with fail
  go_ret
  exact ⟨rfl, v1', v2', _, w1, grown_of_below (bl_alloc (Below.refl _ w) _), hg1, hg2⟩

set_option maxHeartbeats 2000000 in
theorem heldEntsV_any (B : Nat) (s t : Option Addr) (c d n m : Nat) (w : World) (h1 : VRow w B (.slice s n c) (iota 1 n)) (h2 : VRow w B (.slice t m d) (iota (1 + n) m)) (l1 : n ≤ 1048576) (l2 : m ≤ 1048576) :
    Calls Try.prog 16 #[.agg #[.slice s n c, .slice t m d], .int .i64 1] w fun e w' => e = .returned (.int .i64 (1 + n + m)) ∧ Below w.heap.size w w' := by
  have hal := alloc_old
  have haf := alloc_oldf
  have k0 := Blk.new w #[.slice s n c, .slice t m d] 26
  go_enter Try.func16, Try.ntmps16
  go_wp2_with fail
  refine (heldV_any B s n c 1 _ (h1.alloc _) l1 (by omega) (by omega)).mono ?_
  rintro e w1 ⟨rfl, hb1⟩
  obtain ⟨x0, x1, x2⟩ := (k0.later hb1).two
  go_wp2_with fail
  refine (heldV_any B t m d _ _ ((h2.alloc _).later hb1) l2 (by omega) (by omega)).mono ?_
  rintro e w2 ⟨rfl, hb2⟩
  go_wp2_with fail
  go_ret
  refine ⟨rfl, ?_⟩
  (repeat (first | with_reducible exact Below.refl _ _ | with_reducible refine bl_alloc ?_ _ | with_reducible refine bl_drewN ?_ _ | with_reducible refine bl_drew ?_ | with_reducible refine bl_setCell ?_ (by first | exact Nat.le_refl _ | (dsimp only; omega) | (simp <;> omega)) _ | with_reducible refine bl_trans ?_ (by with_reducible assumption)))
end Go.Proofs.Ytcllkmdlheggkab
