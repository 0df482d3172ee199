import Derived.Test.YtofpkbnocbmgkaaEh
import Derived.Deep.QuietTactic
import Derived.BigQuiet
namespace Go.Proofs.Ytofpkbnocbmgkaa
open Go.RowKit
set_option linter.unusedVariables false

/-- is a thing live, of right things. -/
def l2B (G F : List Int) (at0 gen : Int) : Bool := decide (0 ≤ at0 ∧ at0 < G.length ∧ G[at0.toNat]?.getD 0 = gen ∧ ¬ at0 ∈ F)

theorem Blk.one {w : World} {n : Nat} {a b : Value} {t : TypeId} (h : Blk w n #[a, b] t) : w.cell? ⟨n, 0, none⟩ = some a ∧ w.cell? ⟨n, 1, none⟩ = some b := ⟨h.cell 0, h.cell 1⟩

set_option maxHeartbeats 1000000 in
theorem toEnt_any (a g : Int) (w : World) :
    Calls Try.prog 11 #[.agg #[.int .i64 a, .int .i64 g]] w fun e w' => e = .returned (.agg #[.int .i64 a, .int .i64 g]) ∧ Below w.heap.size w w' := by
  go_enter Try.func11, Try.ntmps11
  go_wp2_with fail
  refine bodyPost_ret (v := .agg #[.int .i64 a, .int .i64 g]) (by simp [results, Try.results11, go_sem]) rfl ⟨rfl, ?_⟩
  (repeat (first | with_reducible exact Below.refl _ _ | with_reducible refine bl_alloc ?_ _ | with_reducible refine bl_drewN ?_ _ | with_reducible refine bl_drew ?_ | with_reducible refine bl_setCell ?_ (by first | exact Nat.le_refl _ | (dsimp only; omega) | (simp <;> omega)) _ | with_reducible refine bl_trans ?_ (by with_reducible assumption)))

theorem mem_take_false {F : List Int} {k : Nat} {v : Int} (hk : k < F.length) (h : ¬ v ∈ F.take k) (hx : ¬ F[k]?.getD 0 = v) : ¬ v ∈ F.take (k + 1) := by
  rw [take_succ' F k hk, List.mem_append]
  rintro (h1 | h1)
  · exact h h1
  · simp at h1; exact hx h1.symm

set_option maxHeartbeats 1000000 in
theorem index_any (s : Option Addr) (c : Nat) (F : List Int) (v : Int) (w : World) (h : Ints w s F) (hl : F.length ≤ 1048576) :
    Calls Try.prog 115 #[.slice s F.length c, .int .i64 v] w fun e w' => ∃ r : Int, e = .returned (.int .i64 r) ∧ (decide (0 ≤ r) = decide (v ∈ F)) ∧ Below w.heap.size w w' := by
  go_enter Try.func115, Try.ntmps115
  go_wp2_with fail
  go_loop [8] (fun i => ∃ k : Nat, k ≤ F.length ∧ i = .int .i64 k ∧ Hid (¬ v ∈ F.take k)) (fun i => F.length - (intOf i).toNat)
  case atStart => exact ⟨0, Nat.zero_le _, rfl, by simp [Hid]⟩
  case round =>
    obtain ⟨k, hk, rfl, hall⟩ := hrel
    by_cases hlt : k < F.length
    · obtain ⟨pb, po, rfl, hp, hc⟩ := h.get hlt
      obtain ⟨x, hx⟩ : ∃ x, Hid (F[k]?.getD 0 = x) := ⟨_, rfl⟩
      have d1 : w.cell? ⟨pb, po + k, none⟩ = some (.int .i64 x) := by rw [← hx.out]; exact hc k hlt
      by_cases he : v = x
      · have g : (v == x) = true := by simp [he]
        have hmem : Hid (v ∈ F) := by rw [he, ← hx.out]; exact getD_mem hlt
        clear hc h he
        go_wp2_with fail
        go_ret
        refine ⟨_, rfl, ?_, Below.refl _ _⟩
        simp [hmem.out]
      · have g : (v == x) = false := by simp [he]
        have hstep : Hid (¬ v ∈ F.take (k + 1)) := mem_take_false hlt hall.out (by rw [hx.out]; exact fun h => he h.symm)
        clear hc h he
        go_wp2_with fail
        go_round
        case rel => exact ⟨k + 1, by omega, by go_num, hstep⟩
        case measure => simp [intOf]; omega
    · have hno : Hid (¬ v ∈ F) := by
        have := hall.out
        rw [List.take_of_length_le (by omega)] at this
        exact this
      go_wp2_with fail
      go_ret
      refine ⟨_, rfl, ?_, Below.refl _ _⟩
      simp [hno.out]

set_option maxHeartbeats 1000000 in
theorem contains_any (s : Option Addr) (c : Nat) (F : List Int) (v : Int) (w : World) (h : Ints w s F) (hl : F.length ≤ 1048576) :
    Calls Try.prog 88 #[.slice s F.length c, .int .i64 v] w fun e w' => e = .returned (.bool (decide (v ∈ F))) ∧ Below w.heap.size w w' := by
  go_enter Try.func88, Try.ntmps88
  go_wp2_with fail
  refine (index_any s c F v _ h hl).mono ?_
  rintro e w1 ⟨r, rfl, hr, hb1⟩
  have E : Hid (decide (0 ≤ r) = decide (v ∈ F)) := hr
  clear hr
  go_wp2_with fail
  go_ret
  exact ⟨ret_bool' E.out, hb1⟩

theorem l1In_is (x lo hi : Int) (w : World) (b : Bool) (h : (decide (lo ≤ x) && decide (x ≤ hi)) = b) :
    Calls Try.prog 74 #[.int .i64 x, .int .i64 lo, .int .i64 hi] w fun e w' => e = .returned (.bool b) ∧ w' = w := by
  subst h; exact l1In_any x lo hi w

set_option maxHeartbeats 1000000 in
theorem l2Live_any (s1 s2 : Option Addr) (c1 c2 : Nat) (G F : List Int) (a g : Int) (w : World) (h1 : Ints w s1 G) (h2 : Ints w s2 F) (l1 : G.length ≤ 1048576) (l2 : F.length ≤ 1048576) :
    Calls Try.prog 37 #[.agg #[.slice s1 G.length c1, .slice s2 F.length c2], .agg #[.int .i64 a, .int .i64 g]] w fun e w' => e = .returned (.bool (l2B G F a g)) ∧ Below w.heap.size w w' := by
  have hal := alloc_old
  have haf := alloc_oldf
  by_cases hin : 0 ≤ a ∧ a < G.length
  · obtain ⟨q, rfl⟩ : ∃ q : Nat, a = (q : Int) := ⟨a.toNat, by omega⟩
    have hq : q < G.length := by omega
    have t3 : (decide (0 ≤ (q : Int)) && decide ((q : Int) ≤ (G.length : Int) - 1)) = true := by simp; omega
    have tw : IntKind.i64.wrap ((G.length : Int) - 1) = (G.length : Int) - 1 := by rw [IntKind.wrap_i64]; omega
    obtain ⟨k0, k1⟩ := blk2 w #[.slice s1 G.length c1, .slice s2 F.length c2] #[.int .i64 (q : Int), .int .i64 g] 45 51
    obtain ⟨x0, x1, x2⟩ := k0.two
    obtain ⟨y0, y1, y2⟩ := k1.two
    obtain ⟨pb, po, rfl, hp, hc⟩ := h1.get hq
    obtain ⟨x, hx⟩ : ∃ x, Hid (G[q]?.getD 0 = x) := ⟨_, rfl⟩
    have d1 : w.cell? ⟨pb, po + q, none⟩ = some (.int .i64 x) := by rw [← hx.out]; exact hc q hq
    clear hc
    by_cases he : x = g
    · have g0 : (x != g) = false := by simp [he]
      go_enter Try.func37, Try.ntmps37
      go_wp2_with fail
      go_quiet (first | (go_at_call 74; exact Calls.quiet_of_same (l1In_is _ _ _ _ true t3)))
      go_wp2_with fail
      go_loopw [5] (fun i wr => ∃ k : Nat, k ≤ F.length ∧ i = .int .i64 k ∧ Hid (¬ (q : Int) ∈ F.take k) ∧ Blk wr w.heap.size #[.slice (some ⟨pb, po, none⟩) G.length c1, .slice s2 F.length c2] 45 ∧ Blk wr (w.heap.size + 1) #[.int .i64 (q : Int), .int .i64 g] 51 ∧ Below w.heap.size w wr) (fun i _ => F.length - (intOf i).toNat)
      case atStart =>
        refine ⟨0, Nat.zero_le _, rfl, by simp [Hid], k0, k1, ?_⟩
        (repeat (first | with_reducible exact Below.refl _ _ | with_reducible refine bl_alloc ?_ _ | with_reducible refine bl_drewN ?_ _ | with_reducible refine bl_drew ?_ | with_reducible refine bl_setCell ?_ (by first | exact Nat.le_refl _ | (dsimp only; omega) | (simp <;> omega)) _ | with_reducible refine bl_trans ?_ (by with_reducible assumption)))
      case round =>
        clear x0 x1 x2 y0 y1 y2 k0 k1
        obtain ⟨k, hk, rfl, hall, k0, k1, hbel⟩ := hrel
        obtain ⟨x0, x1, x2⟩ := k0.two
        obtain ⟨y0, y1, y2⟩ := k1.two
        by_cases hlt : k < F.length
        · obtain ⟨qb, qo, rfl, hqb, hc⟩ := h2.get hlt
          obtain ⟨z, hz⟩ : ∃ x, Hid (F[k]?.getD 0 = x) := ⟨_, rfl⟩
          have d2 : wr.cell? ⟨qb, qo + k, none⟩ = some (.int .i64 z) := by rw [← hz.out]; exact (hbel.cell (p := ⟨qb, qo + k, none⟩) hqb).trans (hc k hlt)
          clear hc
          by_cases hv : z = (q : Int)
          · have hbad : Hid (l2B G F q g = false) := by
              simp only [Hid, l2B, decide_eq_false_iff_not]
              rintro ⟨_, _, _, h4⟩
              apply h4
              rw [← hv, ← hz.out]; exact getD_mem hlt
            have gq : (z == (q : Int)) = true := by simp [hv]
            clear hv
            go_wp2_with fail
            go_quiet (fail)
            go_wp2_with fail
            go_ret
            refine ⟨ret_bool' hbad.out.symm, ?_⟩
            (repeat (first | with_reducible exact Below.refl _ _ | with_reducible refine bl_alloc ?_ _ | with_reducible refine bl_drewN ?_ _ | with_reducible refine bl_drew ?_ | with_reducible refine bl_setCell ?_ (by first | exact Nat.le_refl _ | (dsimp only; omega) | (simp <;> omega)) _ | with_reducible refine bl_trans ?_ (by with_reducible assumption)))
          · have gq : (z == (q : Int)) = false := by simp [hv]
            have hstep : Hid (¬ (q : Int) ∈ F.take (k + 1)) := mem_take_false hlt hall.out (by rw [hz.out]; exact hv)
            clear hv
            go_wp2_with fail
            go_quiet (fail)
            go_wp2_with fail
            go_roundw
            case rel =>
              refine ⟨k + 1, by omega, by go_num, hstep, k0, k1, ?_⟩
              (repeat (first | with_reducible exact Below.refl _ _ | with_reducible refine bl_alloc ?_ _ | with_reducible refine bl_drewN ?_ _ | with_reducible refine bl_drew ?_ | with_reducible refine bl_setCell ?_ (by first | exact Nat.le_refl _ | (dsimp only; omega) | (simp <;> omega)) _ | with_reducible refine bl_trans ?_ (by with_reducible assumption)))
            case measure => simp [intOf]; omega
        · have hgood : Hid (l2B G F q g = true) := by
            have := hall.out
            rw [List.take_of_length_le (by omega)] at this
            simp only [Hid, l2B, decide_eq_true_eq]
            exact ⟨by omega, by omega, by simpa [hx.out] using he, this⟩
          go_wp2_with fail
          go_ret
          refine ⟨ret_bool' hgood.out.symm, ?_⟩
          (repeat (first | with_reducible exact Below.refl _ _ | with_reducible refine bl_alloc ?_ _ | with_reducible refine bl_drewN ?_ _ | with_reducible refine bl_drew ?_ | with_reducible refine bl_setCell ?_ (by first | exact Nat.le_refl _ | (dsimp only; omega) | (simp <;> omega)) _ | with_reducible refine bl_trans ?_ (by with_reducible assumption)))
    · have g0 : (x != g) = true := by simp [he]
      have hbad : Hid (l2B G F q g = false) := by
        simp only [Hid, l2B, decide_eq_false_iff_not]
        rintro ⟨_, _, h3, _⟩
        apply he
        rw [← hx.out]; simpa using h3
      go_enter Try.func37, Try.ntmps37
      go_wp2_with fail
      go_quiet (first | (go_at_call 74; exact Calls.quiet_of_same (l1In_is _ _ _ _ true t3)))
      go_wp2_with fail
      go_ret
      refine ⟨ret_bool' hbad.out.symm, ?_⟩
      (repeat (first | with_reducible exact Below.refl _ _ | with_reducible refine bl_alloc ?_ _ | with_reducible refine bl_drewN ?_ _ | with_reducible refine bl_drew ?_ | with_reducible refine bl_setCell ?_ (by first | exact Nat.le_refl _ | (dsimp only; omega) | (simp <;> omega)) _ | with_reducible refine bl_trans ?_ (by with_reducible assumption)))
  · have hbad : Hid (l2B G F a g = false) := by
      simp only [Hid, l2B, decide_eq_false_iff_not]
      rintro ⟨h3, h4, _⟩
      exact hin ⟨h3, h4⟩
    have t3 : (decide (0 ≤ a) && decide (a ≤ (G.length : Int) - 1)) = false := by simp; omega
    have tw : IntKind.i64.wrap ((G.length : Int) - 1) = (G.length : Int) - 1 := by rw [IntKind.wrap_i64]; omega
    obtain ⟨k0, k1⟩ := blk2 w #[.slice s1 G.length c1, .slice s2 F.length c2] #[.int .i64 a, .int .i64 g] 45 51
    obtain ⟨x0, x1, x2⟩ := k0.two
    obtain ⟨y0, y1, y2⟩ := k1.two
    clear hin
    go_enter Try.func37, Try.ntmps37
    go_wp2_with fail
    go_quiet (first | (go_at_call 74; exact Calls.quiet_of_same (l1In_is _ _ _ _ false t3)))
    go_wp2_with fail
    go_ret
    refine ⟨ret_bool' hbad.out.symm, ?_⟩
    (repeat (first | with_reducible exact Below.refl _ _ | with_reducible refine bl_alloc ?_ _ | with_reducible refine bl_drewN ?_ _ | with_reducible refine bl_drew ?_ | with_reducible refine bl_setCell ?_ (by first | exact Nat.le_refl _ | (dsimp only; omega) | (simp <;> omega)) _ | with_reducible refine bl_trans ?_ (by with_reducible assumption)))
end Go.Proofs.Ytofpkbnocbmgkaa
