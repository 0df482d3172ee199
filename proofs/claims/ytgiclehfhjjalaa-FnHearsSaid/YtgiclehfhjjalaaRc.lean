import Derived.Test.YtgiclehfhjjalaaRb
namespace Go.Proofs.Ytgiclehfhjjalaa
open Go.RowKit
set_option linter.unusedVariables false
set_option linter.unusedSimpArgs false


theorem stB_f {k f : Int} {O N : List V4} (h : (decide (0 ≤ f) && decide (f ≤ 1000000000000)) = false) : false = stB k f O N := by simp only [stB, h]; rfl
theorem stB_o {k f : Int} {O N : List V4} (h : ¬ O.length ≤ 200) : false = stB k f O N := by simp [stB, h]
theorem stB_n {k f : Int} {O N : List V4} (h : ¬ N.length ≤ 200) : false = stB k f O N := by simp [stB, h]
theorem stB_t {k f : Int} {O N : List V4} (h0 : (decide (0 ≤ f) && decide (f ≤ 1000000000000)) = true) (h1 : O.length ≤ 200) (h2 : N.length ≤ 200) : stB k f O N = (O ++ N).all (vofB k) := by simp only [stB, h0, h1, h2, decide_true, Bool.true_and]

set_option maxHeartbeats 2000000 in
theorem implStreamOk_any (k f : Int) (s1 s2 : Option Addr) (c1 c2 : Nat) (O N : List V4) (B : Nat) (w : World) (hO : Els 4 cVal w B s1 O) (hN : Els 4 cVal w B s2 N) (l1 : O.length ≤ 1048576) (l2 : N.length ≤ 1048576) :
    Calls Try.prog 20 #[.int .i64 k, .agg #[.int .i64 f, .slice s1 O.length c1, .slice s2 N.length c2]] w fun e w' => e = .returned (.bool (stB k f O N)) ∧ Below w.heap.size w w' := by
  cases hfo : (decide (0 ≤ f) && decide (f ≤ 1000000000000))
  · obtain ⟨k0, k1, k2, L0⟩ := blk3v w #[.int .i64 k] #[.int .i64 f, .slice s1 O.length c1, .slice s2 N.length c2] #[.bool false] 3 26 4
    obtain ⟨x0, x1, x2, x3⟩ := k1.three'
    have y0 : _ = some (Value.bool false) := k2.cell 0
    have y1 := k2.frozen 0
    have E : Hid (false = stB k f O N) := stB_f hfo
    go_enter Try.func20, Try.ntmps20
    go_wp2_with (go_at_call 32; refine (firstOk_any f _).mono ?_; rintro e w' ⟨rfl, rfl⟩; rw [hfo])
    refine bodyPost_ret (v := .bool false) (by simp [results, Try.results20, go_sem, y0]) rfl ⟨ret_bool' E.out, L0⟩
  · by_cases h1 : O.length ≤ 200
    · by_cases h2 : N.length ≤ 200
      · rw [stB_t hfo h1 h2]
        simp only [Bool.and_eq_true, decide_eq_true_eq] at hfo
        exact implStreamOk_loop k f s1 s2 c1 c2 O N B w hO hN hfo.1 hfo.2 h1 h2
      · skip
        obtain ⟨k0, k1, k2, L0⟩ := blk3v w #[.int .i64 k] #[.int .i64 f, .slice s1 O.length c1, .slice s2 N.length c2] #[.bool false] 3 26 4
        obtain ⟨x0, x1, x2, x3⟩ := k1.three'
        have y0 : _ = some (Value.bool false) := k2.cell 0
        have y1 := k2.frozen 0
        have E : Hid (false = stB k f O N) := stB_n h2
        have t0 : decide ((200 : Int) < (O.length : Int)) = false := by simp; omega
        have t1 : decide ((200 : Int) < (N.length : Int)) = true := by simp; omega
        go_enter Try.func20, Try.ntmps20
        go_wp2_with (go_at_call 32; refine (firstOk_any f _).mono ?_; rintro e w' ⟨rfl, rfl⟩; rw [hfo])
        refine bodyPost_ret (v := .bool false) (by simp [results, Try.results20, go_sem, y0]) rfl ⟨ret_bool' E.out, L0⟩
    · skip
      obtain ⟨k0, k1, k2, L0⟩ := blk3v w #[.int .i64 k] #[.int .i64 f, .slice s1 O.length c1, .slice s2 N.length c2] #[.bool false] 3 26 4
      obtain ⟨x0, x1, x2, x3⟩ := k1.three'
      have y0 : _ = some (Value.bool false) := k2.cell 0
      have y1 := k2.frozen 0
      have E : Hid (false = stB k f O N) := stB_o h1
      have t1 : decide ((200 : Int) < (O.length : Int)) = true := by simp; omega
      go_enter Try.func20, Try.ntmps20
      go_wp2_with (go_at_call 32; refine (firstOk_any f _).mono ?_; rintro e w' ⟨rfl, rfl⟩; rw [hfo])
      refine bodyPost_ret (v := .bool false) (by simp [results, Try.results20, go_sem, y0]) rfl ⟨ret_bool' E.out, L0⟩

/-- right values of a kind, no more than there may be. -/
def vlB (k : Int) (L : List V4) : Bool := decide (L.length ≤ 200) && L.all (vofB k)
theorem stB_eq (k f : Int) (O N : List V4) : stB k f O N = (decide (0 ≤ f) && decide (f ≤ 1000000000000) && vlB k O && vlB k N) := by
  simp only [stB, vlB, List.all_append]
  cases decide (0 ≤ f) <;> cases decide (f ≤ 1000000000000) <;> cases decide (O.length ≤ 200) <;> cases decide (N.length ≤ 200) <;> simp
theorem all_upto {p : V4 → Bool} {L : List V4} (h : ∀ j a, j < L.length → L[j]? = some a → p a = true) : L.all p = true := by
  rw [List.all_eq_true]
  intro x hx
  obtain ⟨j, hj, rfl⟩ := List.getElem_of_mem hx
  exact h j _ hj (by simp [hj])
theorem all_bad {p : V4 → Bool} {L : List V4} {j : Nat} {a : V4} (h : L[j]? = some a) (hp : p a = false) : L.all p = false := by
  rw [List.all_eq_false]
  exact ⟨a, List.mem_of_getElem? h, by rw [hp]; simp⟩

set_option maxHeartbeats 2000000 in
theorem l6ValsOk_any (k : Int) (s : Option Addr) (c : Nat) (L : List V4) (B : Nat) (w : World) (hL : Els 4 cVal w B s L) (hl : L.length ≤ 1048576) :
    Calls Try.prog 44 #[.int .i64 k, .slice s L.length c] w fun e w' => e = .returned (.bool (vlB k L)) ∧ Below w.heap.size w w' := by
  have hal := alloc_old
  have haf := alloc_oldf
  by_cases h : L.length ≤ 200
  · have t1 : decide ((200 : Int) < (L.length : Int)) = false := by simp; omega
    have EV : Hid (vlB k L = L.all (vofB k)) := by simp [Hid, vlB, h]
    go_enter Try.func44, Try.ntmps44
    go_wp2_with fail
    go_loopw [5] (fun i wr => ∃ q : Nat, q ≤ L.length ∧ i = .int .i64 q ∧ Hid (∀ j a, j < q → L[j]? = some a → vofB k a = true) ∧ Below w.heap.size w wr) (fun i _ => L.length - (intOf i).toNat)
    case atStart => exact ⟨0, Nat.zero_le _, rfl, fun j a hj => by omega, Below.refl _ _⟩
    case round =>
      obtain ⟨q, hq, rfl, HQ, hb⟩ := hrel
      by_cases hlt : q < L.length
      · obtain ⟨a, ha⟩ := get_some hlt
        obtain ⟨b, o, rfl, _, hp, hok, e1, e2, e3, e4⟩ := eVal_cells (hL.later cVal_keeps hb) ha
        obtain ⟨p1, p2, p3, p4⟩ := a
        have HX : Hid (p3 < 18446744073709551616) := hok.2.1
        have HY : Hid (p4 < 18446744073709551616) := hok.2.2
        have HA : Hid (L[q]? = some (p1, p2, p3, p4)) := ha
        have l0 := kcell (bl_alloc (Below.refl _ wr) (.cells #[.int .i64 p1, .int .i64 p2, .float .f64 p3, .float .f64 p4] 32)) e1
        clear hL ha hok
        cases h1 : okB p1 p2 p3 p4
        · have E : Hid (false = vlB k L) := by
            show _ = _
            rw [EV.out, all_bad HA.out (by simp [vofB, okV4, h1])]
          go_wp2_with (go_at_call 47; refine (specOk_any p1 p2 p3 p4 _ HX.out HY.out).mono ?_; rintro e w2 ⟨rfl, rfl⟩; rw [h1])
          go_ret
          exact ⟨ret_bool' E.out, bl_alloc hb _⟩
        · cases h2 : (p1 == k : Bool)
          · have E : Hid (false = vlB k L) := by
              show _ = _
              rw [EV.out, all_bad HA.out (by simp [vofB, okV4, h2])]
            have h3 : (p1 != k) = true := by simp [bne, h2]
            go_wp2_with (go_at_call 47; refine (specOk_any p1 p2 p3 p4 _ HX.out HY.out).mono ?_; rintro e w2 ⟨rfl, rfl⟩; rw [h1])
            go_ret
            exact ⟨ret_bool' E.out, bl_alloc hb _⟩
          · have h3 : (p1 != k) = false := by simp [bne, h2]
            have HV : Hid (vofB k (p1, p2, p3, p4) = true) := by simp [Hid, vofB, okV4, h1, h2]
            go_wp2_with (go_at_call 47; refine (specOk_any p1 p2 p3 p4 _ HX.out HY.out).mono ?_; rintro e w2 ⟨rfl, rfl⟩; rw [h1])
            go_roundw
            case rel =>
              refine ⟨q + 1, by omega, by go_num, fun j a hj hja => ?_, bl_alloc hb _⟩
              by_cases e : j = q
              · subst e
                have := HA.out
                rw [this] at hja
                cases hja
                exact HV.out
              · exact HQ.out j a (by omega) hja
            case measure => simp [intOf]; omega
      · have hq' : q = L.length := by omega
        subst hq'
        have E : Hid (true = vlB k L) := by
          show _ = _
          rw [EV.out, all_upto HQ.out]
        go_wp2_with fail
        go_ret
        exact ⟨ret_bool' E.out, hb⟩
  · have t1 : decide ((200 : Int) < (L.length : Int)) = true := by simp; omega
    have E : Hid (false = vlB k L) := by simp [Hid, vlB, h]
    go_enter Try.func44, Try.ntmps44
    go_wp2_with fail
    go_ret
    exact ⟨ret_bool' E.out, Below.refl _ _⟩

set_option maxHeartbeats 2000000 in
theorem specStreamOk_any (k f : Int) (s1 s2 : Option Addr) (c1 c2 : Nat) (O N : List V4) (B : Nat) (w : World) (hO : Els 4 cVal w B s1 O) (hN : Els 4 cVal w B s2 N) (l1 : O.length ≤ 1048576) (l2 : N.length ≤ 1048576) :
    Calls Try.prog 18 #[.int .i64 k, .agg #[.int .i64 f, .slice s1 O.length c1, .slice s2 N.length c2]] w fun e w' => e = .returned (.bool (stB k f O N)) ∧ Below w.heap.size w w' := by
  have L0 : Below w.heap.size w (w.alloc (.cells #[.int .i64 f, .slice s1 O.length c1, .slice s2 N.length c2] 26)) := bl_alloc (Below.refl _ _) _
  have K0 := Blk.new w #[.int .i64 f, .slice s1 O.length c1, .slice s2 N.length c2] 26
  obtain ⟨x0, x1, x2, x3⟩ := K0.three'
  cases h1 : (decide (0 ≤ f) && decide (f ≤ 1000000000000))
  · have E : Hid (false = stB k f O N) := stB_f h1
    go_enter Try.func18, Try.ntmps18
    go_wp2_with (go_at_call 42; refine (l1In_any _ _ _ _).mono ?_; rintro e w2 ⟨rfl, rfl⟩; rw [h1])
    go_ret
    exact ⟨ret_bool' E.out, L0⟩
  · cases h2 : vlB k O
    · have E : Hid (false = stB k f O N) := by simp [Hid, stB_eq, h2]
      go_enter Try.func18, Try.ntmps18
      go_wp2_with (go_at_call 42; refine (l1In_any _ _ _ _).mono ?_; rintro e w2 ⟨rfl, rfl⟩; rw [h1])
      refine (l6ValsOk_any k s1 c1 O B _ (hO.later cVal_keeps L0) l1).mono ?_
      rintro e w2 ⟨rfl, hb2⟩
      rw [h2]
      go_wp2_with fail
      go_ret
      exact ⟨ret_bool' E.out, bl_trans L0 hb2⟩
    · have E : Hid (vlB k N = stB k f O N) := by rw [Hid, stB_eq, h1, h2]; rfl
      go_enter Try.func18, Try.ntmps18
      go_wp2_with (go_at_call 42; refine (l1In_any _ _ _ _).mono ?_; rintro e w2 ⟨rfl, rfl⟩; rw [h1])
      refine (l6ValsOk_any k s1 c1 O B _ (hO.later cVal_keeps L0) l1).mono ?_
      rintro e w2 ⟨rfl, hb2⟩
      rw [h2]
      clear x0 x1 x2 x3
      obtain ⟨x0, x1, x2, x3⟩ := (K0.later hb2).three'
      go_wp2_with fail
      refine (l6ValsOk_any k s2 c2 N B _ (hN.later cVal_keeps (bl_trans L0 hb2)) l2).mono ?_
      rintro e w3 ⟨rfl, hb3⟩
      go_wp2_with fail
      go_ret
      exact ⟨ret_bool' E.out, bl_trans (bl_trans L0 hb2) hb3⟩
end Go.Proofs.Ytgiclehfhjjalaa
