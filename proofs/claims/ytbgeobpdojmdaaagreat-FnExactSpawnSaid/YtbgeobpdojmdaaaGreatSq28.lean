import Derived.Test.YtbgeobpdojmdaaaGreatSq27
import Derived.Test.YtbgeobpdojmdaaaGreatSq19
namespace Go.Proofs.YtbgeobpdojmdaaaGreat
open Go.RowKit Go.Maps Go.WideMaps
set_option linter.unusedVariables false
set_option linter.unusedSimpArgs false
set_option maxRecDepth 100000
def risA (L : List Int) (n : Nat) (j : Nat) : Bool := (L[j]?).elim true fun a => (decide (0 ≤ a) && decide (a ≤ (n : Int) - 1)) && !(decide (0 < j) && (L[j - 1]?).elim false fun p => decide (p ≥ a))
def risB (L : List Int) (n : Nat) : Bool := (List.range L.length).all (risA L n)
theorem risB_at {L : List Int} {n j : Nat} (hj : j < L.length) (h : risA L n j = false) : false = risB L n := by
 cases hs : risB L n
 ·
  rfl
 simp only [risB, List.all_eq_true, List.mem_range] at hs
 have := hs j hj
 rw [h] at this; cases this
theorem risB_all {L : List Int} {n : Nat} (h : ∀ (j : Nat), j < L.length → risA L n j = true) : true = risB L n := by
 symm
 simp only [risB, List.all_eq_true, List.mem_range]
 exact h
set_option maxHeartbeats 4000000 in
theorem l4Rising_any (s : Option Addr) (c : Nat) (L : List Int) (B n : Nat) (w : World) (hL : Els 1 cInt w B s L) (hl : L.length ≤ 1048576) (hn : n ≤ 1048576) :
  Calls Tryz.prog 93 #[.slice s L.length c, .int .i64 n] w fun e w' => e = .returned (.bool (risB L n)) ∧ Below w.heap.size w w' := by
 have HL : Hid (Els 1 cInt w B s L) := hL
 have tw : IntKind.i64.wrap ((n : Int) - 1) = (n : Int) - 1 := by rw [IntKind.wrap_i64]; omega
 clear hL; go_enter Tryz.func93, Tryz.ntmps93
 go_wp2_with fail; go_loopw [5] (fun i wr => ∃ k : Nat, k ≤ L.length ∧ i = .int .i64 k ∧ Hid (Below w.heap.size w wr ∧ ∀ j : Nat, j < k → risA L n j = true)) (fun i _ => L.length - (intOf i).toNat)
 case atStart => exact ⟨0, Nat.zero_le _, rfl, Below.refl _ _, fun j hj => absurd hj (Nat.not_lt_zero _)⟩
 obtain ⟨k, hk, rfl, hN⟩ := hrel
 by_cases hlt : k < L.length
 ·
  obtain ⟨a, ha⟩ := get_some hlt
  have hE := HL.out.later cInt_keeps hN.out.1
  obtain ⟨b, o, rfl, _, hp, e1⟩ := eInt_cells hE ha
  have SB : Hid (risA L n k = ((decide (0 ≤ a) && decide (a ≤ (n : Int) - 1)) && !(decide (0 < k) && (L[k - 1]?).elim false fun p => decide (p ≥ a)))) := by show _ = _; simp [risA, ha]
  have kI0 : (0 : Int) ≤ (k : Int) := by omega
  have kI1 : (k : Int) < (L.length : Int) := by omega
  clear ha; go_wp2_with fail; cases hin : (decide (0 ≤ a) && decide (a ≤ (n : Int) - 1))
  ·
   have HB : Hid (risA L n k = false) := by show _ = _; rw [SB.out, hin]; rfl
   have hin : Hid ((decide (0 ≤ a) && decide (a ≤ (n : Int) - 1)) = false) := hin
   refine wp_region_held_drew (S := (fun w' => w'.cell? ⟨b, o + k, none⟩ = some (.int .i64 a))) (by kernel_rfl) ?_ (fun hHeld => ?_)
   ·
    exact e1
   refine wpr 0 12 ?_; simp only [zs]; refine wpr 1 13 ?_; simp only [zs]; refine wpr 2 14 ?_; simp only [zs]; refine wpr 3 15 ?_; simp only [zs]; refine wpr 4 16 ?_; simp only [zs]; refine wpr 5 17 ?_; simp only [zs]; refine wpy 6 fun K hK => ?_
   go_simp; refine (l1In_any a 0 ((n : Int) - 1) _).mono ?_
   rintro e w4 ⟨rfl, hw4⟩
   rw [hin.out]
   have hc_w4 : Below wr.heap.size wr w4 := by rw [hw4]; exact bl_drew (Below.refl _ _)
   clear hw4; have hX_w4 : Hid (Below w.heap.size w w4) := bl_trans hN.out.1 hc_w4
   have e1 := kcell hc_w4 e1
   clear hc_w4; refine hK.out _ _ ?_ (fun hHeld => ?_)
   ·
    exact e1
   clear hK K; try simp only [zs]
   refine wpr 7 19 ?_; simp only [zs]; refine wpr 8 20 ?_; simp only [zs]; refine wpAnyH_skip (by kernel_rfl) (fun _ _ _ _ h => h) [(9, 21), (10, 22), (11, 23), (12, 24), (13, 25), (14, 26), (15, 27), (16, 28), (17, 29), (18, 30), (19, 31), (20, 32), (21, 33), (22, 34)] 1 _ _ _ (by assumption) (by kernel_rfl) ?_ _ rfl
   simp only [zs]; refine wpr 23 35 ?_; simp only [zs]; refine wpAnyH_done (by kernel_rfl) ?_ _
   go_wp2_with fail; go_ret; exact ⟨ret_bool' (risB_at hlt HB.out), hX_w4.out⟩
  rcases Nat.eq_zero_or_pos k with hz | hz
  ·
   have HB : Hid (risA L n k = true) := by show _ = _; rw [SB.out, hin]; simp [hz]
   have hz0 : ¬ 0 < k := by omega
   have gz : decide ((k : Int) > 0) = false := by simp; omega
   have hin : Hid ((decide (0 ≤ a) && decide (a ≤ (n : Int) - 1)) = true) := hin
   clear hz; refine wp_region_held_drew (S := (fun w' => w'.cell? ⟨b, o + k, none⟩ = some (.int .i64 a))) (by kernel_rfl) ?_ (fun hHeld => ?_)
   ·
    exact e1
   refine wpr 0 12 ?_; simp only [zs]; refine wpr 1 13 ?_; simp only [zs]; refine wpr 2 14 ?_; simp only [zs]; refine wpr 3 15 ?_; simp only [zs]; refine wpr 4 16 ?_; simp only [zs]; refine wpr 5 17 ?_; simp only [zs]; refine wpy 6 fun K hK => ?_
   go_simp; refine (l1In_any a 0 ((n : Int) - 1) _).mono ?_
   rintro e w4 ⟨rfl, hw4⟩
   rw [hin.out]
   have hc_w4 : Below wr.heap.size wr w4 := by rw [hw4]; exact bl_drew (Below.refl _ _)
   clear hw4; have hX_w4 : Hid (Below w.heap.size w w4) := bl_trans hN.out.1 hc_w4
   have e1 := kcell hc_w4 e1
   clear hc_w4; refine hK.out _ _ ?_ (fun hHeld => ?_)
   ·
    exact e1
   clear hK K; try simp only [zs]
   refine wpr 7 19 ?_; simp only [zs]; refine wpr 8 20 ?_; simp only [zs]; refine wpr 9 21 ?_; simp only [zs]; refine wpr 10 22 ?_; simp only [zs]; refine wpr 11 23 ?_; simp only [zs]; refine wpAnyH_skip (by kernel_rfl) (fun _ _ _ _ h => h) [(12, 24), (13, 25), (14, 26), (15, 27), (16, 28), (17, 29), (18, 30), (19, 31), (20, 32), (21, 33)] 2 _ _ _ (by assumption) (by kernel_rfl) ?_ _ rfl
   simp only [zs]; refine wpr 22 34 ?_; simp only [zs]; refine wpr 23 35 ?_; simp only [zs]; refine wpAnyH_done (by kernel_rfl) ?_ _
   have hZ : Hid (Below w.heap.size w w4) := hX_w4
   go_wp2_with fail; go_roundw
   case rel => exact ⟨k + 1, by omega, by go_num, hZ.out, fun j hj => by
    by_cases hjk : j = k
    ·
     subst hjk; exact HB.out
    exact hN.out.2 j (by omega)⟩
   case measure => simp [intOf]; omega
  have gz : decide ((k : Int) > 0) = true := by simp; omega
  obtain ⟨p, hp'⟩ : ∃ p, L[k - 1]? = some p := ⟨_, List.getElem?_eq_getElem (by omega)⟩
  obtain ⟨b', o', eb, _, _, e2⟩ := eInt_cells hE hp'
  obtain ⟨rfl, rfl⟩ : b = b' ∧ o = o' := by cases eb; exact ⟨rfl, rfl⟩
  have SB : Hid (risA L n k = !(decide (p ≥ a))) := by show _ = _; rw [SB.out, hin, hp']; simp [hz]
  have hwr : IntKind.i64.wrap ((k : Int) - 1) = ((k - 1 : Nat) : Int) := by rw [IntKind.wrap_i64]; omega
  have hz1 : k - 1 < L.length := by omega
  have hz2 : (0 : Int) ≤ ((k - 1 : Nat) : Int) := by omega
  have hz3 : ((k - 1 : Nat) : Int) < (L.length : Int) := by omega
  have hin : Hid ((decide (0 ≤ a) && decide (a ≤ (n : Int) - 1)) = true) := hin
  clear eb hp' hE; cases hpa : decide (p ≥ a)
  ·
   have HB : Hid (risA L n k = true) := by show _ = _; rw [SB.out, hpa]; rfl
   have hpl : ¬ a ≤ p := by simpa using hpa
   refine wp_region_held_drew (S := (fun w' => w'.cell? ⟨b, o + k, none⟩ = some (.int .i64 a) ∧ w'.cell? ⟨b, o + (k - 1), none⟩ = some (.int .i64 p))) (by kernel_rfl) ?_ (fun hHeld => ?_)
   ·
    exact ⟨e1, e2⟩
   refine wpr 0 12 ?_; simp only [zs]; refine wpr 1 13 ?_; simp only [zs]; refine wpr 2 14 ?_; simp only [zs]; refine wpr 3 15 ?_; simp only [zs]; refine wpr 4 16 ?_; simp only [zs]; refine wpr 5 17 ?_; simp only [zs]; refine wpy 6 fun K hK => ?_
   go_simp; refine (l1In_any a 0 ((n : Int) - 1) _).mono ?_
   rintro e w4 ⟨rfl, hw4⟩
   rw [hin.out]
   have hc_w4 : Below wr.heap.size wr w4 := by rw [hw4]; exact bl_drew (Below.refl _ _)
   clear hw4; have hX_w4 : Hid (Below w.heap.size w w4) := bl_trans hN.out.1 hc_w4
   have e1 := kcell hc_w4 e1
   have e2 := kcell hc_w4 e2
   clear hc_w4; refine hK.out _ _ ?_ (fun hHeld => ?_)
   ·
    exact ⟨e1, e2⟩
   clear hK K; try simp only [zs]
   refine wpr 7 19 ?_; simp only [zs]; refine wpr 8 20 ?_; simp only [zs]; refine wpr 9 21 ?_; simp only [zs]; refine wpr 10 22 ?_; simp only [zs]; refine wpr 11 23 ?_; simp only [zs]; refine wpr 12 24 ?_; simp only [zs]; refine wpr 13 25 ?_; simp only [zs]; refine wpr 14 26 ?_; simp only [zs]; refine wpr 15 27 ?_; simp only [zs]; refine wpr 16 28 ?_; simp only [zs]; refine wpr 17 29 ?_; simp only [zs]
   refine wpr 18 30 ?_; simp only [zs]; refine wpr 19 31 ?_; simp only [zs]; refine wpr 20 32 ?_; simp only [zs]; refine wpr 21 33 ?_; simp only [zs]; refine wpr 22 34 ?_; simp only [zs]; refine wpr 23 35 ?_; simp only [zs]; refine wpAnyH_done (by kernel_rfl) ?_ _
   have hZ : Hid (Below w.heap.size w w4) := hX_w4
   go_wp2_with fail; go_roundw
   case rel => exact ⟨k + 1, by omega, by go_num, hZ.out, fun j hj => by
    by_cases hjk : j = k
    ·
     subst hjk; exact HB.out
    exact hN.out.2 j (by omega)⟩
   case measure => simp [intOf]; omega
  have HB : Hid (risA L n k = false) := by show _ = _; rw [SB.out, hpa]; rfl
  have hpl : a ≤ p := by simpa using hpa
  refine wp_region_held_drew (S := (fun w' => w'.cell? ⟨b, o + k, none⟩ = some (.int .i64 a) ∧ w'.cell? ⟨b, o + (k - 1), none⟩ = some (.int .i64 p))) (by kernel_rfl) ?_ (fun hHeld => ?_)
  ·
   exact ⟨e1, e2⟩
  refine wpr 0 12 ?_; simp only [zs]; refine wpr 1 13 ?_; simp only [zs]; refine wpr 2 14 ?_; simp only [zs]; refine wpr 3 15 ?_; simp only [zs]; refine wpr 4 16 ?_; simp only [zs]; refine wpr 5 17 ?_; simp only [zs]; refine wpy 6 fun K hK => ?_
  go_simp; refine (l1In_any a 0 ((n : Int) - 1) _).mono ?_
  rintro e w4 ⟨rfl, hw4⟩
  rw [hin.out]
  have hc_w4 : Below wr.heap.size wr w4 := by rw [hw4]; exact bl_drew (Below.refl _ _)
  clear hw4; have hX_w4 : Hid (Below w.heap.size w w4) := bl_trans hN.out.1 hc_w4
  have e1 := kcell hc_w4 e1
  have e2 := kcell hc_w4 e2
  clear hc_w4; refine hK.out _ _ ?_ (fun hHeld => ?_)
  ·
   exact ⟨e1, e2⟩
  clear hK K; try simp only [zs]
  refine wpr 7 19 ?_; simp only [zs]; refine wpr 8 20 ?_; simp only [zs]; refine wpr 9 21 ?_; simp only [zs]; refine wpr 10 22 ?_; simp only [zs]; refine wpr 11 23 ?_; simp only [zs]; refine wpr 12 24 ?_; simp only [zs]; refine wpr 13 25 ?_; simp only [zs]; refine wpr 14 26 ?_; simp only [zs]; refine wpr 15 27 ?_; simp only [zs]; refine wpr 16 28 ?_; simp only [zs]; refine wpr 17 29 ?_; simp only [zs]
  refine wpr 18 30 ?_; simp only [zs]; refine wpr 19 31 ?_; simp only [zs]; refine wpr 20 32 ?_; simp only [zs]; refine wpr 21 33 ?_; simp only [zs]; refine wpr 22 34 ?_; simp only [zs]; refine wpr 23 35 ?_; simp only [zs]; refine wpAnyH_done (by kernel_rfl) ?_ _
  go_wp2_with fail; go_ret; exact ⟨ret_bool' (risB_at hlt HB.out), hX_w4.out⟩
 have hm' : k = L.length := by omega
 subst hm'
 go_wp2_with fail; go_ret; exact ⟨ret_bool' (risB_all (fun j hj => hN.out.2 j hj)), hN.out.1⟩
end Go.Proofs.YtbgeobpdojmdaaaGreat
