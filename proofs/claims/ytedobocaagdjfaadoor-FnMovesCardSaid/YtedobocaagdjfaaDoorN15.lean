import Derived.Test.YtedobocaagdjfaaDoorN14
namespace Go.Proofs.YtedobocaagdjfaaDoor
open Go.RowKit
set_option linter.unusedVariables false
set_option linter.unusedSimpArgs false

theorem Tryd.infoPr2 : (Tryd.prog.info? 56).map (·.size) = some 2 := by kernel_rfl
theorem Tryd.infoMv2 : (Tryd.prog.info? 33).map (·.size) = some 2 := by kernel_rfl
theorem load_two {w : World} {b : Nat} {x y : Value} (h : Blk w b #[x, y] 56) : (loadVar 56 ⟨b, 0, none⟩).run Tryd.prog w = .ok (.agg #[x, y]) w :=
  run_loadVar_row w b _ _ _ _ _ h Tryd.underlying56 rfl (by rw [Tryd.infoPr2]; rfl)
theorem load_mv {w : World} {b : Nat} {x y : Value} (h : Blk w b #[x, y] 33) : (loadVar 33 ⟨b, 0, none⟩).run Tryd.prog w = .ok (.agg #[x, y]) w :=
  run_loadVar_row w b _ _ _ _ _ h Tryd.underlying33 rfl (by rw [Tryd.infoMv2]; rfl)
theorem mem_take1 {L : List (Int × Int)} {m : Int × Int} {j : Nat} (h : j < L.length) : m ∈ L.take (j + 1) ↔ m ∈ L.take j ∨ m = L[j]?.getD (0, 0) := by
  rw [takeE_succ L j h, List.mem_append, List.mem_singleton]

set_option maxHeartbeats 4000000 in
theorem indexMv_any (s : Option Addr) (c : Nat) (M : List (Int × Int)) (p1 p2 : Int) (w : World) (hM : Eds w s M) (hl : M.length ≤ 1048576) :
    Calls Tryd.prog 30 #[.slice s M.length c, .agg #[.int .i64 p1, .int .i64 p2]] w fun e w' => (∃ r : Int, e = .returned (.int .i64 r) ∧ decide (0 ≤ r) = decide ((p1, p2) ∈ M)) ∧ Below w.heap.size w w' := by
  have HM : Hid (Eds w s M) := hM
  have kb := Blk.new w #[.int .i64 p1, .int .i64 p2] 33
  have lX : Below w.heap.size w (w.alloc (.cells #[.int .i64 p1, .int .i64 p2] 33)) := bl_alloc (Below.refl _ w) _
  obtain ⟨X, hX⟩ : ∃ X, w.alloc (.cells #[.int .i64 p1, .int .i64 p2] 33) = X := ⟨_, rfl⟩
  rw [hX] at kb lX
  have KB : Hid (Blk X w.heap.size #[.int .i64 p1, .int .i64 p2] 33) := kb
  have LX : Hid (Below w.heap.size w X) := lX
  clear hM kb lX
  go_enter Tryd.func30, Tryd.ntmps30
  go_wp2_with fail
  go_loopw [8] (fun jv wr => ∃ j : Nat, j ≤ M.length ∧ jv = .int .i64 j ∧ Hid (¬ (p1, p2) ∈ M.take j) ∧ Hid (Below X.heap.size X wr)) (fun jv _ => M.length - (intOf jv).toNat)
  case atStart =>
    refine ⟨0, Nat.zero_le _, rfl, by simp [Hid], ?_⟩
    first | exact Below.refl _ _ | (rw [hX]; exact Below.refl _ _)
  case round =>
    obtain ⟨j, hj, rfl, hN, hb⟩ := hrel
    by_cases hlt : j < M.length
    · obtain ⟨b, o, rfl, hp, f1, f2⟩ := (HM.out.later (bl_trans LX.out hb.out)).get hlt
      obtain ⟨⟨q1, q2⟩, hy⟩ : ∃ x, Hid (M[j]?.getD (0, 0) = x) := ⟨_, rfl⟩
      rw [hy.out] at f1 f2
      obtain ⟨y0, y1, y2⟩ := (KB.out.later hb.out).two
      have tj : decide ((j : Int) < (M.length : Int)) = true := by simp; omega
      have jI : (j : Int) < (M.length : Int) := by omega
      have hnx : Hid (¬ ((p1, p2) = (q1, q2)) → ¬ (p1, p2) ∈ M.take (j + 1)) := by
        intro h g
        rw [mem_take1 hlt, hy.out] at g
        exact g.elim hN.out h
      have hyes : Hid ((p1, p2) = (q1, q2) → (p1, p2) ∈ M) := by
        intro h
        rw [h, ← hy.out]
        exact memE hlt
      by_cases h1 : p1 = q1
      · subst h1
        by_cases h2 : p2 = q2
        · subst h2
          have hin : Hid ((p1, p2) ∈ M) := hyes.out rfl
          go_wp2_with fail
          go_region
          all_goals
            go_wp2_with fail
            go_ret
            refine ⟨⟨_, rfl, ?_⟩, ?_⟩
            · rw [decide_eq_true hin.out]; simp
            · exact bl_drewN (bl_trans LX.out hb.out) _
        · have t2 : (p2 == q2) = false := by simp [h2]
          have hn2 : Hid (¬ (p1, p2) ∈ M.take (j + 1)) := hnx.out (fun e => h2 (Prod.mk.inj e).2)
          go_wp2_with fail
          go_region
          all_goals
            go_wp2_with fail
            go_roundw
            case rel => exact ⟨j + 1, by omega, by go_num, hn2, bl_drewN hb.out _⟩
            case measure => simp [intOf]; omega
      · have t1 : (p1 == q1) = false := by simp [h1]
        have hn2 : Hid (¬ (p1, p2) ∈ M.take (j + 1)) := hnx.out (fun e => h1 (Prod.mk.inj e).1)
        go_wp2_with fail
        go_region
        all_goals
          go_wp2_with fail
          go_roundw
          case rel => exact ⟨j + 1, by omega, by go_num, hn2, bl_drewN hb.out _⟩
          case measure => simp [intOf]; omega
    · have hj' : j = M.length := by omega
      subst hj'
      have tj : decide ((M.length : Int) < (M.length : Int)) = false := by simp
      have hn := hN.out
      rw [List.take_length] at hn
      have hn2 : Hid (decide ((p1, p2) ∈ M) = false) := by simp [Hid, hn]
      clear hn hN
      go_wp2_with fail
      go_ret
      refine ⟨⟨-1, rfl, ?_⟩, bl_trans LX.out hb.out⟩
      rw [hn2.out]; rfl
set_option maxHeartbeats 1000000 in
theorem containsMv_any (s : Option Addr) (c : Nat) (M : List (Int × Int)) (p1 p2 : Int) (w : World) (hM : Eds w s M) (hl : M.length ≤ 1048576) :
    Calls Tryd.prog 21 #[.slice s M.length c, .agg #[.int .i64 p1, .int .i64 p2]] w fun e w' => e = .returned (.bool (decide ((p1, p2) ∈ M))) ∧ Below w.heap.size w w' := by
  have lX : Below w.heap.size w (w.alloc (.cells #[.int .i64 p1, .int .i64 p2] 33)) := bl_alloc (Below.refl _ w) _
  go_enter Tryd.func21, Tryd.ntmps21
  go_wp2_with fail
  refine (indexMv_any s c M p1 p2 _ (hM.later lX) hl).mono ?_
  rintro e w2 ⟨⟨r, rfl, hr⟩, hb2⟩
  go_wp2_with fail
  go_ret
  exact ⟨rfl, bl_trans lX hb2⟩
end Go.Proofs.YtedobocaagdjfaaDoor
