import Derived.Test.YtknallkcengbbaaGreatDoorXc
import Derived.Test.YtknallkcengbbaaGreatDoorSk
namespace Go.Proofs.YtknallkcengbbaaGreatDoor
open Go.RowKit
set_option linter.unusedVariables false
set_option linter.unusedSimpArgs false

theorem byA_extract {s : ByteArray} {i j k : Nat} (h1 : i + k < j) (h2 : j ≤ s.size) : byA (s.extract i j) k = byA s (i + k) := by
  unfold byA
  rw [ByteArray.data_extract, Array.getElem?_extract, if_pos]
  have : s.data.size = s.size := rfl
  omega
theorem dgAt_extract {s : ByteArray} {i j k : Nat} (h1 : i + k < j) (h2 : j ≤ s.size) : dgAt (s.extract i j) k = dgAt s (i + k) := by
  show dgB (byA (s.extract i j) k) = dgB (byA s (i + k))
  rw [byA_extract h1 h2]
theorem size_extract' {s : ByteArray} {i j : Nat} (h2 : j ≤ s.size) : (s.extract i j).size = j - i := by
  rw [ByteArray.size_extract]; omega
theorem list_extract {s : ByteArray} {i j : Nat} (h : j ≤ s.size) : (s.extract i j).data.toList = (s.data.toList.drop i).take (j - i) := by
  rw [ByteArray.data_extract, Array.toList_extract]
theorem list_len (s : ByteArray) : s.data.toList.length = s.size := by simp
theorem list_append (a b : ByteArray) : (a ++ b).data.toList = a.data.toList ++ b.data.toList := by simp [ByteArray.data_append]

theorem dec_ex : ∀ (l : List UInt8) (acc : Nat), (∀ c ∈ l, dgB c.toNat = true) → ∃ n, Lib.decFrom acc l = some n
  | [], acc, _ => ⟨acc, rfl⟩
  | b :: l, acc, h => by
    have hb := (dgB_iff _).1 (h b (by simp))
    obtain ⟨n, hn⟩ := dec_ex l (acc * 10 + (b.toNat - 48)) (fun c hc => h c (by simp [hc]))
    refine ⟨n, ?_⟩
    simp only [Lib.decFrom, Lib.digitVal]
    rw [if_pos hb]
    exact hn
theorem dg_list {s : ByteArray} (h : ∀ j, j < s.size → dgAt s j = true) : ∀ c ∈ s.data.toList, dgB c.toNat = true := by
  intro c hc
  obtain ⟨k, hk⟩ := List.mem_iff_getElem?.1 hc
  obtain ⟨h1, h2⟩ := toList_by hk
  have := h k h1
  have e : dgAt s k = dgB (byA s k) := rfl
  rw [e, h2] at this
  exact this
theorem l7Num_at (s : ByteArray) (n : Nat) (hn : numIs s n) (h : (∀ j, j < s.size → dgAt s j = true) ∧ s.size ≤ 15) (w : World) :
    Calls Tryz.prog 103 #[.string s] w fun e w' => e = .returned (.int .i64 (n : Int)) ∧ w' = w := by
  refine (l7Number_any s h.1 h.2 w).mono ?_
  rintro e w' ⟨⟨m, rfl, hm, _⟩, rfl⟩
  have : some m = some n := hm.symm.trans hn
  obtain rfl := Option.some.inj this
  exact ⟨rfl, rfl⟩
/-- the two parts of a real number's text. -/
theorem real_parts {s : ByteArray} {a k : Nat} (h : RealAt s a k) : ∃ (m n : Nat) (A B : ByteArray), A = s.extract 0 a ∧ B = s.extract (a + 1) s.size ∧ numIs A m ∧ numIs B n ∧ (m ≤ 999999999 ∧ (∀ j, j < A.size → dgAt A j = true) ∧ A.size ≤ 15) ∧ (n ≤ 999999 ∧ (∀ j, j < B.size → dgAt B j = true) ∧ B.size ≤ 15) ∧ (∀ t, 10 ^ k = t → Lib.decFrom 0 (s.data.toList.take a ++ s.data.toList.drop (a + 1)) = some (m * t + n)) ∧
    (∀ W, (Instr.slice 9 (.string s) none (some (.int .i64 (a : Int))) none).run Tryz.prog W = .ok (.string A) W) ∧ (∀ W, (Instr.slice 9 (.string s) (some (.int .i64 ((a : Int) + 1))) none none).run Tryz.prog W = .ok (.string B) W) := by
  have hz := h.size
  have h9 := h.a9
  have h6 := h.k6
  have sA : (s.extract 0 a).size = a := by rw [size_extract' (by omega)]; omega
  have sB : (s.extract (a + 1) s.size).size = k := by rw [size_extract' (by omega)]; omega
  have dA : ∀ j, j < (s.extract 0 a).size → dgAt (s.extract 0 a) j = true := by
    intro j hj
    rw [sA] at hj
    rw [dgAt_extract (by omega) (by omega)]
    exact h.fst _ (by omega)
  have dB : ∀ j, j < (s.extract (a + 1) s.size).size → dgAt (s.extract (a + 1) s.size) j = true := by
    intro j hj
    rw [sB] at hj
    rw [dgAt_extract (by omega) (by omega)]
    exact h.snd _ (by omega) (by omega)
  obtain ⟨m, hm⟩ := dec_ex _ 0 (dg_list dA)
  obtain ⟨n, hn⟩ := dec_ex _ 0 (dg_list dB)
  have bm := Lib.decFrom_lt _ _ _ hm
  have bn := Lib.decFrom_lt _ _ _ hn
  rw [list_len, sA] at bm
  rw [list_len, sB] at bn
  have p9 : 10 ^ a ≤ 10 ^ 9 := Nat.pow_le_pow_right (by omega) h9
  have p6 : 10 ^ k ≤ 10 ^ 6 := Nat.pow_le_pow_right (by omega) h6
  have q9 : 10 ^ a ≤ 1000000000 := by simpa using p9
  have q6 : 10 ^ k ≤ 1000000 := by simpa using p6
  refine ⟨m, n, _, _, rfl, rfl, hm, hn, ⟨by omega, dA, by omega⟩, ⟨by omega, dB, by omega⟩, ?_, ?_, ?_⟩
  · intro t ht
    have e1 : s.data.toList.take a = (s.extract 0 a).data.toList := by rw [list_extract (by omega)]; simp
    have e2 : s.data.toList.drop (a + 1) = (s.extract (a + 1) s.size).data.toList := by
      rw [list_extract (by omega), List.take_of_length_le]
      rw [List.length_drop, list_len]
      omega
    rw [e1, e2, decFrom_append _ _ _ _ hm, decFrom_shift _ m n hn, list_len, sB, ht]
  · intro W
    rw [run_slice_string_to_if W 9 s .i64 a Tryz.underlying9, if_pos ⟨by omega, by omega⟩]
    rfl
  · intro W
    rw [run_slice_string_from_if W 9 s .i64 _ Tryz.underlying9, if_pos ⟨by omega, by omega⟩]
    rfl

set_option maxRecDepth 100000 in
set_option maxHeartbeats 4000000 in
theorem specRealOf_any (s : ByteArray) (hs : s.size ≤ 1048576) (w : World) :
    Calls Tryz.prog 68 #[.string s] w fun e w' => RealSays s e ∧ Below w.heap.size w w' := by
  go_enter Tryz.func68, Tryz.ntmps68
  go_wp2_with fail
  refine (l7Run_any s 0 (Nat.zero_le _) hs _).mono ?_
  rintro e w1 ⟨⟨a, rfl, hr⟩, rfl⟩
  have HR : Hid (RunIs s 0 a) := hr
  have has : a ≤ s.size := hr.2.1
  clear hr
  have hno : Hid ((∀ k, ¬ RealAt s a k) → RealSays s (.returned (.tuple #[.float .f64 0, .bool false]))) := by
    intro h
    refine Or.inl ⟨?_, rfl⟩
    rintro ⟨b, k, hb⟩
    obtain rfl := hb.run HR.out
    exact h k hb
  go_wp2_with fail
  refine (l1In_any a 1 9 _).mono ?_
  rintro e w1 ⟨rfl, rfl⟩
  by_cases h19 : (1 ≤ a ∧ a ≤ 9)
  case neg =>
    have t1 : (decide ((1 : Int) ≤ (a : Int)) && decide ((a : Int) ≤ 9)) = false := by simp; omega
    have F := hno.out (fun k h => h19 ⟨h.a1, h.a9⟩)
    rw [t1]
    go_wp2_with fail
    go_ret2
    exact ⟨F, Below.refl _ _⟩
  have t1 : (decide ((1 : Int) ≤ (a : Int)) && decide ((a : Int) ≤ 9)) = true := by simp; omega
  rw [t1]
  clear t1
  have hpos : 0 < s.size := by omega
  have hcz := byA_eq hpos
  obtain ⟨z, hz⟩ : ∃ z, Hid (byA s 0 = z) := ⟨_, rfl⟩
  rw [hz.out] at hcz
  have HCZ : Hid ((s[0]'hpos).toNat = z) := hcz
  clear hcz
  by_cases hz48 : (1 < a ∧ z = 48)
  case pos =>
    have F := hno.out (fun k h => by have := h.nz; rw [hz.out] at this; omega)
    have g1 : (1 : Int) < (a : Int) := by omega
    have g2 : (((s[0]'hpos).toNat : Int) == 48) = true := by rw [HCZ.out]; simp; omega
    go_wp2_with fail
    go_ret2
    exact ⟨F, Below.refl _ _⟩
  by_cases hlt : a < s.size
  case neg =>
    have F := hno.out (fun k h => by have := h.size; omega)
    have g3 : (s.size : Int) ≤ (a : Int) := by omega
    by_cases g1 : (1 : Int) < (a : Int)
    · have g2 : (((s[0]'hpos).toNat : Int) == 48) = false := by rw [HCZ.out]; simp; omega
      go_wp2_with fail
      go_ret2
      exact ⟨F, Below.refl _ _⟩
    · go_wp2_with fail
      go_ret2
      exact ⟨F, Below.refl _ _⟩
  have hi := run_index_at s a hlt
  rw [byA_eq hlt] at hi
  obtain ⟨p, hp⟩ : ∃ p, Hid (byA s a = p) := ⟨_, rfl⟩
  rw [hp.out] at hi
  have g3 : ¬ (s.size : Int) ≤ (a : Int) := by omega
  have g3d : decide (s.size ≤ a) = false := by simp; omega
  by_cases hp46 : p = 46
  case neg =>
    have F := hno.out (fun k h => by have := h.pt; rw [hp.out] at this; omega)
    have g4 : ((p : Int) != 46) = true := by simp; omega
    by_cases g1 : (1 : Int) < (a : Int)
    · have g2 : (((s[0]'hpos).toNat : Int) == 48) = false := by rw [HCZ.out]; simp; omega
      go_wp2_with fail
      go_ret2
      exact ⟨F, Below.refl _ _⟩
    · go_wp2_with fail
      go_ret2
      exact ⟨F, Below.refl _ _⟩
  subst hp46
  have w1' : IntKind.i64.wrap ((a : Int) + 1) = (a : Int) + 1 := by rw [IntKind.wrap_i64]; omega
  have hR2 := fun w => l7Run_any s (a + 1) (by omega) hs w
  rw [show ((a + 1 : Nat) : Int) = (a : Int) + 1 by omega] at hR2
  by_cases g1 : (1 : Int) < (a : Int)
  · have g2 : (((s[0]'hpos).toNat : Int) == 48) = false := by rw [HCZ.out]; simp; omega
    go_wp2_with fail
    clear g2
--REST4
    refine (hR2 _).mono ?_
    clear hR2
    rintro e w1 ⟨⟨b, rfl, hr2⟩, rfl⟩
    have HR2 : Hid (RunIs s (a + 1) b) := hr2
    have hab : a + 1 ≤ b := hr2.1
    have hbs : b ≤ s.size := hr2.2.1
    clear hr2
    by_cases hbe : b = s.size
    case neg =>
      have F := hno.out (fun k h => hbe (h.run2 HR2.out))
      have g5 : ((b : Int) != (s.size : Int)) = true := by simp; omega
      go_wp2_with fail
      go_ret2
      exact ⟨F, Below.refl _ _⟩
    have g5 : ((b : Int) != (s.size : Int)) = false := by simp; omega
    have HBE : Hid (b = s.size) := hbe
    clear hbe
    obtain ⟨k, hk⟩ : ∃ k, Hid (b = a + 1 + k) := ⟨b - a - 1, by show _ = _; omega⟩
    go_wp2_with fail
    rw [show (b : Int) - (a : Int) - 1 = (k : Int) by have := hk.out; omega]
    refine (l1In_any k 1 6 _).mono ?_
    rintro e w1 ⟨rfl, rfl⟩
    by_cases hk6 : (1 ≤ k ∧ k ≤ 6)
    case neg =>
      have F := hno.out (fun l h => by have h1 := h.size; have h2 := h.k1; have h3 := h.k6; have h4 := hk.out; have h5 := HBE.out; omega)
      have t6 : (decide ((1 : Int) ≤ (k : Int)) && decide ((k : Int) ≤ 6)) = false := by simp; omega
      rw [t6]
      go_wp2_with fail
      go_ret2
      exact ⟨F, Below.refl _ _⟩
    have t6 : (decide ((1 : Int) ≤ (k : Int)) && decide ((k : Int) ≤ 6)) = true := by simp; omega
    rw [t6]
    have HA : Hid (RealAt s a k) := ⟨by have := hk.out; have := HBE.out; omega, h19.1, h19.2, hk6.1, hk6.2, hp.out, fun j hj => HR.out.2.2.1 j (Nat.zero_le _) hj, fun j h1 h2 => HR2.out.2.2.1 j (by omega) (by have := HBE.out; omega), by rw [hz.out]; omega⟩
    clear t6 g5
    go_wp2_with fail
    go_loop [7, 8] (fun tv i => ∃ q : Nat, q ≤ k ∧ i = .int .i64 q ∧ tv = .int .i64 ((10 ^ q : Nat) : Int)) (fun _ i => k - (intOf i).toNat)
    case atStart => exact ⟨0, Nat.zero_le _, rfl, rfl⟩
    case round =>
      obtain ⟨q, hq, rfl, rfl⟩ := hrel
      have hp6 : 10 ^ q ≤ 10 ^ 6 := Nat.pow_le_pow_right (by omega) (by omega)
      obtain ⟨t, ht⟩ : ∃ t, Hid (10 ^ q = t) := ⟨10 ^ q, (rfl : 10 ^ q = 10 ^ q)⟩
      rw [ht.out] at hp6
      rw [ht.out]
      have t6b : t ≤ 1000000 := by simpa using hp6
      clear hp6
      by_cases hqk : (q : Int) < (k : Int)
      · have w4 : IntKind.i64.wrap ((t : Int) * 10) = (t : Int) * 10 := by rw [IntKind.wrap_i64]; omega
        go_wp2_with fail
        go_round
        case rel => exact ⟨q + 1, by omega, by go_num, by rw [Nat.pow_succ, ht.out]; congr 1⟩
        case measure => simp [intOf]; omega
      · have hqk2 : Hid (q = k) := by show _ = _; omega
        obtain ⟨m, n, A, B, hA, hB, nm, nn, bm, bn, HS, hsl1, hsl2⟩ := real_parts HA.out
        have hmt : m * t ≤ 999999999 * 1000000 := Nat.mul_le_mul (by omega) (by omega)
        obtain ⟨mt, hmt0⟩ : ∃ mt : Nat, Hid (m * t = mt) := ⟨_, (rfl : m * t = m * t)⟩
        have hmI : (m : Int) * (t : Int) = (mt : Int) := by rw [← hmt0.out]; simp
        rw [hmt0.out] at hmt
        have w5 : IntKind.i64.wrap ((m : Int) * (t : Int)) = (mt : Int) := by rw [hmI, IntKind.wrap_i64]; omega
        have w6 : IntKind.i64.wrap ((mt : Int) + (n : Int)) = ((mt + n : Nat) : Int) := by rw [IntKind.wrap_i64]; omega
        obtain ⟨N, hN⟩ : ∃ N : Nat, Hid (mt + n = N) := ⟨_, (rfl : mt + n = mt + n)⟩
        rw [hN.out] at w6
        have htF : floatOfInt .f64 (t : Int) = tenF k := by
          rw [← tenF_int (k := k) (by omega), ← hqk2.out, ht.out]
        obtain ⟨r, hr, br⟩ := ofInt_quo (N : Int) (k := k) (by omega)
        have hq := fun w => run_float_arith (P := Tryz.prog) w .quo 74 .f64 _ _ r hr
        have FIN : Hid (RealSays s (.returned (.tuple #[.float .f64 r, .bool true]))) := by
          refine Or.inr ⟨a, k, N, r, HA.out, ?_, hr, br, rfl⟩
          rw [HS t (by rw [← ht.out, hqk2.out]), hmt0.out, hN.out]
        clear hr HS hA hB hmt hmI
        go_wp2_with fail
        refine wp_region_held_drew (S := fun _ => True) (by kernel_rfl) ?_ (fun hHeld => ?_)
        · trivial
        refine wpAnyH_one (i := 0) (d := 59) (v := ?_) rfl rfl (by kernel_rfl) (by kernel_rfl) (by kernel_rfl) (fun _ _ _ h => h) (by rfl) (by assumption) ?_ ?_
        rotate_left 1
        · intro w hSw; (try dsimp only at hSw); go_simp <;> with_reducible rfl
        simp only [List.foldl, Act.put, List.setIfInBounds_toArray, List.set_cons_zero, List.set_cons_succ]
        refine wpAnyH_one (i := 1) (d := 60) (v := ?_) rfl rfl (by kernel_rfl) (by kernel_rfl) (by kernel_rfl) (fun _ _ _ h => h) (by rfl) (by assumption) ?_ ?_
        rotate_left 1
        · intro w hSw; (try dsimp only at hSw); go_simp <;> with_reducible rfl
        simp only [List.foldl, Act.put, List.setIfInBounds_toArray, List.set_cons_zero, List.set_cons_succ]
        refine wpAnyH_one (i := 2) (d := 61) (v := ?_) rfl rfl (by kernel_rfl) (by kernel_rfl) (by kernel_rfl) (fun _ _ _ h => h) (by rfl) (by assumption) ?_ ?_
        rotate_left 1
        · intro w hSw; (try dsimp only at hSw); go_simp <;> with_reducible rfl
        simp only [List.foldl, Act.put, List.setIfInBounds_toArray, List.set_cons_zero, List.set_cons_succ]
        refine wpAnyH_one (i := 4) (d := 63) (v := ?_) rfl rfl (by kernel_rfl) (by kernel_rfl) (by kernel_rfl) (fun _ _ _ h => h) (by rfl) (by assumption) ?_ ?_
        rotate_left 1
        · intro w hSw; (try dsimp only at hSw); go_simp <;> with_reducible rfl
        simp only [List.foldl, Act.put, List.setIfInBounds_toArray, List.set_cons_zero, List.set_cons_succ]
        refine wpAnyH_one (i := 6) (d := 65) (v := ?_) rfl rfl (by kernel_rfl) (by kernel_rfl) (by kernel_rfl) (fun _ _ _ h => h) (by rfl) (by assumption) ?_ ?_
        rotate_left 1
        · intro w hSw; (try dsimp only at hSw); go_simp <;> with_reducible rfl
        simp only [List.foldl, Act.put, List.setIfInBounds_toArray, List.set_cons_zero, List.set_cons_succ]
        refine wpAnyH_one (i := 7) (d := 66) (v := ?_) rfl rfl (by kernel_rfl) (by kernel_rfl) (by kernel_rfl) (fun _ _ _ h => h) (by rfl) (by assumption) ?_ ?_
        rotate_left 1
        · intro w hSw; (try dsimp only at hSw); go_simp <;> with_reducible rfl
        simp only [List.foldl, Act.put, List.setIfInBounds_toArray, List.set_cons_zero, List.set_cons_succ]
        refine wpAnyH_one (i := 8) (d := 67) (v := ?_) rfl rfl (by kernel_rfl) (by kernel_rfl) (by kernel_rfl) (fun _ _ _ h => h) (by rfl) (by assumption) ?_ ?_
        rotate_left 1
        · intro w hSw; (try dsimp only at hSw); go_simp <;> with_reducible rfl
        simp only [List.foldl, Act.put, List.setIfInBounds_toArray, List.set_cons_zero, List.set_cons_succ]
        refine wpAnyH_one (i := 9) (d := 68) (v := ?_) rfl rfl (by kernel_rfl) (by kernel_rfl) (by kernel_rfl) (fun _ _ _ h => h) (by rfl) (by assumption) ?_ ?_
        rotate_left 1
        · intro w hSw; (try dsimp only at hSw); go_simp <;> with_reducible rfl
        simp only [List.foldl, Act.put, List.setIfInBounds_toArray, List.set_cons_zero, List.set_cons_succ]
        refine wpAnyH_one (i := 13) (d := 72) (v := ?_) rfl rfl (by kernel_rfl) (by kernel_rfl) (by kernel_rfl) (fun _ _ _ h => h) (by rfl) (by assumption) ?_ ?_
        rotate_left 1
        · intro w hSw; (try dsimp only at hSw); go_simp <;> with_reducible rfl
        simp only [List.foldl, Act.put, List.setIfInBounds_toArray, List.set_cons_zero, List.set_cons_succ]
        refine wpAnyH_one (i := 14) (d := 73) (v := ?_) rfl rfl (by kernel_rfl) (by kernel_rfl) (by kernel_rfl) (fun _ _ _ h => h) (by rfl) (by assumption) ?_ ?_
        rotate_left 1
        · intro w hSw; (try dsimp only at hSw); go_simp <;> with_reducible rfl
        simp only [List.foldl, Act.put, List.setIfInBounds_toArray, List.set_cons_zero, List.set_cons_succ]
        refine wpAnyH_ready (rs := [3]) (by kernel_rfl) (by simp) ?_
        refine AllReadyH.cons rfl (fun K hK => ?_) AllReadyH.nil
        go_simp
        refine (l7Num_at A m nm bm.2 _).mono ?_
        rintro e w2 ⟨rfl, rfl⟩
        refine hK.out _ _ ?_ (fun hHeld => ?_)
        · trivial
        clear hK K
        try simp only [List.foldl, Act.put, List.setIfInBounds_toArray, List.set_cons_zero, List.set_cons_succ]
        refine wpAnyH_one (i := 5) (d := 64) (v := ?_) rfl rfl (by kernel_rfl) (by kernel_rfl) (by kernel_rfl) (fun _ _ _ h => h) (by rfl) (by assumption) ?_ ?_
        rotate_left 1
        · intro w hSw; (try dsimp only at hSw); go_simp <;> with_reducible rfl
        simp only [List.foldl, Act.put, List.setIfInBounds_toArray, List.set_cons_zero, List.set_cons_succ]
        refine wpAnyH_ready (rs := [10]) (by kernel_rfl) (by simp) ?_
        refine AllReadyH.cons rfl (fun K hK => ?_) AllReadyH.nil
        go_simp
        refine (l7Num_at B n nn bn.2 _).mono ?_
        rintro e w2 ⟨rfl, rfl⟩
        refine hK.out _ _ ?_ (fun hHeld => ?_)
        · trivial
        clear hK K
        try simp only [List.foldl, Act.put, List.setIfInBounds_toArray, List.set_cons_zero, List.set_cons_succ]
        refine wpAnyH_one (i := 11) (d := 70) (v := ?_) rfl rfl (by kernel_rfl) (by kernel_rfl) (by kernel_rfl) (fun _ _ _ h => h) (by rfl) (by assumption) ?_ ?_
        rotate_left 1
        · intro w hSw; (try dsimp only at hSw); go_simp <;> with_reducible rfl
        simp only [List.foldl, Act.put, List.setIfInBounds_toArray, List.set_cons_zero, List.set_cons_succ]
        refine wpAnyH_one (i := 12) (d := 71) (v := ?_) rfl rfl (by kernel_rfl) (by kernel_rfl) (by kernel_rfl) (fun _ _ _ h => h) (by rfl) (by assumption) ?_ ?_
        rotate_left 1
        · intro w hSw; (try dsimp only at hSw); go_simp <;> with_reducible rfl
        simp only [List.foldl, Act.put, List.setIfInBounds_toArray, List.set_cons_zero, List.set_cons_succ]
        refine wpAnyH_one (i := 15) (d := 74) (v := ?_) rfl rfl (by kernel_rfl) (by kernel_rfl) (by kernel_rfl) (fun _ _ _ h => h) (by rfl) (by assumption) ?_ ?_
        rotate_left 1
        · intro w hSw; (try dsimp only at hSw); go_simp <;> with_reducible rfl
        simp only [List.foldl, Act.put, List.setIfInBounds_toArray, List.set_cons_zero, List.set_cons_succ]
        refine wpAnyH_one (i := 16) (d := 2) (v := ?_) rfl rfl (by kernel_rfl) (by kernel_rfl) (by kernel_rfl) (fun _ _ _ h => h) (by rfl) (by assumption) ?_ ?_
        rotate_left 1
        · intro w hSw; (try dsimp only at hSw); go_simp <;> with_reducible rfl
        simp only [List.foldl, Act.put, List.setIfInBounds_toArray, List.set_cons_zero, List.set_cons_succ]
        refine wpAnyH_one (i := 17) (d := 3) (v := ?_) rfl rfl (by kernel_rfl) (by kernel_rfl) (by kernel_rfl) (fun _ _ _ h => h) (by rfl) (by assumption) ?_ ?_
        rotate_left 1
        · intro w hSw; (try dsimp only at hSw); go_simp <;> with_reducible rfl
        simp only [List.foldl, Act.put, List.setIfInBounds_toArray, List.set_cons_zero, List.set_cons_succ]
        refine wpAnyH_done (by kernel_rfl) ?_ _
        go_wp2_with fail
        go_ret2
        exact ⟨FIN.out, by first | exact bl_drew (Below.refl _ _) | exact bl_drewN (Below.refl _ _) _ | exact Below.refl _ _⟩
  · go_wp2_with fail
    refine (hR2 _).mono ?_
    clear hR2
    rintro e w1 ⟨⟨b, rfl, hr2⟩, rfl⟩
    have HR2 : Hid (RunIs s (a + 1) b) := hr2
    have hab : a + 1 ≤ b := hr2.1
    have hbs : b ≤ s.size := hr2.2.1
    clear hr2
    by_cases hbe : b = s.size
    case neg =>
      have F := hno.out (fun k h => hbe (h.run2 HR2.out))
      have g5 : ((b : Int) != (s.size : Int)) = true := by simp; omega
      go_wp2_with fail
      go_ret2
      exact ⟨F, Below.refl _ _⟩
    have g5 : ((b : Int) != (s.size : Int)) = false := by simp; omega
    have HBE : Hid (b = s.size) := hbe
    clear hbe
    obtain ⟨k, hk⟩ : ∃ k, Hid (b = a + 1 + k) := ⟨b - a - 1, by show _ = _; omega⟩
    go_wp2_with fail
    rw [show (b : Int) - (a : Int) - 1 = (k : Int) by have := hk.out; omega]
    refine (l1In_any k 1 6 _).mono ?_
    rintro e w1 ⟨rfl, rfl⟩
    by_cases hk6 : (1 ≤ k ∧ k ≤ 6)
    case neg =>
      have F := hno.out (fun l h => by have h1 := h.size; have h2 := h.k1; have h3 := h.k6; have h4 := hk.out; have h5 := HBE.out; omega)
      have t6 : (decide ((1 : Int) ≤ (k : Int)) && decide ((k : Int) ≤ 6)) = false := by simp; omega
      rw [t6]
      go_wp2_with fail
      go_ret2
      exact ⟨F, Below.refl _ _⟩
    have t6 : (decide ((1 : Int) ≤ (k : Int)) && decide ((k : Int) ≤ 6)) = true := by simp; omega
    rw [t6]
    have HA : Hid (RealAt s a k) := ⟨by have := hk.out; have := HBE.out; omega, h19.1, h19.2, hk6.1, hk6.2, hp.out, fun j hj => HR.out.2.2.1 j (Nat.zero_le _) hj, fun j h1 h2 => HR2.out.2.2.1 j (by omega) (by have := HBE.out; omega), by rw [hz.out]; omega⟩
    clear t6 g5
    go_wp2_with fail
    go_loop [7, 8] (fun tv i => ∃ q : Nat, q ≤ k ∧ i = .int .i64 q ∧ tv = .int .i64 ((10 ^ q : Nat) : Int)) (fun _ i => k - (intOf i).toNat)
    case atStart => exact ⟨0, Nat.zero_le _, rfl, rfl⟩
    case round =>
      obtain ⟨q, hq, rfl, rfl⟩ := hrel
      have hp6 : 10 ^ q ≤ 10 ^ 6 := Nat.pow_le_pow_right (by omega) (by omega)
      obtain ⟨t, ht⟩ : ∃ t, Hid (10 ^ q = t) := ⟨10 ^ q, (rfl : 10 ^ q = 10 ^ q)⟩
      rw [ht.out] at hp6
      rw [ht.out]
      have t6b : t ≤ 1000000 := by simpa using hp6
      clear hp6
      by_cases hqk : (q : Int) < (k : Int)
      · have w4 : IntKind.i64.wrap ((t : Int) * 10) = (t : Int) * 10 := by rw [IntKind.wrap_i64]; omega
        go_wp2_with fail
        go_round
        case rel => exact ⟨q + 1, by omega, by go_num, by rw [Nat.pow_succ, ht.out]; congr 1⟩
        case measure => simp [intOf]; omega
      · have hqk2 : Hid (q = k) := by show _ = _; omega
        obtain ⟨m, n, A, B, hA, hB, nm, nn, bm, bn, HS, hsl1, hsl2⟩ := real_parts HA.out
        have hmt : m * t ≤ 999999999 * 1000000 := Nat.mul_le_mul (by omega) (by omega)
        obtain ⟨mt, hmt0⟩ : ∃ mt : Nat, Hid (m * t = mt) := ⟨_, (rfl : m * t = m * t)⟩
        have hmI : (m : Int) * (t : Int) = (mt : Int) := by rw [← hmt0.out]; simp
        rw [hmt0.out] at hmt
        have w5 : IntKind.i64.wrap ((m : Int) * (t : Int)) = (mt : Int) := by rw [hmI, IntKind.wrap_i64]; omega
        have w6 : IntKind.i64.wrap ((mt : Int) + (n : Int)) = ((mt + n : Nat) : Int) := by rw [IntKind.wrap_i64]; omega
        obtain ⟨N, hN⟩ : ∃ N : Nat, Hid (mt + n = N) := ⟨_, (rfl : mt + n = mt + n)⟩
        rw [hN.out] at w6
        have htF : floatOfInt .f64 (t : Int) = tenF k := by
          rw [← tenF_int (k := k) (by omega), ← hqk2.out, ht.out]
        obtain ⟨r, hr, br⟩ := ofInt_quo (N : Int) (k := k) (by omega)
        have hq := fun w => run_float_arith (P := Tryz.prog) w .quo 74 .f64 _ _ r hr
        have FIN : Hid (RealSays s (.returned (.tuple #[.float .f64 r, .bool true]))) := by
          refine Or.inr ⟨a, k, N, r, HA.out, ?_, hr, br, rfl⟩
          rw [HS t (by rw [← ht.out, hqk2.out]), hmt0.out, hN.out]
        clear hr HS hA hB hmt hmI
        go_wp2_with fail
        refine wp_region_held_drew (S := fun _ => True) (by kernel_rfl) ?_ (fun hHeld => ?_)
        · trivial
        refine wpAnyH_one (i := 0) (d := 59) (v := ?_) rfl rfl (by kernel_rfl) (by kernel_rfl) (by kernel_rfl) (fun _ _ _ h => h) (by rfl) (by assumption) ?_ ?_
        rotate_left 1
        · intro w hSw; (try dsimp only at hSw); go_simp <;> with_reducible rfl
        simp only [List.foldl, Act.put, List.setIfInBounds_toArray, List.set_cons_zero, List.set_cons_succ]
        refine wpAnyH_one (i := 1) (d := 60) (v := ?_) rfl rfl (by kernel_rfl) (by kernel_rfl) (by kernel_rfl) (fun _ _ _ h => h) (by rfl) (by assumption) ?_ ?_
        rotate_left 1
        · intro w hSw; (try dsimp only at hSw); go_simp <;> with_reducible rfl
        simp only [List.foldl, Act.put, List.setIfInBounds_toArray, List.set_cons_zero, List.set_cons_succ]
        refine wpAnyH_one (i := 2) (d := 61) (v := ?_) rfl rfl (by kernel_rfl) (by kernel_rfl) (by kernel_rfl) (fun _ _ _ h => h) (by rfl) (by assumption) ?_ ?_
        rotate_left 1
        · intro w hSw; (try dsimp only at hSw); go_simp <;> with_reducible rfl
        simp only [List.foldl, Act.put, List.setIfInBounds_toArray, List.set_cons_zero, List.set_cons_succ]
        refine wpAnyH_one (i := 4) (d := 63) (v := ?_) rfl rfl (by kernel_rfl) (by kernel_rfl) (by kernel_rfl) (fun _ _ _ h => h) (by rfl) (by assumption) ?_ ?_
        rotate_left 1
        · intro w hSw; (try dsimp only at hSw); go_simp <;> with_reducible rfl
        simp only [List.foldl, Act.put, List.setIfInBounds_toArray, List.set_cons_zero, List.set_cons_succ]
        refine wpAnyH_one (i := 6) (d := 65) (v := ?_) rfl rfl (by kernel_rfl) (by kernel_rfl) (by kernel_rfl) (fun _ _ _ h => h) (by rfl) (by assumption) ?_ ?_
        rotate_left 1
        · intro w hSw; (try dsimp only at hSw); go_simp <;> with_reducible rfl
        simp only [List.foldl, Act.put, List.setIfInBounds_toArray, List.set_cons_zero, List.set_cons_succ]
        refine wpAnyH_one (i := 7) (d := 66) (v := ?_) rfl rfl (by kernel_rfl) (by kernel_rfl) (by kernel_rfl) (fun _ _ _ h => h) (by rfl) (by assumption) ?_ ?_
        rotate_left 1
        · intro w hSw; (try dsimp only at hSw); go_simp <;> with_reducible rfl
        simp only [List.foldl, Act.put, List.setIfInBounds_toArray, List.set_cons_zero, List.set_cons_succ]
        refine wpAnyH_one (i := 8) (d := 67) (v := ?_) rfl rfl (by kernel_rfl) (by kernel_rfl) (by kernel_rfl) (fun _ _ _ h => h) (by rfl) (by assumption) ?_ ?_
        rotate_left 1
        · intro w hSw; (try dsimp only at hSw); go_simp <;> with_reducible rfl
        simp only [List.foldl, Act.put, List.setIfInBounds_toArray, List.set_cons_zero, List.set_cons_succ]
        refine wpAnyH_one (i := 9) (d := 68) (v := ?_) rfl rfl (by kernel_rfl) (by kernel_rfl) (by kernel_rfl) (fun _ _ _ h => h) (by rfl) (by assumption) ?_ ?_
        rotate_left 1
        · intro w hSw; (try dsimp only at hSw); go_simp <;> with_reducible rfl
        simp only [List.foldl, Act.put, List.setIfInBounds_toArray, List.set_cons_zero, List.set_cons_succ]
        refine wpAnyH_one (i := 13) (d := 72) (v := ?_) rfl rfl (by kernel_rfl) (by kernel_rfl) (by kernel_rfl) (fun _ _ _ h => h) (by rfl) (by assumption) ?_ ?_
        rotate_left 1
        · intro w hSw; (try dsimp only at hSw); go_simp <;> with_reducible rfl
        simp only [List.foldl, Act.put, List.setIfInBounds_toArray, List.set_cons_zero, List.set_cons_succ]
        refine wpAnyH_one (i := 14) (d := 73) (v := ?_) rfl rfl (by kernel_rfl) (by kernel_rfl) (by kernel_rfl) (fun _ _ _ h => h) (by rfl) (by assumption) ?_ ?_
        rotate_left 1
        · intro w hSw; (try dsimp only at hSw); go_simp <;> with_reducible rfl
        simp only [List.foldl, Act.put, List.setIfInBounds_toArray, List.set_cons_zero, List.set_cons_succ]
        refine wpAnyH_ready (rs := [3]) (by kernel_rfl) (by simp) ?_
        refine AllReadyH.cons rfl (fun K hK => ?_) AllReadyH.nil
        go_simp
        refine (l7Num_at A m nm bm.2 _).mono ?_
        rintro e w2 ⟨rfl, rfl⟩
        refine hK.out _ _ ?_ (fun hHeld => ?_)
        · trivial
        clear hK K
        try simp only [List.foldl, Act.put, List.setIfInBounds_toArray, List.set_cons_zero, List.set_cons_succ]
        refine wpAnyH_one (i := 5) (d := 64) (v := ?_) rfl rfl (by kernel_rfl) (by kernel_rfl) (by kernel_rfl) (fun _ _ _ h => h) (by rfl) (by assumption) ?_ ?_
        rotate_left 1
        · intro w hSw; (try dsimp only at hSw); go_simp <;> with_reducible rfl
        simp only [List.foldl, Act.put, List.setIfInBounds_toArray, List.set_cons_zero, List.set_cons_succ]
        refine wpAnyH_ready (rs := [10]) (by kernel_rfl) (by simp) ?_
        refine AllReadyH.cons rfl (fun K hK => ?_) AllReadyH.nil
        go_simp
        refine (l7Num_at B n nn bn.2 _).mono ?_
        rintro e w2 ⟨rfl, rfl⟩
        refine hK.out _ _ ?_ (fun hHeld => ?_)
        · trivial
        clear hK K
        try simp only [List.foldl, Act.put, List.setIfInBounds_toArray, List.set_cons_zero, List.set_cons_succ]
        refine wpAnyH_one (i := 11) (d := 70) (v := ?_) rfl rfl (by kernel_rfl) (by kernel_rfl) (by kernel_rfl) (fun _ _ _ h => h) (by rfl) (by assumption) ?_ ?_
        rotate_left 1
        · intro w hSw; (try dsimp only at hSw); go_simp <;> with_reducible rfl
        simp only [List.foldl, Act.put, List.setIfInBounds_toArray, List.set_cons_zero, List.set_cons_succ]
        refine wpAnyH_one (i := 12) (d := 71) (v := ?_) rfl rfl (by kernel_rfl) (by kernel_rfl) (by kernel_rfl) (fun _ _ _ h => h) (by rfl) (by assumption) ?_ ?_
        rotate_left 1
        · intro w hSw; (try dsimp only at hSw); go_simp <;> with_reducible rfl
        simp only [List.foldl, Act.put, List.setIfInBounds_toArray, List.set_cons_zero, List.set_cons_succ]
        refine wpAnyH_one (i := 15) (d := 74) (v := ?_) rfl rfl (by kernel_rfl) (by kernel_rfl) (by kernel_rfl) (fun _ _ _ h => h) (by rfl) (by assumption) ?_ ?_
        rotate_left 1
        · intro w hSw; (try dsimp only at hSw); go_simp <;> with_reducible rfl
        simp only [List.foldl, Act.put, List.setIfInBounds_toArray, List.set_cons_zero, List.set_cons_succ]
        refine wpAnyH_one (i := 16) (d := 2) (v := ?_) rfl rfl (by kernel_rfl) (by kernel_rfl) (by kernel_rfl) (fun _ _ _ h => h) (by rfl) (by assumption) ?_ ?_
        rotate_left 1
        · intro w hSw; (try dsimp only at hSw); go_simp <;> with_reducible rfl
        simp only [List.foldl, Act.put, List.setIfInBounds_toArray, List.set_cons_zero, List.set_cons_succ]
        refine wpAnyH_one (i := 17) (d := 3) (v := ?_) rfl rfl (by kernel_rfl) (by kernel_rfl) (by kernel_rfl) (fun _ _ _ h => h) (by rfl) (by assumption) ?_ ?_
        rotate_left 1
        · intro w hSw; (try dsimp only at hSw); go_simp <;> with_reducible rfl
        simp only [List.foldl, Act.put, List.setIfInBounds_toArray, List.set_cons_zero, List.set_cons_succ]
        refine wpAnyH_done (by kernel_rfl) ?_ _
        go_wp2_with fail
        go_ret2
        exact ⟨FIN.out, by first | exact bl_drew (Below.refl _ _) | exact bl_drewN (Below.refl _ _) _ | exact Below.refl _ _⟩
end Go.Proofs.YtknallkcengbbaaGreatDoor
