import Derived.Test.YtknallkcengbbaaGreatDoorXd
namespace Go.Proofs.YtknallkcengbbaaGreatDoor
open Go.RowKit
set_option linter.unusedVariables false
set_option linter.unusedSimpArgs false

/-- where the two parts are as they should be, the text is a real number's. -/
theorem real_of_cut {s a b : ByteArray} (hc : CutAt s a b) (h1 : wholeB a 9 = true) (h2 : onlyB b 6 = true) : RealAt s a.size b.size ∧ (a ++ b).data.toList = s.data.toList.take a.size ++ s.data.toList.drop (a.size + 1) := by
  unfold wholeB onlyB at h1
  unfold onlyB at h2
  simp only [Bool.and_eq_true, Bool.or_eq_true, decide_eq_true_eq, Bool.not_eq_true', decide_eq_false_iff_not] at h1 h2
  obtain ⟨⟨⟨a1, a2⟩, a3⟩, a4⟩ := h1
  obtain ⟨⟨b1, b2⟩, b3⟩ := h2
  rcases hc with ⟨i, hi, hp, hno, rfl, rfl⟩ | ⟨_, _, rfl⟩
  · have sA : (s.extract 0 i).size = i := by rw [size_extract' (by omega)]; omega
    have sB : (s.extract (i + 1) s.size).size = s.size - (i + 1) := by rw [size_extract' (by omega)]
    rw [sA] at a1 a2 a3 a4 ⊢
    rw [sB] at b1 b2 b3 ⊢
    refine ⟨⟨by omega, by omega, by omega, by omega, by omega, hp, fun j hj => ?_, fun j h1 h2 => ?_, ?_⟩, ?_⟩
    · have := a3 j hj
      rw [dgAt_extract (by omega) (by omega)] at this
      simpa using this
    · have := b3 (j - (i + 1)) (by omega)
      rw [dgAt_extract (by omega) (by omega)] at this
      rw [show i + 1 + (j - (i + 1)) = j by omega] at this
      exact this
    · rcases a4 with h | h
      · exact Or.inl h
      · right
        rw [byA_extract (by omega) (by omega)] at h
        simpa using h
    · rw [list_append, list_extract (by omega), list_extract (by omega)]
      congr 1
      exact List.take_of_length_le (by rw [List.length_drop, list_len]; omega)
  · simp at b1
/-- .. and where it is, they are. -/
theorem cut_of_real {s a b : ByteArray} (hc : CutAt s a b) {n k : Nat} (h : RealAt s n k) : wholeB a 9 = true ∧ onlyB b 6 = true := by
  have hz := h.size
  have ha1 := h.a1
  have ha9 := h.a9
  have hk1 := h.k1
  have hk6 := h.k6
  rcases hc with ⟨i, hi, hp, hno, rfl, rfl⟩ | ⟨hno, _, _⟩
  · have hin : i = n := by
      by_cases h1 : i < n
      · have := h.fst i h1
        rw [pt_dg hp] at this; cases this
      · by_cases h2 : n < i
        · exact absurd h.pt (hno n h2)
        · omega
    subst hin
    have sA : (s.extract 0 i).size = i := by rw [size_extract' (by omega)]; omega
    have sB : (s.extract (i + 1) s.size).size = k := by rw [size_extract' (by omega)]; omega
    have dA : ∀ j, j < i → dgAt (s.extract 0 i) j = true := fun j hj => by
      rw [dgAt_extract (by omega) (by omega)]
      exact h.fst _ (by omega)
    have dB : ∀ j, j < k → dgAt (s.extract (i + 1) s.size) j = true := fun j hj => by
      rw [dgAt_extract (by omega) (by omega)]
      exact h.snd _ (by omega) (by omega)
    unfold wholeB onlyB
    simp only [Bool.and_eq_true, Bool.or_eq_true, decide_eq_true_eq, Bool.not_eq_true', decide_eq_false_iff_not]
    rw [sA, sB]
    refine ⟨⟨⟨⟨by omega, by omega⟩, dA⟩, ?_⟩, ⟨by omega, by omega⟩, dB⟩
    rcases h.nz with e | e
    · exact Or.inl e
    · right
      rw [byA_extract (by omega) (by omega)]
      simpa using e
  · exact absurd h.pt (hno n (by omega))

set_option maxRecDepth 100000 in
set_option maxHeartbeats 4000000 in
theorem implRealOf_any (s : ByteArray) (hs : s.size ≤ 1048576) (w : World) :
    Calls Tryz.prog 55 #[.string s] w fun e w' => RealSays s e ∧ Below w.heap.size w w' := by
  go_enter Tryz.func55, Tryz.ntmps55
  go_wp2_with fail
  refine (cut_any s hs _).mono ?_
  rintro e w1 ⟨⟨a, b, fd, rfl, hc⟩, hb1⟩
  have HC : Hid (CutAt s a b) := hc
  clear hc
  go_wp2_with fail
  refine (wholeDigits_any a 9 _).mono ?_
  rintro e w2 ⟨rfl, hb2⟩
  have hb2 := bl_trans hb1 hb2
  clear hb1
  cases h1 : wholeB a 9
  · have F : RealSays s (.returned (.tuple #[.float .f64 0, .bool false])) := Or.inl ⟨fun ⟨n, k, h⟩ => (by have := (cut_of_real HC.out h).1; rw [h1] at this; cases this), rfl⟩
    go_wp2_with fail
    go_ret2
    exact ⟨F, hb2⟩
  go_wp2_with fail
  refine (onlyDigits_any b 6 _).mono ?_
  rintro e w3 ⟨rfl, hb3⟩
  have hb3 := bl_trans hb2 hb3
  clear hb2
  cases h2 : onlyB b 6
  · have F : RealSays s (.returned (.tuple #[.float .f64 0, .bool false])) := Or.inl ⟨fun ⟨n, k, h⟩ => (by have := (cut_of_real HC.out h).2; rw [h2] at this; cases this), rfl⟩
    go_wp2_with fail
    go_ret2
    exact ⟨F, hb3⟩
  obtain ⟨HR, hL⟩ := real_of_cut HC.out h1 h2
  have HA : Hid (RealAt s a.size b.size) := HR
  obtain ⟨m, n, A, B, hA, hB, nm, nn, bm, bn, HS, -, -⟩ := real_parts HR
  have hN := HS _ rfl
  rw [← hL] at hN
  have HN : Hid (numIs (a ++ b) (m * 10 ^ b.size + n)) := hN
  have k6 := HR.k6
  have k1 := HR.k1
  have sz : (a ++ b).size = a.size + b.size := by simp [ByteArray.size_append]
  have a9 := HR.a9
  have db : Hid (∀ j, j < b.size → byA b j < 128) := by
    intro j hj
    unfold onlyB at h2
    simp only [Bool.and_eq_true, decide_eq_true_eq] at h2
    have : dgB (byA b j) = true := h2.2 j hj
    rw [dgB_iff] at this; omega
  obtain ⟨N, hNN⟩ : ∃ N, Hid (m * 10 ^ b.size + n = N) := ⟨_, (rfl : m * 10 ^ b.size + n = m * 10 ^ b.size + n)⟩
  rw [hNN.out] at HN hN
  obtain ⟨r, hr, br⟩ := ofInt_quo (N : Int) (k := b.size) k6
  have FIN : Hid (RealSays s (.returned (.tuple #[.float .f64 r, .bool true]))) := by
    refine Or.inr ⟨a.size, b.size, N, r, HA.out, ?_, hr, br, rfl⟩
    rw [← hL]; exact hN
  have hq := fun w => run_float_arith (P := Tryz.prog) w .quo 74 .f64 _ _ r hr
  clear hr HS hA hB nm nn bm bn hN hL HR h1 h2
  go_wp2_with fail
  go_loopw [7] (fun tv wr => ∃ k : Nat, k ≤ b.size ∧ wr = w3.iter b k ∧ tv = .float .f64 (tenF k)) (fun _ wr => b.size - wr.iterPos w3.heap.size)
  case atStart => exact ⟨0, Nat.zero_le _, rfl, rfl⟩
  case round =>
    obtain ⟨k, hk, rfl, rfl⟩ := hrel
    by_cases hlt : k < b.size
    · have hnx := fun ty => run_next_ascii (P := Tryz.prog) w3 b k ty hlt (by rw [byA_eq hlt]; exact db.out k hlt)
      have hm := fun w => run_float_arith (P := Tryz.prog) w .mul 74 .f64 _ _ _ (tenF_step (k := k) (by omega))
      go_wp2_with fail
      go_roundw
      case rel => exact ⟨k + 1, by omega, rfl, rfl⟩
      case measure => simp; omega
    · have hnx := fun ty => run_next_end (P := Tryz.prog) w3 b k ty hlt
      have hkb : Hid (k = b.size) := by show _ = _; omega
      rw [hkb.out] at hnx ⊢
      go_wp2_with fail
      refine (numberOf_any (a ++ b) N (by omega) (by omega) HN.out _).mono ?_
      rintro e w4 ⟨rfl, hb4⟩
      have hb4 := bl_trans (bl_alloc hb3 (.stringIter b b.size)) hb4
      go_wp2_with fail
      go_ret2
      exact ⟨FIN.out, hb4⟩

end Go.Proofs.YtknallkcengbbaaGreatDoor
