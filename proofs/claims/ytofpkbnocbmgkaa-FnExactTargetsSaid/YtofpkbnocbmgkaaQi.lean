import Derived.Test.YtofpkbnocbmgkaaQh
namespace Go.Proofs.Ytofpkbnocbmgkaa
open Go.RowKit
set_option linter.unusedVariables false
set_option linter.unusedSimpArgs false

theorem Chgs.later {w w' : World} {B : Nat} {s : Option Addr} {L : List Cm} (h : Chgs w B s L) (hb : Below w.heap.size w w') : Chgs w' B s L := by
  rcases h with h | ⟨g, e, h1, h2⟩
  · exact Or.inl h
  · refine Or.inr ⟨g, e, Nat.lt_of_lt_of_le h1 hb.size, fun j c hc => ?_⟩
    obtain ⟨v, h3, h4⟩ := h2 j c hc
    exact ⟨v, (hb.cell (p := ⟨g, j, none⟩) h1).trans h3, h4.later hb⟩

set_option maxRecDepth 100000 in
set_option maxHeartbeats 4000000 in
theorem implTargets_any (s : Option Addr) (c : Nat) (L : List Cm) (w : World) (hL : Els 9 cCmd w 0 s L) (hk : kCs L) :
    Calls Try.prog 28 #[.slice s L.length c] w fun e w' => (∃ s' c' R, e = .returned (.slice s' (List.length (α := Int) R) c') ∧ OI w' w.heap.size (.slice s' R.length c') R ∧ Srt (tgs L) R) ∧ Below w.heap.size w w' := by
  have HL : Hid (Els 9 cCmd w 0 s L) := hL
  have HKC : Hid (kCs L) := hk
  obtain ⟨hl, hls⟩ := hk
  have HK : Hid (∀ c ∈ L, c.list.length ≤ 1048576) := hls
  clear hls hL
  go_enter Try.func28, Try.ntmps28
  go_wp2_with fail
  refine (changesOf_any s c L w HL.out HKC.out).mono ?_
  rintro e w1 ⟨⟨s1, c1, rfl, hC⟩, hb1⟩
  have HC : Hid (Chgs w1 0 s1 L) := hC
  clear hC
  go_wp2_with fail
  go_loopw [3, 9] (fun v i wr => ∃ (k : Nat) (s9 : Option Addr) (c9 : Nat) (R : List Int), k ≤ L.length ∧ i = .int .i64 k ∧ v = .slice s9 R.length c9 ∧ Hid (R = tgs (L.take k)) ∧ Hid (OI wr w1.heap.size (.slice s9 R.length c9) R) ∧ Hid (Below w1.heap.size w1 wr)) (fun _ i _ => L.length - (intOf i).toNat)
  case atStart => exact ⟨0, none, 0, [], Nat.zero_le _, rfl, rfl, (by simp [Hid, tgs]), OI.nil _ _, Below.refl _ _⟩
  case round =>
    obtain ⟨k, s9, c9, R, hk, rfl, rfl, hR, hO, hb⟩ := hrel
    by_cases hlt : k < L.length
    · obtain ⟨cm, hcm⟩ := get_some hlt
      have lR : R.length ≤ 1048576 * k := by rw [hR.out]; exact tgs_len HK.out k (by omega)
      have kl := HK.out cm (List.mem_of_getElem? hcm)
      have lt2 := tgt_len kl
      have HS : Hid (tgs (L.take (k + 1)) = R ++ tgt cm) := by show _ = _; rw [tgs_succ hcm, ← hR.out]
      rcases HC.out with h0 | ⟨g, rfl, hg, hcs⟩
      · subst h0; simp at hlt
      obtain ⟨v, hv1, hv2⟩ := hcs k cm hcm
      obtain ⟨t9, u9, rfl⟩ := hv2.form
      have x0 := (hb.out.cell (p := ⟨g, k, none⟩) hg).trans hv1
      have HV : Hid (ChgIs w1 0 (.iface t9 u9) cm) := hv2
      clear hcm hR hcs hv1 hv2
      go_wp2_with fail
      refine (targetsOf_any _ cm 0 _ (HV.out.later hb.out) kl).mono ?_
      rintro e w2 ⟨⟨s2, c2, R2, rfl, hR2, hE2⟩, hb2⟩
      have E2 : Hid (Els 1 cInt w2 0 s2 R2) := hE2
      have l2 : R2.length ≤ 1048576 := by rw [hR2]; exact lt2
      obtain ⟨R3, hR3⟩ : ∃ R3, Hid (R ++ R2 = R3) := ⟨_, (rfl : R ++ R2 = _)⟩
      have HS3 : Hid (R3 = tgs (L.take (k + 1))) := by show R3 = _; rw [HS.out, ← hR3.out, hR2]
      have hO2 : Hid (OI w2 w1.heap.size (.slice s9 R.length c9) R) := hO.out.later hb2
      have hb3 : Below w1.heap.size w1 w2 := bl_trans hb.out hb2
      clear hR2 hE2 hO hb2 x0 hb
      go_wp2_with (at_builtin; refine wpList_append_ints rfl _ _ rfl w1.heap.size s9 c9 R rfl hO2.out 0 s2 c2 R2 rfl E2.out R3 hR3.out (by omega) hb3.size ?_; intro s' c' w4 hO4 hg4 hn4)
      have hO4 : Hid (OI w4 w1.heap.size (.slice s' R3.length c') R3) := hO4
      have hb4 : Hid (Below w1.heap.size w1 w4) := grown_oi hb3 hb3.size hO2.out hg4
      clear hg4 hn4 hO2 E2 hb3
      go_wp2_with fail
      go_roundw
      case rel => exact ⟨k + 1, s', c', R3, by omega, by go_num, rfl, HS3, hO4, hb4⟩
      case measure => simp [intOf]; omega
    · have lR : R.length ≤ 1048576 * L.length := by rw [hR.out]; have h5 := tgs_len HK.out k (by omega); omega
      have HE : Hid (R = tgs L) := by show R = _; rw [hR.out, show k = L.length by omega, List.take_length]
      clear hR
      go_wp2_with fail
      refine (sort_own s9 c9 w1.heap.size R _ w1 hO.out hb.out hb.out.size (by omega)).mono ?_
      rintro e w2 ⟨⟨rfl, hO2⟩, hb2, hB2⟩
      obtain ⟨M, hM⟩ : ∃ M, Hid ((R.mergeSort fun x y => decide (x ≤ y)) = M) := ⟨_, (rfl : (R.mergeSort fun x y => decide (x ≤ y)) = _)⟩
      rw [hM.out] at hO2
      have lM : M.length = R.length := by rw [← hM.out]; exact List.length_mergeSort R
      rw [← lM] at hO2
      have HO2 : Hid (OI w2 w1.heap.size (.slice s9 M.length c9) M) := hO2
      have HB2 : Hid (Below w1.heap.size w1 w2) := hb2
      clear hO2 hb2 hO hb
      go_wp2_with fail
      rw [← lM]
      refine (compact_own s9 c9 w1.heap.size M _ w1 HO2.out HB2.out hB2 (by omega)).mono ?_
      rintro e w3 ⟨⟨rfl, hO3⟩, hb3⟩
      have HH : Hid (Srt (tgs L) (Lib.compact M)) := by rw [← hM.out, ← HE.out]; exact srt_compact R
      have HO3 : Hid (OI w3 w.heap.size (.slice s9 (Lib.compact M).length c9) (Lib.compact M)) := hO3.mono hb1.size
      have HB3 : Hid (Below w.heap.size w w3) := bl_trans hb1 hb3
      clear hO3 hb3
      generalize hZ : Lib.compact M = Z at HH HO3 ⊢
      clear hZ
      go_wp2_with fail
      go_ret
      exact ⟨⟨s9, c9, Z, rfl, HO3.out, HH.out⟩, HB3.out⟩
end Go.Proofs.Ytofpkbnocbmgkaa
