import Derived.Test.YtofpkbnocbmgkaaQe
import Derived.Test.YtofpkbnocbmgkaaCa
namespace Go.Proofs.Ytofpkbnocbmgkaa
open Go.RowKit
set_option linter.unusedVariables false
set_option linter.unusedSimpArgs false

/-- the columns that a command touches. -/
def tgt (c : Cm) : List Int := if c.kind = 1 then c.list.map (fun x => x.1) else if c.kind = 3 ∨ c.kind = 4 then [c.comp] else []
def tgs (L : List Cm) : List Int := L.flatMap tgt
theorem tgt_len {c : Cm} (h : c.list.length ≤ 1048576) : (tgt c).length ≤ 1048576 := by
  unfold tgt
  split
  · simpa using h
  · split
    · simp
    · simp
theorem tgs_succ {L : List Cm} {k : Nat} {c : Cm} (h : L[k]? = some c) : tgs (L.take (k + 1)) = tgs (L.take k) ++ tgt c := by
  have hk : k < L.length := (List.getElem?_eq_some_iff.1 h).1
  rw [List.take_succ_eq_append_getElem hk]
  have e : L[k] = c := by rw [List.getElem?_eq_getElem hk] at h; simpa using h
  rw [e]
  unfold tgs
  rw [List.flatMap_append]
  simp
theorem tgs_len {L : List Cm} (hk : ∀ c ∈ L, c.list.length ≤ 1048576) : ∀ m, m ≤ L.length → (tgs (L.take m)).length ≤ 1048576 * m
  | 0, _ => by simp [tgs]
  | m + 1, h => by
    obtain ⟨t, ht⟩ := get_some (L := L) (k := m) (by omega)
    have h1 := tgs_len hk m (by omega)
    have h2 := tgt_len (hk t (List.mem_of_getElem? ht))
    rw [tgs_succ ht, List.length_append]
    omega
theorem map_succ {L : List C5} {k : Nat} {c : C5} (h : L[k]? = some c) : (L.take (k + 1)).map (fun x => x.1) = (L.take k).map (fun x => x.1) ++ [c.1] := by
  have hk : k < L.length := (List.getElem?_eq_some_iff.1 h).1
  rw [List.take_succ_eq_append_getElem hk]
  have e : L[k] = c := by rw [List.getElem?_eq_getElem hk] at h; simpa using h
  rw [e]; simp

set_option maxRecDepth 100000 in
set_option maxHeartbeats 8000000 in
theorem specTargets_any (s : Option Addr) (c : Nat) (L : List Cm) (B : Nat) (w : World) (hL : Els 9 cCmd w B s L) (hk : kCs L) :
    Calls Try.prog 26 #[.slice s L.length c] w fun e w' => (∃ s' c' R, e = .returned (.slice s' (List.length (α := Int) R) c') ∧ OI w' w.heap.size (.slice s' R.length c') R ∧ Srt (tgs L) R) ∧ Below w.heap.size w w' := by
  obtain ⟨hl, hls⟩ := hk
  have HK : Hid (∀ c ∈ L, c.list.length ≤ 1048576) := hls
  clear hls
  have k0 := Blk.new w #[] 3
  have L0 := bl_alloc (Below.refl _ w) (.cells #[] 3)
  have O0 : OI (w.alloc (.cells #[] 3)) w.heap.size (.slice (some ⟨w.heap.size, 0, none⟩) 0 0) [] := OI.empty k0
  go_enter Try.func26, Try.ntmps26
  go_wp2_with fail
  generalize hX : w.alloc (.cells #[] 3) = X at k0 L0 O0 ⊢
  clear hX
  go_loopw [3, 4] (fun v i wr => ∃ (k : Nat) (s9 : Option Addr) (c9 : Nat) (R : List Int), k ≤ L.length ∧ i = .int .i64 k ∧ v = .slice s9 R.length c9 ∧ Hid (R = tgs (L.take k)) ∧ Hid (OI wr w.heap.size (.slice s9 R.length c9) R) ∧ Hid (Below w.heap.size w wr)) (fun _ i _ => L.length - (intOf i).toNat)
  case atStart => exact ⟨0, _, 0, [], Nat.zero_le _, rfl, rfl, (by simp [Hid, tgs]), O0, L0⟩
  case round =>
    obtain ⟨k, s9, c9, R, hk, rfl, rfl, hR, hO, hb⟩ := hrel
    by_cases hlt : k < L.length
    · obtain ⟨cm, hcm⟩ := get_some hlt
      have lR : R.length ≤ 1048576 * k := by rw [hR.out]; exact tgs_len HK.out k (by omega)
      have kl := HK.out cm (List.mem_of_getElem? hcm)
      have HS : Hid (tgs (L.take (k + 1)) = R ++ tgt cm) := by show _ = _; rw [tgs_succ hcm, ← hR.out]
      obtain ⟨b, o, rfl, _, hp, _, s', c', e0, e1, e2, e3, e4, e5, e6, e7, e8, f⟩ := eCmd_cells hL hcm
      have E8 : Hid (w.cell? ⟨b, o + k * 9 + 8, none⟩ = some (.slice s' cm.list.length c')) := e8
      have HF : Hid (Els 5 cCell w B s' cm.list) := f
      have x0 := (hb.out.cell (p := ⟨b, o + k * 9, none⟩) hp).trans e0
      have x3 := (hb.out.cell (p := ⟨b, o + k * 9 + 3, none⟩) hp).trans e3
      have x8 := (hb.out.cell (p := ⟨b, o + k * 9 + 8, none⟩) hp).trans e8
      have HL : Hid (Els 9 cCmd w B (some ⟨b, o, none⟩) L) := hL
      clear hcm hR e0 e1 e2 e3 e4 e5 e6 e7 e8 f
      by_cases h1 : cm.kind = 1
      · have q1 : (cm.kind == 1) = true := by simp [h1]
        have HT : Hid (tgt cm = cm.list.map (fun x => x.1)) := by show _ = _; unfold tgt; rw [if_pos h1]
        clear h1
        go_wp2_with fail
        clear x0 x3 x8 q1
        obtain ⟨W5, rfl⟩ : ∃ W5, W5 = wr := ⟨_, rfl⟩
        go_loopw [3, 5] (fun v i wr2 => ∃ (m : Nat) (s8 : Option Addr) (c8 : Nat) (R8 : List Int), m ≤ cm.list.length ∧ i = .int .i64 m ∧ v = .slice s8 R8.length c8 ∧ Hid (R8 = R ++ (cm.list.take m).map (fun x => x.1)) ∧ Hid (OI wr2 w.heap.size (.slice s8 R8.length c8) R8) ∧ Hid (Below w.heap.size w wr2)) (fun _ i _ => cm.list.length - (intOf i).toNat)
        case atStart => exact ⟨0, s9, c9, R, Nat.zero_le _, rfl, rfl, (by simp [Hid]), hO, hb⟩
        case round =>
          obtain ⟨m, s8, c8, R8, hm, rfl, rfl, hR8, hO8, hb8⟩ := hrel
          have x8 := (hb8.out.cell (p := ⟨b, o + k * 9 + 8, none⟩) hp).trans E8.out
          by_cases hltm : m < cm.list.length
          · obtain ⟨ce, hce⟩ := get_some hltm
            obtain ⟨b2, o2, rfl, _, hp2, _, y0, _, _, _, _⟩ := eCell_cells (HF.out.later cCell_keeps hb8.out) hce
            obtain ⟨x, hx⟩ : ∃ x, ce.1 = x := ⟨_, rfl⟩
            rw [hx] at y0
            obtain ⟨R2, hR2⟩ : ∃ R2, Hid (R8 ++ [x] = R2) := ⟨_, (rfl : R8 ++ [x] = _)⟩
            have HS2 : Hid (R2 = R ++ (cm.list.take (m + 1)).map (fun x => x.1)) := by show R2 = _; rw [map_succ hce, hx, ← hR2.out, hR8.out, List.append_assoc]
            have l8 : R8.length ≤ R.length + m := by rw [hR8.out, List.length_append, List.length_map, List.length_take]; omega
            have hb3 : Below w.heap.size w (wr.alloc (.cells #[.int .i64 x] 3)) := bl_alloc hb8.out _
            have hO2 : Hid (OI (wr.alloc (.cells #[.int .i64 x] 3)) w.heap.size (.slice s8 R8.length c8) R8) := hO8.out.later (bl_alloc (Below.refl _ _) _)
            have E5 : Hid (Els 1 cInt (wr.alloc (.cells #[.int .i64 x] 3)) wr.heap.size (some ⟨wr.heap.size, 0, none⟩) [x]) := Els.one (Blk.new wr #[.int .i64 x] 3)
            clear hce hx hR8 hO8
            go_wp2_with (at_builtin; refine wpList_append_ints rfl _ _ rfl w.heap.size s8 c8 R8 rfl hO2.out wr.heap.size _ 1 [x] rfl E5.out R2 hR2.out (by simp; omega) hb3.size ?_; intro s' c' w4 hO4 hg4 hn4)
            have hO4 : Hid (OI w4 w.heap.size (.slice s' R2.length c') R2) := hO4
            have hb4 : Hid (Below w.heap.size w w4) := grown_oi hb3 hb3.size hO2.out hg4
            clear hg4 hn4 hO2 E5 hb3 y0 x8
            go_wp2_with fail
            go_roundw
            case rel => exact ⟨m + 1, s', c', R2, by omega, by go_num, rfl, HS2, hO4, hb4⟩
            case measure => simp [intOf]; omega
          · have HS3 : Hid (R8 = tgs (L.take (k + 1))) := by show R8 = _; rw [HS.out, HT.out, hR8.out, show m = cm.list.length by omega, List.take_length]
            go_wp2_with fail
            go_roundw
            case rel => exact ⟨k + 1, s8, c8, R8, by omega, by go_num, rfl, HS3, hO8, hb8⟩
            case measure => simp [intOf]; omega
      · have q1 : (cm.kind == 1) = false := by simp [h1]
        by_cases h3 : cm.kind = 3 ∨ cm.kind = 4
        · obtain ⟨x, hx⟩ : ∃ x, cm.comp = x := ⟨_, rfl⟩
          rw [hx] at x3
          obtain ⟨R2, hR2⟩ : ∃ R2, Hid (R ++ [x] = R2) := ⟨_, (rfl : R ++ [x] = _)⟩
          have HS3 : Hid (R2 = tgs (L.take (k + 1))) := by show R2 = _; rw [HS.out, ← hR2.out]; unfold tgt; rw [if_neg h1, if_pos h3, hx]
          have hb3 : Below w.heap.size w (wr.alloc (.cells #[.int .i64 x] 3)) := bl_alloc hb.out _
          have hO2 : Hid (OI (wr.alloc (.cells #[.int .i64 x] 3)) w.heap.size (.slice s9 R.length c9) R) := hO.out.later (bl_alloc (Below.refl _ _) _)
          have E5 : Hid (Els 1 cInt (wr.alloc (.cells #[.int .i64 x] 3)) wr.heap.size (some ⟨wr.heap.size, 0, none⟩) [x]) := Els.one (Blk.new wr #[.int .i64 x] 3)
          clear hx hO h1
          cases q3 : (cm.kind == 3)
          · have q4 : (cm.kind == 4) = true := by simp at q3 ⊢; omega
            clear h3
            go_wp2_with (at_builtin; refine wpList_append_ints rfl _ _ rfl w.heap.size s9 c9 R rfl hO2.out wr.heap.size _ 1 [x] rfl E5.out R2 hR2.out (by simp; omega) hb3.size ?_; intro s' c' w4 hO4 hg4 hn4)
            have hO4 : Hid (OI w4 w.heap.size (.slice s' R2.length c') R2) := hO4
            have hb4 : Hid (Below w.heap.size w w4) := grown_oi hb3 hb3.size hO2.out hg4
            clear hg4 hn4 hO2 E5 hb3 x0 x3 x8
            go_wp2_with fail
            go_roundw
            case rel => exact ⟨k + 1, s', c', R2, by omega, by go_num, rfl, HS3, hO4, hb4⟩
            case measure => simp [intOf]; omega
          · clear h3
            go_wp2_with (at_builtin; refine wpList_append_ints rfl _ _ rfl w.heap.size s9 c9 R rfl hO2.out wr.heap.size _ 1 [x] rfl E5.out R2 hR2.out (by simp; omega) hb3.size ?_; intro s' c' w4 hO4 hg4 hn4)
            have hO4 : Hid (OI w4 w.heap.size (.slice s' R2.length c') R2) := hO4
            have hb4 : Hid (Below w.heap.size w w4) := grown_oi hb3 hb3.size hO2.out hg4
            clear hg4 hn4 hO2 E5 hb3 x0 x3 x8
            go_wp2_with fail
            go_roundw
            case rel => exact ⟨k + 1, s', c', R2, by omega, by go_num, rfl, HS3, hO4, hb4⟩
            case measure => simp [intOf]; omega
        · have HS3 : Hid (R = tgs (L.take (k + 1))) := by show R = _; rw [HS.out]; unfold tgt; rw [if_neg h1, if_neg h3]; simp
          have q3 : (cm.kind == 3) = false := by simp; omega
          have q4 : (cm.kind == 4) = false := by simp; omega
          clear h1 h3
          go_wp2_with fail
          go_roundw
          case rel => exact ⟨k + 1, s9, c9, R, by omega, by go_num, rfl, HS3, hO, hb⟩
          case measure => simp [intOf]; omega
    · have lR : R.length ≤ 1048576 * L.length := by rw [hR.out]; have h5 := tgs_len HK.out k (by omega); omega
      have HE : Hid (R = tgs L) := by show R = _; rw [hR.out, show k = L.length by omega, List.take_length]
      have hE := hO.out.els
      have hcp := hO.out.cap
      clear hR
      go_wp2_with fail
      refine (l10Sorted_any R.length R (rfl : R.length = R.length) (by omega) s9 c9 w.heap.size _ hE hcp).mono ?_
      rintro e w2 ⟨⟨s', c', R', rfl, hO', hS⟩, hb2⟩
      have HH : Hid (Srt (tgs L) R') := by rw [← HE.out]; exact hS
      have hbz : Hid (Below w.heap.size w w2) := bl_trans hb.out hb2
      have hOz : Hid (OI w2 w.heap.size (.slice s' R'.length c') R') := hO'.mono hb.out.size
      clear hS hO' hE
      go_wp2_with fail
      go_ret
      exact ⟨⟨s', c', R', rfl, hOz.out, HH.out⟩, hbz.out⟩
end Go.Proofs.Ytofpkbnocbmgkaa
