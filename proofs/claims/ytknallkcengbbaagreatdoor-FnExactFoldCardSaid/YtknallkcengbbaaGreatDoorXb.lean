import Derived.Test.YtknallkcengbbaaGreatDoorXa
namespace Go.Proofs.YtknallkcengbbaaGreatDoor
open Go.RowKit
set_option linter.unusedVariables false
set_option linter.unusedSimpArgs false

theorem dgB_high {c : Nat} (h : 128 ≤ c) : dgB c = false := by
  cases e : dgB c
  · rfl
  · rw [dgB_iff] at e; omega
/-- the byte of a place. -/
def byA (s : ByteArray) (k : Nat) : Nat := (s.data[k]?.getD 0).toNat
theorem byA_eq {s : ByteArray} {k : Nat} (h : k < s.size) : (s[k]'h).toNat = byA s k := by
  unfold byA
  have : s.data[k]? = some (s[k]'h) := Array.getElem?_eq_getElem h
  rw [this]; rfl
/-- the run of letters of a sort, which has ASCII letters alone, ends at b. -/
def RunP (p : Nat → Bool) (s : ByteArray) (b : Nat) : Prop := b ≤ s.size ∧ (∀ j, j < b → p (byA s j) = true) ∧ (b < s.size → p (byA s b) = false)
theorem rune_p {p : Nat → Bool} (hp : ∀ c, 128 ≤ c → p c = false) {s : ByteArray} {k : Nat} (h : k < s.size) : p (Utf8.decode s k).1 = p (byA s k) ∧ (p (byA s k) = true → (Utf8.decode s k).2 = 1) := by
  by_cases ha : (s[k]'h).toNat < 128
  · rw [decode_ascii s k h ha]
    exact ⟨by rw [byA_eq h], fun _ => rfl⟩
  · have hh := (decode_high s k h (by omega)).1
    have e : p (byA s k) = false := by rw [← byA_eq h]; exact hp _ (by omega)
    rw [hp _ hh, e]
    exact ⟨rfl, fun q => by cases q⟩

set_option maxHeartbeats 2000000 in
theorem runOf_any (p : Nat → Bool) (f : FuncId) (hf : ∀ (c : Nat) (w : World), Calls Tryz.prog f #[.int .i32 (c : Int)] w fun e w' => e = .returned (.bool (p c)) ∧ w' = w) (hp : ∀ c, 128 ≤ c → p c = false) (s : ByteArray) (w : World) (hent : ∀ args w, (callFunc f args).run Tryz.prog w = .ok (.enter f args) w) :
    Calls Tryz.prog 106 #[.string s, .func (.func f) #[] #[]] w fun e w' => (∃ b : Nat, e = .returned (.int .i64 (b : Int)) ∧ RunP p s b) ∧ Below w.heap.size w w' := by
  go_enter Tryz.func106, Tryz.ntmps106
  go_wp2_with fail
  go_loopw [] (fun wr => ∃ k : Nat, k ≤ s.size ∧ wr = w.iter s k ∧ Hid (∀ j, j < k → p (byA s j) = true)) (fun wr => s.size - wr.iterPos w.heap.size)
  case atStart => exact ⟨0, Nat.zero_le _, rfl, fun j hj => absurd hj (by omega)⟩
  case round =>
    obtain ⟨k, hk, rfl, hall⟩ := hrel
    by_cases hlt : k < s.size
    · have hnx := fun ty => run_next_any (P := Tryz.prog) w s k ty hlt
      obtain ⟨r1, r2⟩ := rune_p hp hlt
      obtain ⟨c, hc⟩ : ∃ c, (Utf8.decode s k).1 = c := ⟨_, rfl⟩
      obtain ⟨d, hd⟩ : ∃ d, (Utf8.decode s k).2 = d := ⟨_, rfl⟩
      rw [hc] at r1
      rw [hd] at r2
      simp only [hc, hd] at hnx
      clear hc hd
      cases hb : p (byA s k)
      · rw [hb] at r1
        clear r2
        go_wp2_with fail
        refine (hf c _).mono ?_
        rintro e w' ⟨rfl, rfl⟩
        rw [r1]
        go_wp2_with fail
        go_ret
        exact ⟨⟨k, rfl, hk, hall.out, fun _ => hb⟩, bl_alloc (Below.refl _ _) _⟩
      · have hs' : Hid (∀ j, j < k + 1 → p (byA s j) = true) := by
          intro j hj
          by_cases h : j = k
          · subst h; exact hb
          · exact hall.out j (by omega)
        have hd1 := r2 hb
        rw [hd1] at hnx
        rw [hb] at r1
        clear r2 hd1
        go_wp2_with fail
        refine (hf c _).mono ?_
        rintro e w' ⟨rfl, rfl⟩
        rw [r1]
        go_wp2_with fail
        go_roundw
        case rel => exact ⟨k + 1, by omega, rfl, hs'⟩
        case measure => simp; omega
    · have hnx := fun ty => run_next_end (P := Tryz.prog) w s k ty hlt
      go_wp2_with fail
      go_ret
      exact ⟨⟨s.size, rfl, Nat.le_refl _, fun j hj => hall.out j (by omega), fun h => absurd h (by omega)⟩, bl_alloc (Below.refl _ _) _⟩

/-- one to most digits, and nothing else. -/
def onlyB (s : ByteArray) (most : Int) : Bool := decide (1 ≤ s.size) && decide ((s.size : Int) ≤ most) && decide (∀ j, j < s.size → dgAt s j = true)
def wholeB (s : ByteArray) (most : Int) : Bool := onlyB s most && (decide (s.size = 1) || !decide (byA s 0 = 48))
theorem enters_isDigit : ∀ args w, (callFunc 107 args).run Tryz.prog w = .ok (.enter 107 args) w := enters_of Tryz.func107 (by kernel_rfl) rfl

set_option maxHeartbeats 2000000 in
theorem onlyDigits_any (s : ByteArray) (most : Int) (w : World) :
    Calls Tryz.prog 76 #[.string s, .int .i64 most] w fun e w' => e = .returned (.bool (onlyB s most)) ∧ Below w.heap.size w w' := by
  by_cases h1 : (1 : Int) ≤ (s.size : Int)
  · by_cases h2 : (s.size : Int) ≤ most
    · go_enter Tryz.func76, Tryz.ntmps76
      go_wp2_with fail
      refine (runOf_any dgB 107 isDigit_any (fun c h => dgB_high h) s _ enters_isDigit).mono ?_
      rintro e w1 ⟨⟨b, rfl, r1, r2, r3⟩, hb1⟩
      cases hq : ((b : Int) == (s.size : Int))
      · have E : Hid (false = onlyB s most) := by
          have hne : ¬ b = s.size := by intro e; subst e; simp at hq
          have hx := r3 (by omega)
          unfold onlyB
          have : decide (∀ j, j < s.size → dgAt s j = true) = false := by
            rw [decide_eq_false_iff_not]
            intro h
            have h9 : dgAt s b = true := h b (by omega)
            have h8 : dgAt s b = false := hx
            rw [h9] at h8; cases h8
          show _ = _
          rw [this]; simp
        clear r2 r3
        go_wp2_with fail
        go_ret
        exact ⟨ret_bool E.out, hb1⟩
      · have E : Hid (true = onlyB s most) := by
          have he : b = s.size := by simp at hq; omega
          subst he
          unfold onlyB
          have : decide (∀ j, j < s.size → dgAt s j = true) = true := by
            rw [decide_eq_true_eq]
            exact fun j hj => r2 j hj
          show _ = _
          rw [this]; simp; omega
        clear r2 r3
        go_wp2_with fail
        go_ret
        exact ⟨ret_bool E.out, hb1⟩
    · have E : Hid (false = onlyB s most) := by
        show _ = _
        unfold onlyB
        rw [decide_eq_false h2]; simp
      go_enter Tryz.func76, Tryz.ntmps76
      go_wp2_with fail
      go_ret
      exact ⟨ret_bool E.out, Below.refl _ _⟩
  · have E : Hid (false = onlyB s most) := by
      show _ = _
      unfold onlyB
      have : decide (1 ≤ s.size) = false := decide_eq_false (by omega)
      rw [this]; simp
    go_enter Tryz.func76, Tryz.ntmps76
    go_wp2_with fail
    go_ret
    exact ⟨ret_bool E.out, Below.refl _ _⟩

set_option maxHeartbeats 2000000 in
theorem wholeDigits_any (s : ByteArray) (most : Int) (w : World) :
    Calls Tryz.prog 75 #[.string s, .int .i64 most] w fun e w' => e = .returned (.bool (wholeB s most)) ∧ Below w.heap.size w w' := by
  go_enter Tryz.func75, Tryz.ntmps75
  go_wp2_with fail
  refine (onlyDigits_any s most _).mono ?_
  rintro e w1 ⟨rfl, hb1⟩
  cases h0 : onlyB s most
  · have E : Hid (false = wholeB s most) := by show _ = _; unfold wholeB; rw [h0]; rfl
    go_wp2_with fail
    go_ret
    exact ⟨ret_bool E.out, hb1⟩
  · have hpos : 0 < s.size := by
      unfold onlyB at h0
      simp at h0; omega
    have hc := byA_eq hpos
    cases h1 : ((s.size : Int) == 1)
    · cases h2 : (((s[0]'hpos).toNat : Int) != 48)
      · have E : Hid (false = wholeB s most) := by
          show _ = _; unfold wholeB; rw [h0, ← hc]
          have e1 : decide (s.size = 1) = false := by simp at h1 ⊢; omega
          have e2 : decide ((s[0]'hpos).toNat = 48) = true := by simp at h2 ⊢; omega
          rw [e1, e2]; rfl
        clear hc
        go_wp2_with fail
        go_ret
        exact ⟨ret_bool E.out, hb1⟩
      · have E : Hid (true = wholeB s most) := by
          show _ = _; unfold wholeB; rw [h0, ← hc]
          have e2 : decide ((s[0]'hpos).toNat = 48) = false := by simp at h2 ⊢; omega
          rw [e2]; simp
        clear hc
        go_wp2_with fail
        go_ret
        exact ⟨ret_bool E.out, hb1⟩
    · have E : Hid (true = wholeB s most) := by
        show _ = _; unfold wholeB; rw [h0]
        have e1 : decide (s.size = 1) = true := by simp at h1 ⊢; omega
        rw [e1]; rfl
      clear hc
      go_wp2_with fail
      go_ret
      exact ⟨ret_bool E.out, hb1⟩

/-- a text that is cut at its first point, or has none. -/
def CutAt (s a b : ByteArray) : Prop := (∃ i, i < s.size ∧ byA s i = 46 ∧ (∀ j, j < i → ¬ byA s j = 46) ∧ a = s.extract 0 i ∧ b = s.extract (i + 1) s.size) ∨ ((∀ j, j < s.size → ¬ byA s j = 46) ∧ a = s ∧ b = ByteArray.empty)
theorem toList_by {s : ByteArray} {k : Nat} {c : UInt8} (h : s.data.toList[k]? = some c) : k < s.size ∧ byA s k = c.toNat := by
  rw [Array.getElem?_toList] at h
  refine ⟨?_, ?_⟩
  · obtain ⟨h1, _⟩ := Array.getElem?_eq_some_iff.1 h
    exact h1
  · unfold byA; rw [h]; rfl
theorem by_toList {s : ByteArray} {k : Nat} (h : k < s.size) (e : byA s k = 46) : s.data.toList[k]? = some 46 := by
  rw [toList_at h]
  rw [← byA_eq h] at e
  congr 1
  exact UInt8.toNat_inj.1 e

set_option maxHeartbeats 2000000 in
theorem strCut_any (s : ByteArray) (hs : s.size ≤ 1048576) (w : World) :
    Calls Tryz.prog 105 #[.string s, .string ⟨#[46]⟩] w fun e w' => (∃ (a b : ByteArray) (f : Bool), e = .returned (.tuple #[.string a, .string b, .bool f]) ∧ CutAt s a b) ∧ Below w.heap.size w w' := by
  obtain ⟨ix, hix⟩ : ∃ ix, Lib.indexByte s.data.toList 46 = ix := ⟨_, rfl⟩
  have hge := Lib.indexByte_ge s.data.toList 46
  rw [hix] at hge
  by_cases h0 : ix = -1
  · have HC : Hid (CutAt s s ByteArray.empty) := by
      refine Or.inr ⟨fun j hj e => ?_, rfl, rfl⟩
      rw [h0] at hix
      exact Lib.indexByte_none hix j (by_toList hj e)
    subst h0
    go_enter Tryz.func105, Tryz.ntmps105
    go_wp2_with (go_at_call 122; refine (Any.stringslite_Index_one Tryz.laysIndex s 46 _).mono ?_; rintro e w' ⟨rfl, rfl⟩; rw [hix])
    go_ret3
    exact ⟨⟨_, _, _, rfl, HC.out⟩, Below.refl _ _⟩
  · obtain ⟨i, rfl⟩ : ∃ i : Nat, ix = i := ⟨ix.toNat, by omega⟩
    obtain ⟨f1, f2⟩ := Lib.indexByte_some hix
    obtain ⟨f3, f4⟩ := toList_by f1
    have HC : Hid (CutAt s (s.extract 0 i) (s.extract (i + 1) s.size)) := by
      refine Or.inl ⟨i, f3, f4, fun j hj e => ?_, rfl, rfl⟩
      exact f2 j hj (by_toList (by omega) e)
    clear f1 f2 f4
    have c1 : (0 : Int) ≤ ↑i := by omega
    have c2 : (↑i : Int) ≤ ↑s.size := by omega
    have c3 : (0 : Int) ≤ ↑i + 1 := by omega
    have c4 : (↑i + 1 : Int) ≤ ↑s.size := by omega
    have c5 : IntKind.i64.wrap ((i : Int) + 1) = (i : Int) + 1 := by rw [IntKind.wrap_i64]; omega
    go_enter Tryz.func105, Tryz.ntmps105
    go_wp2_with (go_at_call 122; refine (Any.stringslite_Index_one Tryz.laysIndex s 46 _).mono ?_; rintro e w' ⟨rfl, rfl⟩; rw [hix])
    go_region
    go_wp2
    go_ret3
    refine ⟨⟨_, _, _, rfl, ?_⟩, bl_drew (Below.refl _ _)⟩
    have e1 : ((i : Int) + 1).toNat = i + 1 := by omega
    simpa [e1] using HC.out
set_option maxHeartbeats 2000000 in
theorem cut_any (s : ByteArray) (hs : s.size ≤ 1048576) (w : World) :
    Calls Tryz.prog 74 #[.string s, .string ⟨#[46]⟩] w fun e w' => (∃ (a b : ByteArray) (f : Bool), e = .returned (.tuple #[.string a, .string b, .bool f]) ∧ CutAt s a b) ∧ Below w.heap.size w w' := by
  go_enter Tryz.func74, Tryz.ntmps74
  go_wp2_with (go_at_call 105; refine (strCut_any s hs _).mono ?_; rintro e w' ⟨⟨a, b, f, rfl, hc⟩, hb⟩)
  go_ret3
  exact ⟨⟨a, b, f, rfl, hc⟩, hb⟩

set_option maxHeartbeats 2000000 in
theorem numberOf_any (s : ByteArray) (n : Nat) (h0 : 1 ≤ s.size) (hs : s.size ≤ 18) (hn : numIs s n) (w : World) :
    Calls Tryz.prog 77 #[.string s] w fun e w' => e = .returned (.int .i64 (n : Int)) ∧ Below w.heap.size w w' := by
  have ha : Lib.atoi s.data.toList = some (n : Int) := by
    unfold numIs at hn
    have hl : s.data.toList.length = s.size := by simp
    cases hL : s.data.toList with
    | nil => rw [hL] at hl; simp at hl; omega
    | cons b r =>
      rw [hL] at hn
      obtain ⟨d, hd⟩ := Lib.digit_of_decFrom _ _ _ hn 0 b rfl
      obtain ⟨d1, d2, -⟩ := Lib.digitVal_eq hd
      unfold Lib.atoi
      have e1 : (b == 45) = false := by
        rw [beq_eq_false_iff_ne]; intro e; subst e; simp at d1
      have e2 : (b == 43) = false := by
        rw [beq_eq_false_iff_ne]; intro e; subst e; simp at d1
      dsimp only
      rw [e1, e2]
      simp only [Bool.false_eq_true, if_false, Lib.decNat, List.isEmpty_cons]
      rw [hn]; rfl
  go_enter Tryz.func77, Tryz.ntmps77
  go_wp2_with fail
  refine (Any.strconv_Atoi Tryz.laysAtoi s n hs ha _).mono ?_
  rintro e w1 ⟨rfl, t, rfl⟩
  go_wp2_with fail
  go_ret
  refine ⟨rfl, ?_⟩
  exact ⟨rfl, rfl, rfl, by rw [Lib.bytesWorld_size]; omega, fun k hk => Lib.bytesWorld_at_old _ _ _ k hk⟩
end Go.Proofs.YtknallkcengbbaaGreatDoor
