import Derived.Test.YtkkofminndboaaaGreatDoorSb02
namespace Go.Proofs.YtkkofminndboaaaGreatDoor
set_option linter.unusedVariables false
set_option linter.unusedSimpArgs false
section
open Go.RowKit
theorem dgB_high {c : Nat} (h : 128 ≤ c) : dgB c = false := by
 cases e : dgB c
 ·
  rfl
 rw [dgB_iff] at e; omega
def byA (s : ByteArray) (k : Nat) : Nat := (s.data[k]?.getD 0).toNat
theorem byA_eq {s : ByteArray} {k : Nat} (h : k < s.size) : (s[k]'h).toNat = byA s k := by
 unfold byA
 have : s.data[k]? = some (s[k]'h) := Array.getElem?_eq_getElem h
 rw [this]; rfl
def RunP (p : Nat → Bool) (s : ByteArray) (b : Nat) : Prop := b ≤ s.size ∧ (∀ j, j < b → p (byA s j) = true) ∧ (b < s.size → p (byA s b) = false)
theorem rune_p {p : Nat → Bool} (hp : ∀ c, 128 ≤ c → p c = false) {s : ByteArray} {k : Nat} (h : k < s.size) : p (Utf8.decode s k).1 = p (byA s k) ∧ (p (byA s k) = true → (Utf8.decode s k).2 = 1) := by
 by_cases ha : (s[k]'h).toNat < 128
 ·
  rw [decode_ascii s k h ha]
  exact ⟨by rw [byA_eq h], fun _ => rfl⟩
 have hh := (decode_high s k h (by omega)).1
 have e : p (byA s k) = false := by rw [← byA_eq h]; exact hp _ (by omega)
 rw [hp _ hh, e]
 exact ⟨rfl, fun q => by cases q⟩
set_option maxHeartbeats 2000000 in
theorem runOf_any (p : Nat → Bool) (f : FuncId) (hf : ∀ (c : Nat) (w : World), Calls Tryz.prog f #[.int .i32 (c : Int)] w fun e w' => e = .returned (.bool (p c)) ∧ w' = w) (hp : ∀ c, 128 ≤ c → p c = false) (s : ByteArray) (w : World) (hent : ∀ args w, (callFunc f args).run Tryz.prog w = .ok (.enter f args) w) :
  Calls Tryz.prog 33 #[.string s, .func (.func f) #[] #[]] w fun e w' => (∃ b : Nat, e = .returned (.int .i64 (b : Int)) ∧ RunP p s b) ∧ Below w.heap.size w w' := by
 go_enter Tryz.func33, Tryz.ntmps33
 go_wp2_with fail; go_loopw [] (fun wr => ∃ k : Nat, k ≤ s.size ∧ wr = w.iter s k ∧ Hid (∀ j, j < k → p (byA s j) = true)) (fun wr => s.size - wr.iterPos w.heap.size)
 case atStart => exact ⟨0, Nat.zero_le _, rfl, fun j hj => absurd hj (by omega)⟩
 obtain ⟨k, hk, rfl, hall⟩ := hrel
 by_cases hlt : k < s.size
 ·
  have hnx := fun ty => run_next_any (P := Tryz.prog) w s k ty hlt
  obtain ⟨r1, r2⟩ := rune_p hp hlt
  obtain ⟨c, hc⟩ : ∃ c, (Utf8.decode s k).1 = c := ⟨_, rfl⟩
  obtain ⟨d, hd⟩ : ∃ d, (Utf8.decode s k).2 = d := ⟨_, rfl⟩
  rw [hc] at r1
  rw [hd] at r2
  simp only [hc, hd] at hnx
  clear hc hd; cases hb : p (byA s k)
  ·
   rw [hb] at r1
   clear r2; go_wp2_with fail; refine (hf c _).mono ?_
   rintro e w' ⟨rfl, rfl⟩
   rw [r1]
   go_wp2_with fail; go_ret; exact ⟨⟨k, rfl, hk, hall.out, fun _ => hb⟩, bl_alloc (Below.refl _ _) _⟩
  have hs' : Hid (∀ j, j < k + 1 → p (byA s j) = true) := by
   intro j hj
   by_cases h : j = k
   ·
    subst h; exact hb
   exact hall.out j (by omega)
  have hd1 := r2 hb
  rw [hd1] at hnx
  rw [hb] at r1
  clear r2 hd1; go_wp2_with fail; refine (hf c _).mono ?_
  rintro e w' ⟨rfl, rfl⟩
  rw [r1]
  go_wp2_with fail; go_roundw
  case rel => exact ⟨k + 1, by omega, rfl, hs'⟩
  case measure => simp; omega
 have hnx := fun ty => run_next_end (P := Tryz.prog) w s k ty hlt
 go_wp2_with fail; go_ret; exact ⟨⟨s.size, rfl, Nat.le_refl _, fun j hj => hall.out j (by omega), fun h => absurd h (by omega)⟩, bl_alloc (Below.refl _ _) _⟩
def onlyB (s : ByteArray) (most : Int) : Bool := decide (1 ≤ s.size) && decide ((s.size : Int) ≤ most) && decide (∀ j, j < s.size → dgAt s j = true)
def wholeB (s : ByteArray) (most : Int) : Bool := onlyB s most && (decide (s.size = 1) || !decide (byA s 0 = 48))
theorem enters_isDigit : ∀ args w, (callFunc 22 args).run Tryz.prog w = .ok (.enter 22 args) w := enters_of Tryz.func22 (by kernel_rfl) rfl
set_option maxHeartbeats 2000000 in
theorem onlyDigits_any (s : ByteArray) (most : Int) (w : World) :
  Calls Tryz.prog 55 #[.string s, .int .i64 most] w fun e w' => e = .returned (.bool (onlyB s most)) ∧ Below w.heap.size w w' := by
 by_cases h1 : (1 : Int) ≤ (s.size : Int)
 ·
  by_cases h2 : (s.size : Int) ≤ most
  ·
   go_enter Tryz.func55, Tryz.ntmps55
   go_wp2_with fail; refine (runOf_any dgB 22 isDigit_any (fun c h => dgB_high h) s _ enters_isDigit).mono ?_
   rintro e w1 ⟨⟨b, rfl, r1, r2, r3⟩, hb1⟩
   cases hq : ((b : Int) == (s.size : Int))
   ·
    have E : Hid (false = onlyB s most) := by
     have hne : ¬ b = s.size := by intro e; subst e; simp at hq
     have hx := r3 (by omega)
     unfold onlyB
     have : decide (∀ j, j < s.size → dgAt s j = true) = false := by
      rw [decide_eq_false_iff_not]
      intro h
      have h9 : dgAt s b = true := h b (by omega)
      have h8 : dgAt s b = false := hx
      rw [h9] at h8; cases h8
     show _ = _
     rw [this]; simp
    clear r2 r3; go_wp2_with fail; go_ret; exact ⟨ret_bool E.out, hb1⟩
   have E : Hid (true = onlyB s most) := by
    have he : b = s.size := by simp at hq; omega
    subst he
    unfold onlyB
    have : decide (∀ j, j < s.size → dgAt s j = true) = true := by
     rw [decide_eq_true_eq]
     exact fun j hj => r2 j hj
    show _ = _
    rw [this]; simp; omega
   clear r2 r3; go_wp2_with fail; go_ret; exact ⟨ret_bool E.out, hb1⟩
  have E : Hid (false = onlyB s most) := by
   show _ = _
   unfold onlyB
   rw [decide_eq_false h2]; simp
  go_enter Tryz.func55, Tryz.ntmps55
  go_wp2_with fail; go_ret; exact ⟨ret_bool E.out, Below.refl _ _⟩
 have E : Hid (false = onlyB s most) := by
  show _ = _
  unfold onlyB
  have : decide (1 ≤ s.size) = false := decide_eq_false (by omega)
  rw [this]; simp
 go_enter Tryz.func55, Tryz.ntmps55
 go_wp2_with fail; go_ret; exact ⟨ret_bool E.out, Below.refl _ _⟩
set_option maxHeartbeats 2000000 in
theorem wholeDigits_any (s : ByteArray) (most : Int) (w : World) :
  Calls Tryz.prog 38 #[.string s, .int .i64 most] w fun e w' => e = .returned (.bool (wholeB s most)) ∧ Below w.heap.size w w' := by
 go_enter Tryz.func38, Tryz.ntmps38
 go_wp2_with fail; refine (onlyDigits_any s most _).mono ?_
 rintro e w1 ⟨rfl, hb1⟩
 cases h0 : onlyB s most
 ·
  have E : Hid (false = wholeB s most) := by show _ = _; unfold wholeB; rw [h0]; rfl
  go_wp2_with fail; go_ret; exact ⟨ret_bool E.out, hb1⟩
 have hpos : 0 < s.size := by
  unfold onlyB at h0
  simp at h0; omega
 have hc := byA_eq hpos
 cases h1 : ((s.size : Int) == 1)
 ·
  cases h2 : (((s[0]'hpos).toNat : Int) != 48)
  ·
   have E : Hid (false = wholeB s most) := by
    show _ = _; unfold wholeB; rw [h0, ← hc]
    have e1 : decide (s.size = 1) = false := by simp at h1 ⊢; omega
    have e2 : decide ((s[0]'hpos).toNat = 48) = true := by simp at h2 ⊢; omega
    rw [e1, e2]; rfl
   clear hc; go_wp2_with fail; go_ret; exact ⟨ret_bool E.out, hb1⟩
  have E : Hid (true = wholeB s most) := by
   show _ = _; unfold wholeB; rw [h0, ← hc]
   have e2 : decide ((s[0]'hpos).toNat = 48) = false := by simp at h2 ⊢; omega
   rw [e2]; simp
  clear hc; go_wp2_with fail; go_ret; exact ⟨ret_bool E.out, hb1⟩
 have E : Hid (true = wholeB s most) := by
  show _ = _; unfold wholeB; rw [h0]
  have e1 : decide (s.size = 1) = true := by simp at h1 ⊢; omega
  rw [e1]; rfl
 clear hc; go_wp2_with fail; go_ret; exact ⟨ret_bool E.out, hb1⟩
def CutAt (s a b : ByteArray) : Prop := (∃ i, i < s.size ∧ byA s i = 46 ∧ (∀ j, j < i → ¬ byA s j = 46) ∧ a = s.extract 0 i ∧ b = s.extract (i + 1) s.size) ∨ ((∀ j, j < s.size → ¬ byA s j = 46) ∧ a = s ∧ b = ByteArray.empty)
theorem toList_by {s : ByteArray} {k : Nat} {c : UInt8} (h : s.data.toList[k]? = some c) : k < s.size ∧ byA s k = c.toNat := by
 rw [Array.getElem?_toList] at h
 refine ⟨?_, ?_⟩
 ·
  obtain ⟨h1, _⟩ := Array.getElem?_eq_some_iff.1 h
  exact h1
 unfold byA; rw [h]; rfl
theorem by_toList {s : ByteArray} {k : Nat} (h : k < s.size) (e : byA s k = 46) : s.data.toList[k]? = some 46 := by
 rw [toList_at h]
 rw [← byA_eq h] at e
 congr 1
 exact UInt8.toNat_inj.1 e
set_option maxHeartbeats 2000000 in
theorem strCut_any (s : ByteArray) (hs : s.size ≤ 1048576) (w : World) :
  Calls Tryz.prog 70 #[.string s, .string ⟨#[46]⟩] w fun e w' => (∃ (a b : ByteArray) (f : Bool), e = .returned (.tuple #[.string a, .string b, .bool f]) ∧ CutAt s a b) ∧ Below w.heap.size w w' := by
 obtain ⟨ix, hix⟩ : ∃ ix, Lib.indexByte s.data.toList 46 = ix := ⟨_, rfl⟩
 have hge := Lib.indexByte_ge s.data.toList 46
 rw [hix] at hge
 by_cases h0 : ix = -1
 ·
  have HC : Hid (CutAt s s ByteArray.empty) := by
   refine Or.inr ⟨fun j hj e => ?_, rfl, rfl⟩
   rw [h0] at hix
   exact Lib.indexByte_none hix j (by_toList hj e)
  subst h0
  go_enter Tryz.func70, Tryz.ntmps70
  go_wp2_with (go_at_call 77; refine (Any.stringslite_Index_one Tryz.laysIndex s 46 _).mono ?_; rintro e w' ⟨rfl, rfl⟩; rw [hix])
  go_ret3
  exact ⟨⟨_, _, _, rfl, HC.out⟩, Below.refl _ _⟩
 obtain ⟨i, rfl⟩ : ∃ i : Nat, ix = i := ⟨ix.toNat, by omega⟩
 obtain ⟨f1, f2⟩ := Lib.indexByte_some hix
 obtain ⟨f3, f4⟩ := toList_by f1
 have HC : Hid (CutAt s (s.extract 0 i) (s.extract (i + 1) s.size)) := by
  refine Or.inl ⟨i, f3, f4, fun j hj e => ?_, rfl, rfl⟩
  exact f2 j hj (by_toList (by omega) e)
 clear f1 f2 f4; have c1 : (0 : Int) ≤ ↑i := by omega
 have c2 : (↑i : Int) ≤ ↑s.size := by omega
 have c3 : (0 : Int) ≤ ↑i + 1 := by omega
 have c4 : (↑i + 1 : Int) ≤ ↑s.size := by omega
 have c5 : IntKind.i64.wrap ((i : Int) + 1) = (i : Int) + 1 := by rw [IntKind.wrap_i64]; omega
 go_enter Tryz.func70, Tryz.ntmps70
 go_wp2_with (go_at_call 77; refine (Any.stringslite_Index_one Tryz.laysIndex s 46 _).mono ?_; rintro e w' ⟨rfl, rfl⟩; rw [hix])
 go_region
 go_wp2
 go_ret3
 refine ⟨⟨_, _, _, rfl, ?_⟩, bl_drew (Below.refl _ _)⟩
 have e1 : ((i : Int) + 1).toNat = i + 1 := by omega
 simpa [e1] using HC.out
set_option maxHeartbeats 2000000 in
theorem cut_any (s : ByteArray) (hs : s.size ≤ 1048576) (w : World) :
  Calls Tryz.prog 54 #[.string s, .string ⟨#[46]⟩] w fun e w' => (∃ (a b : ByteArray) (f : Bool), e = .returned (.tuple #[.string a, .string b, .bool f]) ∧ CutAt s a b) ∧ Below w.heap.size w w' := by
 go_enter Tryz.func54, Tryz.ntmps54
 go_wp2_with (go_at_call 70; refine (strCut_any s hs _).mono ?_; rintro e w' ⟨⟨a, b, f, rfl, hc⟩, hb⟩)
 go_ret3
 exact ⟨⟨a, b, f, rfl, hc⟩, hb⟩
set_option maxHeartbeats 2000000 in
theorem numberOf_any (s : ByteArray) (n : Nat) (h0 : 1 ≤ s.size) (hs : s.size ≤ 18) (hn : numIs s n) (w : World) :
  Calls Tryz.prog 39 #[.string s] w fun e w' => e = .returned (.int .i64 (n : Int)) ∧ Below w.heap.size w w' := by
 have ha : Lib.atoi s.data.toList = some (n : Int) := by
  unfold numIs at hn
  have hl : s.data.toList.length = s.size := by simp
  cases hL : s.data.toList with
  | nil => rw [hL] at hl; simp at hl; omega
  | cons b r =>
   rw [hL] at hn
   obtain ⟨d, hd⟩ := Lib.digit_of_decFrom _ _ _ hn 0 b rfl
   obtain ⟨d1, d2, -⟩ := Lib.digitVal_eq hd
   unfold Lib.atoi
   have e1 : (b == 45) = false := by
    rw [beq_eq_false_iff_ne]; intro e; subst e; simp at d1
   have e2 : (b == 43) = false := by
    rw [beq_eq_false_iff_ne]; intro e; subst e; simp at d1
   dsimp only
   rw [e1, e2]
   simp only [Bool.false_eq_true, if_false, Lib.decNat, List.isEmpty_cons]
   rw [hn]; rfl
 go_enter Tryz.func39, Tryz.ntmps39
 go_wp2_with fail; refine (Any.strconv_Atoi Tryz.laysAtoi s n hs ha _).mono ?_
 rintro e w1 ⟨rfl, t, rfl⟩
 go_wp2_with fail; go_ret; refine ⟨rfl, ?_⟩
 exact ⟨rfl, rfl, rfl, by rw [Lib.bytesWorld_size]; omega, fun k hk => Lib.bytesWorld_at_old _ _ _ k hk⟩
end
section
open Go.RowKit
def tenF : Nat → Nat
 | 0 => 4607182418800017408
 | 1 => 4621819117588971520
 | 2 => 4636737291354636288
 | 3 => 4652007308841189376
 | 4 => 4666723172467343360
 | 5 => 4681608360884174848
 | 6 => 4696837146684686336
 | _ => 0
theorem tenF_step {k : Nat} (h : k < 6) : floatBits .mul .f64 (tenF k) 4621819117588971520 = some (tenF (k + 1)) := by
 match k, h with
 | 0, _ => decide +kernel
 | 1, _ => decide +kernel
 | 2, _ => decide +kernel
 | 3, _ => decide +kernel
 | 4, _ => decide +kernel
 | 5, _ => decide +kernel
theorem tenF_range {k : Nat} (h : k ≤ 6) : 4503599627370496 ≤ tenF k % 9223372036854775808 ∧ tenF k % 9223372036854775808 < 9218868437227405312 := by
 match k, h with
 | 0, _ => decide +kernel
 | 1, _ => decide +kernel
 | 2, _ => decide +kernel
 | 3, _ => decide +kernel
 | 4, _ => decide +kernel
 | 5, _ => decide +kernel
 | 6, _ => decide +kernel
theorem quo_some {x y : Nat} (hx : nanB x = false) (h1 : 4503599627370496 ≤ y % 9223372036854775808) (h2 : y % 9223372036854775808 < 9218868437227405312) : ∃ r, floatBits .quo .f64 x y = some r := by
 show ∃ r, Ieee.double.div x y = some r
 unfold Ieee.Format.div
 have e : Ieee.double.read y = .number (y / 9223372036854775808 % 2 == 1) (4503599627370496 + y % 9223372036854775808 % 4503599627370496) (-1074 + (y % 9223372036854775808 / 4503599627370496 - 1 : Nat)) := by rw [read_def, if_neg (by omega), if_pos h2]
 rw [e]
 rcases form_of x hx with ⟨_, h⟩ | ⟨m, k, _, _, _, _, h⟩
 ·
  rw [h]; exact ⟨_, rfl⟩
 rw [h]
 simp only [Ieee.Datum.quotient]
 rw [if_neg (by omega)]
 exact ⟨_, rfl⟩
theorem ofInt_num (n : Int) : nanB (floatOfInt .f64 n) = false := by
 rw [nanB_def, decide_eq_false_iff_not]
 have h : ∃ neg r, floatOfInt .f64 n = Ieee.double.word neg r ∧ r ≤ 9218868437227405312 := by
  unfold floatOfInt FloatKind.nearest FloatKind.encode
  show ∃ neg r, Ieee.Format.write Ieee.double _ = _ ∧ _
  unfold Ieee.Format.write Ieee.Format.nearest
  dsimp only
  split
  ·
   exact ⟨_, 0, rfl, by omega⟩
  refine ⟨_, _, rfl, ?_⟩
  have := ir
  rw [← ir]
  exact Nat.min_le_right _ _
 obtain ⟨neg, r, e, hr⟩ := h
 rw [e]
 unfold Ieee.Format.word
 rw [sw]
 split <;> omega
theorem ofInt_quo (n : Int) {k : Nat} (h : k ≤ 6) : ∃ r, floatBits .quo .f64 (floatOfInt .f64 n) (tenF k) = some r ∧ r < 18446744073709551616 := by
 obtain ⟨r, hr⟩ := quo_some (ofInt_num n) (tenF_range h).1 (tenF_range h).2
 have := floatBits_wf hr
 simp [Lit.wf] at this
 exact ⟨r, hr, this⟩
structure RealAt (s : ByteArray) (a k : Nat) : Prop where
 size : s.size = a + 1 + k
 a1 : 1 ≤ a
 a9 : a ≤ 9
 k1 : 1 ≤ k
 k6 : k ≤ 6
 pt : byA s a = 46
 fst : ∀ j, j < a → dgAt s j = true
 snd : ∀ j, a < j → j < s.size → dgAt s j = true
 nz : a = 1 ∨ ¬ byA s 0 = 48
theorem pt_dg {s : ByteArray} {j : Nat} (h : byA s j = 46) : dgAt s j = false := by
 show dgB (byA s j) = false
 rw [h]; decide
theorem RealAt.run {s : ByteArray} {a k b : Nat} (h : RealAt s a k) (hr : RunIs s 0 b) : b = a := by
 obtain ⟨r1, r2, r3, r4⟩ := hr
 have h1 := h.size
 by_cases h2 : b < a
 ·
  have := h.fst b h2
  rw [r4 (by omega)] at this; cases this
 by_cases h3 : a < b
 ·
  have := r3 a (by omega) h3
  rw [pt_dg h.pt] at this; cases this
 omega
theorem RealAt.one {s : ByteArray} {a k b l : Nat} (h : RealAt s a k) (g : RealAt s b l) : a = b ∧ k = l := by
 have hr : RunIs s 0 a := ⟨Nat.zero_le _, by have := h.size; omega, fun j _ hj => h.fst j hj, fun _ => pt_dg h.pt⟩
 have := g.run hr
 have h1 := h.size
 have h2 := g.size
 omega
def RealSays (s : ByteArray) (e : Ending) : Prop :=
 ((¬ ∃ a k, RealAt s a k) ∧ e = .returned (.tuple #[.float .f64 0, .bool false])) ∨
 ∃ a k n r, RealAt s a k ∧ Lib.decFrom 0 (s.data.toList.take a ++ s.data.toList.drop (a + 1)) = some n ∧ floatBits .quo .f64 (floatOfInt .f64 (n : Int)) (tenF k) = some r ∧ r < 18446744073709551616 ∧ e = .returned (.tuple #[.float .f64 r, .bool true])
theorem RealSays.same {s : ByteArray} {e f : Ending} (h : RealSays s e) (g : RealSays s f) : e = f ∧ ∃ r b, e = .returned (.tuple #[.float .f64 r, .bool b]) ∧ r < 18446744073709551616 := by
 rcases h with ⟨h1, h2⟩ | ⟨a, k, n, r, h1, h2, h3, h4, h5⟩
 ·
  rcases g with ⟨g1, g2⟩ | ⟨a, k, n, r, g1, g2, g3, g4, g5⟩
  ·
   exact ⟨h2.trans g2.symm, 0, false, h2, by omega⟩
  exact absurd ⟨a, k, g1⟩ h1
 rcases g with ⟨g1, g2⟩ | ⟨b, l, m, t, g1, g2, g3, g4, g5⟩
 ·
  exact absurd ⟨a, k, h1⟩ g1
 obtain ⟨rfl, rfl⟩ := h1.one g1
 rw [h2] at g2
 obtain rfl : n = m := Option.some.inj g2
 rw [h3] at g3
 obtain rfl : r = t := Option.some.inj g3
 exact ⟨h5.trans g5.symm, r, true, h5, h4⟩
theorem decFrom_append : ∀ (l m : List UInt8) (acc n : Nat), Lib.decFrom acc l = some n → Lib.decFrom acc (l ++ m) = Lib.decFrom n m
 | [], m, acc, n, h => by simp [Lib.decFrom] at h; subst h; rfl
 | b :: l, m, acc, n, h => by
  simp only [Lib.decFrom, List.cons_append] at h ⊢
  cases hd : Lib.digitVal b with
  | none => rw [hd] at h; cases h
  | some d =>
   rw [hd] at h
   exact decFrom_append l m _ n h
theorem decFrom_shift : ∀ (l : List UInt8) (acc n : Nat), Lib.decFrom 0 l = some n → Lib.decFrom acc l = some (acc * 10 ^ l.length + n) := by
 suffices H : ∀ (l : List UInt8) (a b n : Nat), Lib.decFrom b l = some n → Lib.decFrom (a + b) l = some (a * 10 ^ l.length + n) from fun l acc n h => by simpa using H l acc 0 n h
 intro l
 induction l with
 | nil => intro a b n h; simp [Lib.decFrom] at h ⊢; omega
 | cons c l ih =>
  intro a b n h
  simp only [Lib.decFrom] at h ⊢
  cases hd : Lib.digitVal c with
  | none => rw [hd] at h; cases h
  | some d =>
   rw [hd] at h
   simp only at h ⊢
   have := ih (a * 10) (b * 10 + d) n h
   rw [show (a + b) * 10 + d = a * 10 + (b * 10 + d) by omega, this, List.length_cons, Nat.pow_succ]
   congr 1
   rw [Nat.mul_assoc, Nat.mul_comm 10]
end
section
open Go.RowKit
theorem byA_extract {s : ByteArray} {i j k : Nat} (h1 : i + k < j) (h2 : j ≤ s.size) : byA (s.extract i j) k = byA s (i + k) := by
 unfold byA
 rw [ByteArray.data_extract, Array.getElem?_extract, if_pos]
 have : s.data.size = s.size := rfl
 omega
theorem dgAt_extract {s : ByteArray} {i j k : Nat} (h1 : i + k < j) (h2 : j ≤ s.size) : dgAt (s.extract i j) k = dgAt s (i + k) := by
 show dgB (byA (s.extract i j) k) = dgB (byA s (i + k))
 rw [byA_extract h1 h2]
theorem size_extract' {s : ByteArray} {i j : Nat} (h2 : j ≤ s.size) : (s.extract i j).size = j - i := by
 rw [ByteArray.size_extract]; omega
theorem list_extract {s : ByteArray} {i j : Nat} (h : j ≤ s.size) : (s.extract i j).data.toList = (s.data.toList.drop i).take (j - i) := by
 rw [ByteArray.data_extract, Array.toList_extract]
theorem list_len (s : ByteArray) : s.data.toList.length = s.size := by simp
theorem list_append (a b : ByteArray) : (a ++ b).data.toList = a.data.toList ++ b.data.toList := by simp [ByteArray.data_append]
theorem dec_ex : ∀ (l : List UInt8) (acc : Nat), (∀ c ∈ l, dgB c.toNat = true) → ∃ n, Lib.decFrom acc l = some n
 | [], acc, _ => ⟨acc, rfl⟩
 | b :: l, acc, h => by
  have hb := (dgB_iff _).1 (h b (by simp))
  obtain ⟨n, hn⟩ := dec_ex l (acc * 10 + (b.toNat - 48)) (fun c hc => h c (by simp [hc]))
  refine ⟨n, ?_⟩
  simp only [Lib.decFrom, Lib.digitVal]
  rw [if_pos hb]
  exact hn
theorem dg_list {s : ByteArray} (h : ∀ j, j < s.size → dgAt s j = true) : ∀ c ∈ s.data.toList, dgB c.toNat = true := by
 intro c hc
 obtain ⟨k, hk⟩ := List.mem_iff_getElem?.1 hc
 obtain ⟨h1, h2⟩ := toList_by hk
 have := h k h1
 have e : dgAt s k = dgB (byA s k) := rfl
 rw [e, h2] at this
 exact this
theorem real_parts {s : ByteArray} {a k : Nat} (h : RealAt s a k) : ∃ (m n : Nat) (A B : ByteArray), A = s.extract 0 a ∧ B = s.extract (a + 1) s.size ∧ numIs A m ∧ numIs B n ∧ (m ≤ 999999999 ∧ (∀ j, j < A.size → dgAt A j = true) ∧ A.size ≤ 15) ∧ (n ≤ 999999 ∧ (∀ j, j < B.size → dgAt B j = true) ∧ B.size ≤ 15) ∧ (∀ t, 10 ^ k = t → Lib.decFrom 0 (s.data.toList.take a ++ s.data.toList.drop (a + 1)) = some (m * t + n)) ∧
  (∀ W, (Instr.slice 9 (.string s) none (some (.int .i64 (a : Int))) none).run Tryz.prog W = .ok (.string A) W) ∧ (∀ W, (Instr.slice 9 (.string s) (some (.int .i64 ((a : Int) + 1))) none none).run Tryz.prog W = .ok (.string B) W) := by
 have hz := h.size
 have h9 := h.a9
 have h6 := h.k6
 have sA : (s.extract 0 a).size = a := by rw [size_extract' (by omega)]; omega
 have sB : (s.extract (a + 1) s.size).size = k := by rw [size_extract' (by omega)]; omega
 have dA : ∀ j, j < (s.extract 0 a).size → dgAt (s.extract 0 a) j = true := by
  intro j hj
  rw [sA] at hj
  rw [dgAt_extract (by omega) (by omega)]
  exact h.fst _ (by omega)
 have dB : ∀ j, j < (s.extract (a + 1) s.size).size → dgAt (s.extract (a + 1) s.size) j = true := by
  intro j hj
  rw [sB] at hj
  rw [dgAt_extract (by omega) (by omega)]
  exact h.snd _ (by omega) (by omega)
 obtain ⟨m, hm⟩ := dec_ex _ 0 (dg_list dA)
 obtain ⟨n, hn⟩ := dec_ex _ 0 (dg_list dB)
 have bm := Lib.decFrom_lt _ _ _ hm
 have bn := Lib.decFrom_lt _ _ _ hn
 rw [list_len, sA] at bm
 rw [list_len, sB] at bn
 have p9 : 10 ^ a ≤ 10 ^ 9 := Nat.pow_le_pow_right (by omega) h9
 have p6 : 10 ^ k ≤ 10 ^ 6 := Nat.pow_le_pow_right (by omega) h6
 have q9 : 10 ^ a ≤ 1000000000 := by simpa using p9
 have q6 : 10 ^ k ≤ 1000000 := by simpa using p6
 refine ⟨m, n, _, _, rfl, rfl, hm, hn, ⟨by omega, dA, by omega⟩, ⟨by omega, dB, by omega⟩, ?_, ?_, ?_⟩
 ·
  intro t ht
  have e1 : s.data.toList.take a = (s.extract 0 a).data.toList := by rw [list_extract (by omega)]; simp
  have e2 : s.data.toList.drop (a + 1) = (s.extract (a + 1) s.size).data.toList := by
   rw [list_extract (by omega), List.take_of_length_le]
   rw [List.length_drop, list_len]
   omega
  rw [e1, e2, decFrom_append _ _ _ _ hm, decFrom_shift _ m n hn, list_len, sB, ht]
 ·
  intro W
  rw [run_slice_string_to_if W 9 s .i64 a Tryz.underlying9, if_pos ⟨by omega, by omega⟩]
  rfl
 intro W
 rw [run_slice_string_from_if W 9 s .i64 _ Tryz.underlying9, if_pos ⟨by omega, by omega⟩]
 rfl
end
section
open Go.RowKit
theorem real_of_cut {s a b : ByteArray} (hc : CutAt s a b) (h1 : wholeB a 9 = true) (h2 : onlyB b 6 = true) : RealAt s a.size b.size ∧ (a ++ b).data.toList = s.data.toList.take a.size ++ s.data.toList.drop (a.size + 1) := by
 unfold wholeB onlyB at h1
 unfold onlyB at h2
 simp only [Bool.and_eq_true, Bool.or_eq_true, decide_eq_true_eq, Bool.not_eq_true', decide_eq_false_iff_not] at h1 h2
 obtain ⟨⟨⟨a1, a2⟩, a3⟩, a4⟩ := h1
 obtain ⟨⟨b1, b2⟩, b3⟩ := h2
 rcases hc with ⟨i, hi, hp, hno, rfl, rfl⟩ | ⟨_, _, rfl⟩
 ·
  have sA : (s.extract 0 i).size = i := by rw [size_extract' (by omega)]; omega
  have sB : (s.extract (i + 1) s.size).size = s.size - (i + 1) := by rw [size_extract' (by omega)]
  rw [sA] at a1 a2 a3 a4 ⊢
  rw [sB] at b1 b2 b3 ⊢
  refine ⟨⟨by omega, by omega, by omega, by omega, by omega, hp, fun j hj => ?_, fun j h1 h2 => ?_, ?_⟩, ?_⟩
  ·
   have := a3 j hj
   rw [dgAt_extract (by omega) (by omega)] at this
   simpa using this
  ·
   have := b3 (j - (i + 1)) (by omega)
   rw [dgAt_extract (by omega) (by omega)] at this
   rw [show i + 1 + (j - (i + 1)) = j by omega] at this
   exact this
  ·
   rcases a4 with h | h
   ·
    exact Or.inl h
   right
   rw [byA_extract (by omega) (by omega)] at h
   simpa using h
  rw [list_append, list_extract (by omega), list_extract (by omega)]
  congr 1
  exact List.take_of_length_le (by rw [List.length_drop, list_len]; omega)
 simp at b1
theorem cut_of_real {s a b : ByteArray} (hc : CutAt s a b) {n k : Nat} (h : RealAt s n k) : wholeB a 9 = true ∧ onlyB b 6 = true := by
 have hz := h.size
 have ha1 := h.a1
 have ha9 := h.a9
 have hk1 := h.k1
 have hk6 := h.k6
 rcases hc with ⟨i, hi, hp, hno, rfl, rfl⟩ | ⟨hno, _, _⟩
 ·
  have hin : i = n := by
   by_cases h1 : i < n
   ·
    have := h.fst i h1
    rw [pt_dg hp] at this; cases this
   by_cases h2 : n < i
   ·
    exact absurd h.pt (hno n h2)
   omega
  subst hin
  have sA : (s.extract 0 i).size = i := by rw [size_extract' (by omega)]; omega
  have sB : (s.extract (i + 1) s.size).size = k := by rw [size_extract' (by omega)]; omega
  have dA : ∀ j, j < i → dgAt (s.extract 0 i) j = true := fun j hj => by
   rw [dgAt_extract (by omega) (by omega)]
   exact h.fst _ (by omega)
  have dB : ∀ j, j < k → dgAt (s.extract (i + 1) s.size) j = true := fun j hj => by
   rw [dgAt_extract (by omega) (by omega)]
   exact h.snd _ (by omega) (by omega)
  unfold wholeB onlyB
  simp only [Bool.and_eq_true, Bool.or_eq_true, decide_eq_true_eq, Bool.not_eq_true', decide_eq_false_iff_not]
  rw [sA, sB]
  refine ⟨⟨⟨⟨by omega, by omega⟩, dA⟩, ?_⟩, ⟨by omega, by omega⟩, dB⟩
  rcases h.nz with e | e
  ·
   exact Or.inl e
  right
  rw [byA_extract (by omega) (by omega)]
  simpa using e
 exact absurd h.pt (hno n (by omega))
set_option maxRecDepth 100000 in
set_option maxHeartbeats 4000000 in
theorem implRealOf_any (s : ByteArray) (hs : s.size ≤ 1048576) (w : World) :
  Calls Tryz.prog 37 #[.string s] w fun e w' => RealSays s e ∧ Below w.heap.size w w' := by
 go_enter Tryz.func37, Tryz.ntmps37
 go_wp2_with fail; refine (cut_any s hs _).mono ?_
 rintro e w1 ⟨⟨a, b, fd, rfl, hc⟩, hb1⟩
 have HC : Hid (CutAt s a b) := hc
 clear hc; go_wp2_with fail; refine (wholeDigits_any a 9 _).mono ?_
 rintro e w2 ⟨rfl, hb2⟩
 have hb2 := bl_trans hb1 hb2
 clear hb1; cases h1 : wholeB a 9
 ·
  have F : RealSays s (.returned (.tuple #[.float .f64 0, .bool false])) := Or.inl ⟨fun ⟨n, k, h⟩ => (by have := (cut_of_real HC.out h).1; rw [h1] at this; cases this), rfl⟩
  go_wp2_with fail; go_ret2
  exact ⟨F, hb2⟩
 go_wp2_with fail; refine (onlyDigits_any b 6 _).mono ?_
 rintro e w3 ⟨rfl, hb3⟩
 have hb3 := bl_trans hb2 hb3
 clear hb2; cases h2 : onlyB b 6
 ·
  have F : RealSays s (.returned (.tuple #[.float .f64 0, .bool false])) := Or.inl ⟨fun ⟨n, k, h⟩ => (by have := (cut_of_real HC.out h).2; rw [h2] at this; cases this), rfl⟩
  go_wp2_with fail; go_ret2
  exact ⟨F, hb3⟩
 obtain ⟨HR, hL⟩ := real_of_cut HC.out h1 h2
 have HA : Hid (RealAt s a.size b.size) := HR
 obtain ⟨m, n, A, B, hA, hB, nm, nn, bm, bn, HS, -, -⟩ := real_parts HR
 have hN := HS _ rfl
 rw [← hL] at hN
 have HN : Hid (numIs (a ++ b) (m * 10 ^ b.size + n)) := hN
 have k6 := HR.k6
 have k1 := HR.k1
 have sz : (a ++ b).size = a.size + b.size := by simp [ByteArray.size_append]
 have a9 := HR.a9
 have db : Hid (∀ j, j < b.size → byA b j < 128) := by
  intro j hj
  unfold onlyB at h2
  simp only [Bool.and_eq_true, decide_eq_true_eq] at h2
  have : dgB (byA b j) = true := h2.2 j hj
  rw [dgB_iff] at this; omega
 obtain ⟨N, hNN⟩ : ∃ N, Hid (m * 10 ^ b.size + n = N) := ⟨_, (rfl : m * 10 ^ b.size + n = m * 10 ^ b.size + n)⟩
 rw [hNN.out] at HN hN
 obtain ⟨r, hr, br⟩ := ofInt_quo (N : Int) (k := b.size) k6
 have FIN : Hid (RealSays s (.returned (.tuple #[.float .f64 r, .bool true]))) := by
  refine Or.inr ⟨a.size, b.size, N, r, HA.out, ?_, hr, br, rfl⟩
  rw [← hL]; exact hN
 have hq := fun w => run_float_arith (P := Tryz.prog) w .quo 36 .f64 _ _ r hr
 clear hr HS hA hB nm nn bm bn hN hL HR h1 h2; go_wp2_with fail; go_loopw [7] (fun tv wr => ∃ k : Nat, k ≤ b.size ∧ wr = w3.iter b k ∧ tv = .float .f64 (tenF k)) (fun _ wr => b.size - wr.iterPos w3.heap.size)
 case atStart => exact ⟨0, Nat.zero_le _, rfl, rfl⟩
 obtain ⟨k, hk, rfl, rfl⟩ := hrel
 by_cases hlt : k < b.size
 ·
  have hnx := fun ty => run_next_ascii (P := Tryz.prog) w3 b k ty hlt (by rw [byA_eq hlt]; exact db.out k hlt)
  have hm := fun w => run_float_arith (P := Tryz.prog) w .mul 36 .f64 _ _ _ (tenF_step (k := k) (by omega))
  go_wp2_with fail; go_roundw
  case rel => exact ⟨k + 1, by omega, rfl, rfl⟩
  case measure => simp; omega
 have hnx := fun ty => run_next_end (P := Tryz.prog) w3 b k ty hlt
 have hkb : Hid (k = b.size) := by show _ = _; omega
 rw [hkb.out] at hnx ⊢
 go_wp2_with fail; refine (numberOf_any (a ++ b) N (by omega) (by omega) HN.out _).mono ?_
 rintro e w4 ⟨rfl, hb4⟩
 have hb4 := bl_trans (bl_alloc hb3 (.stringIter b b.size)) hb4
 go_wp2_with fail; go_ret2
 exact ⟨FIN.out, hb4⟩
end
end Go.Proofs.YtkkofminndboaaaGreatDoor
