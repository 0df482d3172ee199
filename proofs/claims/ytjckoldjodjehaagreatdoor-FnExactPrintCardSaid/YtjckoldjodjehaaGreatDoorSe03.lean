import Derived.Test.YtjckoldjodjehaaGreatDoorSe02
import Derived.Lib.IndexLaws
import Derived.Shelf.Strings.Search2
import Derived.Shelf.Strconv.Atoi
import Derived.Shelf.Lay
import Derived.Ground.NamesProg
namespace Go.Proofs
open Go.Shelf
shelf_lay Lays.n219 Nm 219 at Tryz as Tryz.laysIndex
shelf_lay Lays.n172 Nm 172 at Tryz as Tryz.laysAtoi
end Go.Proofs
namespace Go.Proofs.YtjckoldjodjehaaGreatDoor
set_option linter.unusedVariables false
set_option linter.unusedSimpArgs false
section
open Go.RowKit Go.Maps Go.WideMaps
set_option maxHeartbeats 2000000 in
theorem specNameOk_any (s : ByteArray) (w : World) :
  Calls Tryz.prog 69 #[.string s] w fun e w' => e = .returned (.bool (nameB s)) ∧ Below w.heap.size w w' := by
 cases h1 : (decide (1 ≤ (s.size : Int)) && decide ((s.size : Int) ≤ 12))
 ·
  have E : Hid (false = nameB s) := by
   unfold Hid nameB lettersB
   simp only [Bool.and_eq_false_imp, decide_eq_true_eq, decide_eq_false_iff_not] at h1
   symm
   simp only [Bool.and_eq_false_imp, Bool.and_eq_true, decide_eq_true_eq]
   rintro ⟨⟨a, b⟩, _⟩
   exact absurd (h1 (by omega)) (by omega)
  go_enter Tryz.func69, Tryz.ntmps69
  go_wp2_with (go_at_call 47; refine (l1In_any _ _ _ _).mono ?_; rintro e w' ⟨rfl, rfl⟩; rw [h1])
  go_ret; exact ⟨ret_boolw E.out, Below.refl _ _⟩
 have h2 : 1 ≤ s.size ∧ s.size ≤ 12 := by simp at h1; omega
 go_enter Tryz.func69, Tryz.ntmps69
 go_wp2_with (go_at_call 47; refine (l1In_any _ _ _ _).mono ?_; rintro e w' ⟨rfl, rfl⟩; rw [h1])
 go_loop [3] (fun i => ∃ k : Nat, k ≤ s.size ∧ i = .int .i64 k ∧ Hid (∀ j, j < k → letAt s j = true)) (fun i => s.size - (intOf i).toNat)
 case atStart => exact ⟨0, Nat.zero_le _, rfl, fun j hj => absurd hj (by omega)⟩
 obtain ⟨k, hk, rfl, hall⟩ := hrel
 clear h1; by_cases hlt : k < s.size
 ·
  have hi := run_index_at s k hlt
  cases hb : letAt s k
  ·
   have E : Hid (nameB s = false) := by
    unfold Hid nameB lettersB
    simp only [Bool.and_eq_false_imp, Bool.and_eq_true, decide_eq_true_eq]
    rintro ⟨_, h⟩
    rw [h k hlt] at hb; cases hb
   go_wp2_with (go_at_call 88; refine (l3Letter_any _ _).mono ?_; rintro e w' ⟨rfl, rfl⟩; rw [letAt_eq hlt, hb])
   go_ret; exact ⟨ret_boolw E.out.symm, Below.refl _ _⟩
  have hs' : Hid (∀ j, j < k + 1 → letAt s j = true) := by
   intro j hj
   by_cases h : j = k
   ·
    subst h; exact hb
   exact hall.out j (by omega)
  go_wp2_with (go_at_call 88; refine (l3Letter_any _ _).mono ?_; rintro e w' ⟨rfl, rfl⟩; rw [letAt_eq hlt, hb])
  go_round
  case rel => exact ⟨k + 1, by omega, by go_num, hs'⟩
  case measure => simp [intOf]; omega
 have E : Hid ((!isW s) = nameB s) := by
  have hl : lettersB s = true := by
   unfold lettersB
   simp only [Bool.and_eq_true, decide_eq_true_eq]
   exact ⟨h2, fun j hj => hall.out j (by omega)⟩
  simp [Hid, nameB, hl]
 go_wp2_with (go_at_call 89; refine (specIsWord_any _ _).mono ?_; rintro e w1 ⟨rfl, hb1⟩)
 go_ret; exact ⟨ret_boolw E.out, hb1⟩
end
section
open Go.RowKit
def dgB (c : Nat) : Bool := decide ((48 : Int) ≤ c) && decide ((c : Int) ≤ 57)
def dgAt (s : ByteArray) (k : Nat) : Bool := dgB (s.data[k]?.getD 0).toNat
def RunIs (s : ByteArray) (k b : Nat) : Prop := k ≤ b ∧ b ≤ s.size ∧ (∀ j, k ≤ j → j < b → dgAt s j = true) ∧ (b < s.size → dgAt s b = false)
theorem dgB_iff (c : Nat) : dgB c = true ↔ 48 ≤ c ∧ c ≤ 57 := by simp [dgB]; omega
theorem dgAt_eq {s : ByteArray} {k : Nat} (h : k < s.size) : dgB (s[k]'h).toNat = dgAt s k := by
 unfold dgAt
 have : s.data[k]? = some (s[k]'h) := Array.getElem?_eq_getElem h
 rw [this]; rfl
set_option maxHeartbeats 1000000 in
theorem l7Digit_any (c : Nat) (w : World) :
  Calls Tryz.prog 104 #[.int .u8 (c : Int)] w fun e w' => e = .returned (.bool (dgB c)) ∧ w' = w := by
 cases h1 : decide ((48 : Int) ≤ c) <;> cases h2 : decide ((c : Int) ≤ 57)
 all_goals
  have E : Hid (_ = dgB c) := (by unfold Hid dgB; rw [h1, h2])
  go_enter Tryz.func104, Tryz.ntmps104
  go_wp2
  go_ret; exact ⟨ret_bool E.out, rfl⟩
set_option maxHeartbeats 1000000 in
theorem isDigit_any (c : Nat) (w : World) :
  Calls Tryz.prog 94 #[.int .i32 (c : Int)] w fun e w' => e = .returned (.bool (dgB c)) ∧ w' = w := by
 cases h1 : decide ((48 : Int) ≤ c) <;> cases h2 : decide ((c : Int) ≤ 57)
 all_goals
  have E : Hid (_ = dgB c) := (by unfold Hid dgB; rw [h1, h2])
  go_enter Tryz.func94, Tryz.ntmps94
  go_wp2
  go_ret; exact ⟨ret_bool E.out, rfl⟩
set_option maxHeartbeats 2000000 in
theorem l7Run_any (s : ByteArray) (k : Nat) (hk : k ≤ s.size) (hs : s.size ≤ 1048576) (w : World) :
  Calls Tryz.prog 90 #[.string s, .int .i64 (k : Int)] w fun e w' => (∃ b : Nat, e = .returned (.int .i64 (b : Int)) ∧ RunIs s k b) ∧ w' = w := by
 go_enter Tryz.func90, Tryz.ntmps90
 go_wp2_with fail; go_loop [1] (fun i => ∃ q : Nat, k ≤ q ∧ q ≤ s.size ∧ i = .int .i64 q ∧ Hid (∀ j, k ≤ j → j < q → dgAt s j = true)) (fun i => s.size - (intOf i).toNat)
 case atStart => exact ⟨k, Nat.le_refl _, hk, rfl, fun j h1 h2 => absurd h1 (by omega)⟩
 obtain ⟨q, kq, hq, rfl, hall⟩ := hrel
 by_cases hlt : q < s.size
 ·
  have hi := run_index_at s q hlt
  have hltI : (q : Int) < (s.size : Int) := by omega
  cases hb : dgAt s q
  ·
   go_wp2_with (go_at_call 104; refine (l7Digit_any _ _).mono ?_; rintro e w' ⟨rfl, rfl⟩; rw [dgAt_eq hlt, hb])
   go_ret; exact ⟨⟨q, rfl, kq, hq, hall.out, fun _ => hb⟩, rfl⟩
  go_wp2_with (go_at_call 104; refine (l7Digit_any _ _).mono ?_; rintro e w' ⟨rfl, rfl⟩; rw [dgAt_eq hlt, hb])
  go_round
  case rel => exact ⟨q + 1, by omega, by omega, by go_num, fun j h1 h2 => by
   by_cases h : j = q
   ·
    subst h; exact hb
   exact hall.out j h1 (by omega)⟩
  case measure => simp [intOf]; omega
 have hltI : ¬ (q : Int) < (s.size : Int) := by omega
 go_wp2_with fail; go_ret; exact ⟨⟨q, rfl, kq, hq, hall.out, fun h => absurd h hlt⟩, rfl⟩
def numIs (s : ByteArray) (n : Nat) : Prop := Lib.decFrom 0 s.data.toList = some n
theorem toList_at {s : ByteArray} {k : Nat} (h : k < s.size) : s.data.toList[k]? = some (s[k]'h) := by
 rw [Array.getElem?_toList]; exact Array.getElem?_eq_getElem h
theorem digit_val {s : ByteArray} {k : Nat} (h : k < s.size) (hd : dgAt s k = true) : Lib.digitVal (s[k]'h) = some ((s[k]'h).toNat - 48) ∧ 48 ≤ (s[k]'h).toNat ∧ (s[k]'h).toNat ≤ 57 := by
 rw [← dgAt_eq h, dgB_iff] at hd
 refine ⟨?_, hd⟩
 unfold Lib.digitVal
 rw [if_pos hd]
set_option maxHeartbeats 2000000 in
theorem l7Number_any (s : ByteArray) (hd : ∀ j, j < s.size → dgAt s j = true) (hs : s.size ≤ 15) (w : World) :
  Calls Tryz.prog 91 #[.string s] w fun e w' => (∃ n : Nat, e = .returned (.int .i64 (n : Int)) ∧ numIs s n ∧ n < 1000000000000000) ∧ w' = w := by
 go_enter Tryz.func91, Tryz.ntmps91
 go_wp2_with fail; go_loop [3, 4] (fun nv i => ∃ q n : Nat, q ≤ s.size ∧ i = .int .i64 q ∧ nv = .int .i64 n ∧ Hid (Lib.decFrom 0 (s.data.toList.take q) = some n)) (fun _ i => s.size - (intOf i).toNat)
 case atStart => exact ⟨0, 0, Nat.zero_le _, rfl, rfl, rfl⟩
 obtain ⟨q, n, hq, rfl, rfl, hn⟩ := hrel
 have hb : n < 1000000000000000 := by
  have h1 := Lib.decFrom_lt _ _ _ hn.out
  have h2 : (s.data.toList.take q).length ≤ 15 := by simp; have : s.data.size = s.size := rfl; omega
  have h3 : 10 ^ (s.data.toList.take q).length ≤ 10 ^ 15 := Nat.pow_le_pow_right (by omega) h2
  simp only [Nat.zero_add, Nat.one_mul] at h1
  exact Nat.lt_of_lt_of_le h1 (by simpa using h3)
 by_cases hlt : q < s.size
 ·
  have hi := run_index_at s q hlt
  have hltI : (q : Int) < (s.size : Int) := by omega
  obtain ⟨d1, d2, d3⟩ := digit_val hlt (hd q hlt)
  have hn' := Lib.decFrom_take _ q 0 n _ _ hn.out (toList_at hlt) d1
  obtain ⟨c, hc⟩ : ∃ c, (s[q]'hlt).toNat = c := ⟨_, rfl⟩
  rw [hc] at d2 d3 hn'
  simp only [hc] at hi
  clear hc d1; have HN : Hid (Lib.decFrom 0 (s.data.toList.take (q + 1)) = some (n * 10 + (c - 48))) := hn'
  have w1 : IntKind.i64.wrap ((n : Int) * 10) = (n : Int) * 10 := by rw [IntKind.wrap_i64]; omega
  have w2 : IntKind.u8.wrap ((c : Int) - 48) = (c : Int) - 48 := by rw [IntKind.wrap_u8]; omega
  have w3 : IntKind.i64.wrap ((c : Int) - 48) = (c : Int) - 48 := by rw [IntKind.wrap_i64]; omega
  have w4 : IntKind.i64.wrap ((n : Int) * 10 + ((c : Int) - 48)) = (n : Int) * 10 + ((c : Int) - 48) := by rw [IntKind.wrap_i64]; omega
  clear hn'; go_wp2_with fail; go_round
  case rel => exact ⟨q + 1, n * 10 + (c - 48), by omega, by go_num, by congr 1; omega, HN⟩
  case measure => simp [intOf]; omega
 have hltI : ¬ (q : Int) < (s.size : Int) := by omega
 go_wp2_with fail; go_ret; refine ⟨⟨n, rfl, ?_, hb⟩, rfl⟩
 have e : s.data.toList.take q = s.data.toList := List.take_of_length_le (by simp; have : s.data.size = s.size := rfl; omega)
 unfold numIs
 rw [← e]; exact hn.out
end
section
open Go.RowKit
theorem dgB_high {c : Nat} (h : 128 ≤ c) : dgB c = false := by
 cases e : dgB c
 ·
  rfl
 rw [dgB_iff] at e; omega
def byA (s : ByteArray) (k : Nat) : Nat := (s.data[k]?.getD 0).toNat
theorem byA_eq {s : ByteArray} {k : Nat} (h : k < s.size) : (s[k]'h).toNat = byA s k := by
 unfold byA
 have : s.data[k]? = some (s[k]'h) := Array.getElem?_eq_getElem h
 rw [this]; rfl
def RunP (p : Nat → Bool) (s : ByteArray) (b : Nat) : Prop := b ≤ s.size ∧ (∀ j, j < b → p (byA s j) = true) ∧ (b < s.size → p (byA s b) = false)
theorem rune_p {p : Nat → Bool} (hp : ∀ c, 128 ≤ c → p c = false) {s : ByteArray} {k : Nat} (h : k < s.size) : p (Utf8.decode s k).1 = p (byA s k) ∧ (p (byA s k) = true → (Utf8.decode s k).2 = 1) := by
 by_cases ha : (s[k]'h).toNat < 128
 ·
  rw [decode_ascii s k h ha]
  exact ⟨by rw [byA_eq h], fun _ => rfl⟩
 have hh := (decode_high s k h (by omega)).1
 have e : p (byA s k) = false := by rw [← byA_eq h]; exact hp _ (by omega)
 rw [hp _ hh, e]
 exact ⟨rfl, fun q => by cases q⟩
set_option maxHeartbeats 2000000 in
theorem runOf_any (p : Nat → Bool) (f : FuncId) (hf : ∀ (c : Nat) (w : World), Calls Tryz.prog f #[.int .i32 (c : Int)] w fun e w' => e = .returned (.bool (p c)) ∧ w' = w) (hp : ∀ c, 128 ≤ c → p c = false) (s : ByteArray) (w : World) (hent : ∀ args w, (callFunc f args).run Tryz.prog w = .ok (.enter f args) w) :
  Calls Tryz.prog 93 #[.string s, .func (.func f) #[] #[]] w fun e w' => (∃ b : Nat, e = .returned (.int .i64 (b : Int)) ∧ RunP p s b) ∧ Below w.heap.size w w' := by
 go_enter Tryz.func93, Tryz.ntmps93
 go_wp2_with fail; go_loopw [] (fun wr => ∃ k : Nat, k ≤ s.size ∧ wr = w.iter s k ∧ Hid (∀ j, j < k → p (byA s j) = true)) (fun wr => s.size - wr.iterPos w.heap.size)
 case atStart => exact ⟨0, Nat.zero_le _, rfl, fun j hj => absurd hj (by omega)⟩
 obtain ⟨k, hk, rfl, hall⟩ := hrel
 by_cases hlt : k < s.size
 ·
  have hnx := fun ty => run_next_any (P := Tryz.prog) w s k ty hlt
  obtain ⟨r1, r2⟩ := rune_p hp hlt
  obtain ⟨c, hc⟩ : ∃ c, (Utf8.decode s k).1 = c := ⟨_, rfl⟩
  obtain ⟨d, hd⟩ : ∃ d, (Utf8.decode s k).2 = d := ⟨_, rfl⟩
  rw [hc] at r1
  rw [hd] at r2
  simp only [hc, hd] at hnx
  clear hc hd; cases hb : p (byA s k)
  ·
   rw [hb] at r1
   clear r2; go_wp2_with fail; refine (hf c _).mono ?_
   rintro e w' ⟨rfl, rfl⟩
   rw [r1]
   go_wp2_with fail; go_ret; exact ⟨⟨k, rfl, hk, hall.out, fun _ => hb⟩, bl_alloc (Below.refl _ _) _⟩
  have hs' : Hid (∀ j, j < k + 1 → p (byA s j) = true) := by
   intro j hj
   by_cases h : j = k
   ·
    subst h; exact hb
   exact hall.out j (by omega)
  have hd1 := r2 hb
  rw [hd1] at hnx
  rw [hb] at r1
  clear r2 hd1; go_wp2_with fail; refine (hf c _).mono ?_
  rintro e w' ⟨rfl, rfl⟩
  rw [r1]
  go_wp2_with fail; go_roundw
  case rel => exact ⟨k + 1, by omega, rfl, hs'⟩
  case measure => simp; omega
 have hnx := fun ty => run_next_end (P := Tryz.prog) w s k ty hlt
 go_wp2_with fail; go_ret; exact ⟨⟨s.size, rfl, Nat.le_refl _, fun j hj => hall.out j (by omega), fun h => absurd h (by omega)⟩, bl_alloc (Below.refl _ _) _⟩
def onlyB (s : ByteArray) (most : Int) : Bool := decide (1 ≤ s.size) && decide ((s.size : Int) ≤ most) && decide (∀ j, j < s.size → dgAt s j = true)
def wholeB (s : ByteArray) (most : Int) : Bool := onlyB s most && (decide (s.size = 1) || !decide (byA s 0 = 48))
theorem enters_isDigit : ∀ args w, (callFunc 94 args).run Tryz.prog w = .ok (.enter 94 args) w := enters_of Tryz.func94 (by kernel_rfl) rfl
set_option maxHeartbeats 2000000 in
theorem onlyDigits_any (s : ByteArray) (most : Int) (w : World) :
  Calls Tryz.prog 73 #[.string s, .int .i64 most] w fun e w' => e = .returned (.bool (onlyB s most)) ∧ Below w.heap.size w w' := by
 by_cases h1 : (1 : Int) ≤ (s.size : Int)
 ·
  by_cases h2 : (s.size : Int) ≤ most
  ·
   go_enter Tryz.func73, Tryz.ntmps73
   go_wp2_with fail; refine (runOf_any dgB 94 isDigit_any (fun c h => dgB_high h) s _ enters_isDigit).mono ?_
   rintro e w1 ⟨⟨b, rfl, r1, r2, r3⟩, hb1⟩
   cases hq : ((b : Int) == (s.size : Int))
   ·
    have E : Hid (false = onlyB s most) := by
     have hne : ¬ b = s.size := by intro e; subst e; simp at hq
     have hx := r3 (by omega)
     unfold onlyB
     have : decide (∀ j, j < s.size → dgAt s j = true) = false := by
      rw [decide_eq_false_iff_not]
      intro h
      have h9 : dgAt s b = true := h b (by omega)
      have h8 : dgAt s b = false := hx
      rw [h9] at h8; cases h8
     show _ = _
     rw [this]; simp
    clear r2 r3; go_wp2_with fail; go_ret; exact ⟨ret_bool E.out, hb1⟩
   have E : Hid (true = onlyB s most) := by
    have he : b = s.size := by simp at hq; omega
    subst he
    unfold onlyB
    have : decide (∀ j, j < s.size → dgAt s j = true) = true := by
     rw [decide_eq_true_eq]
     exact fun j hj => r2 j hj
    show _ = _
    rw [this]; simp; omega
   clear r2 r3; go_wp2_with fail; go_ret; exact ⟨ret_bool E.out, hb1⟩
  have E : Hid (false = onlyB s most) := by
   show _ = _
   unfold onlyB
   rw [decide_eq_false h2]; simp
  go_enter Tryz.func73, Tryz.ntmps73
  go_wp2_with fail; go_ret; exact ⟨ret_bool E.out, Below.refl _ _⟩
 have E : Hid (false = onlyB s most) := by
  show _ = _
  unfold onlyB
  have : decide (1 ≤ s.size) = false := decide_eq_false (by omega)
  rw [this]; simp
 go_enter Tryz.func73, Tryz.ntmps73
 go_wp2_with fail; go_ret; exact ⟨ret_bool E.out, Below.refl _ _⟩
set_option maxHeartbeats 2000000 in
theorem wholeDigits_any (s : ByteArray) (most : Int) (w : World) :
  Calls Tryz.prog 72 #[.string s, .int .i64 most] w fun e w' => e = .returned (.bool (wholeB s most)) ∧ Below w.heap.size w w' := by
 go_enter Tryz.func72, Tryz.ntmps72
 go_wp2_with fail; refine (onlyDigits_any s most _).mono ?_
 rintro e w1 ⟨rfl, hb1⟩
 cases h0 : onlyB s most
 ·
  have E : Hid (false = wholeB s most) := by show _ = _; unfold wholeB; rw [h0]; rfl
  go_wp2_with fail; go_ret; exact ⟨ret_bool E.out, hb1⟩
 have hpos : 0 < s.size := by
  unfold onlyB at h0
  simp at h0; omega
 have hc := byA_eq hpos
 cases h1 : ((s.size : Int) == 1)
 ·
  cases h2 : (((s[0]'hpos).toNat : Int) != 48)
  ·
   have E : Hid (false = wholeB s most) := by
    show _ = _; unfold wholeB; rw [h0, ← hc]
    have e1 : decide (s.size = 1) = false := by simp at h1 ⊢; omega
    have e2 : decide ((s[0]'hpos).toNat = 48) = true := by simp at h2 ⊢; omega
    rw [e1, e2]; rfl
   clear hc; go_wp2_with fail; go_ret; exact ⟨ret_bool E.out, hb1⟩
  have E : Hid (true = wholeB s most) := by
   show _ = _; unfold wholeB; rw [h0, ← hc]
   have e2 : decide ((s[0]'hpos).toNat = 48) = false := by simp at h2 ⊢; omega
   rw [e2]; simp
  clear hc; go_wp2_with fail; go_ret; exact ⟨ret_bool E.out, hb1⟩
 have E : Hid (true = wholeB s most) := by
  show _ = _; unfold wholeB; rw [h0]
  have e1 : decide (s.size = 1) = true := by simp at h1 ⊢; omega
  rw [e1]; rfl
 clear hc; go_wp2_with fail; go_ret; exact ⟨ret_bool E.out, hb1⟩
def CutAt (s a b : ByteArray) : Prop := (∃ i, i < s.size ∧ byA s i = 46 ∧ (∀ j, j < i → ¬ byA s j = 46) ∧ a = s.extract 0 i ∧ b = s.extract (i + 1) s.size) ∨ ((∀ j, j < s.size → ¬ byA s j = 46) ∧ a = s ∧ b = ByteArray.empty)
theorem toList_by {s : ByteArray} {k : Nat} {c : UInt8} (h : s.data.toList[k]? = some c) : k < s.size ∧ byA s k = c.toNat := by
 rw [Array.getElem?_toList] at h
 refine ⟨?_, ?_⟩
 ·
  obtain ⟨h1, _⟩ := Array.getElem?_eq_some_iff.1 h
  exact h1
 unfold byA; rw [h]; rfl
theorem by_toList {s : ByteArray} {k : Nat} (h : k < s.size) (e : byA s k = 46) : s.data.toList[k]? = some 46 := by
 rw [toList_at h]
 rw [← byA_eq h] at e
 congr 1
 exact UInt8.toNat_inj.1 e
set_option maxHeartbeats 2000000 in
theorem strCut_any (s : ByteArray) (hs : s.size ≤ 1048576) (w : World) :
  Calls Tryz.prog 92 #[.string s, .string ⟨#[46]⟩] w fun e w' => (∃ (a b : ByteArray) (f : Bool), e = .returned (.tuple #[.string a, .string b, .bool f]) ∧ CutAt s a b) ∧ Below w.heap.size w w' := by
 obtain ⟨ix, hix⟩ : ∃ ix, Lib.indexByte s.data.toList 46 = ix := ⟨_, rfl⟩
 have hge := Lib.indexByte_ge s.data.toList 46
 rw [hix] at hge
 by_cases h0 : ix = -1
 ·
  have HC : Hid (CutAt s s ByteArray.empty) := by
   refine Or.inr ⟨fun j hj e => ?_, rfl, rfl⟩
   rw [h0] at hix
   exact Lib.indexByte_none hix j (by_toList hj e)
  subst h0
  go_enter Tryz.func92, Tryz.ntmps92
  go_wp2_with (go_at_call 105; refine (Any.stringslite_Index_one Tryz.laysIndex s 46 _).mono ?_; rintro e w' ⟨rfl, rfl⟩; rw [hix])
  go_ret3
  exact ⟨⟨_, _, _, rfl, HC.out⟩, Below.refl _ _⟩
 obtain ⟨i, rfl⟩ : ∃ i : Nat, ix = i := ⟨ix.toNat, by omega⟩
 obtain ⟨f1, f2⟩ := Lib.indexByte_some hix
 obtain ⟨f3, f4⟩ := toList_by f1
 have HC : Hid (CutAt s (s.extract 0 i) (s.extract (i + 1) s.size)) := by
  refine Or.inl ⟨i, f3, f4, fun j hj e => ?_, rfl, rfl⟩
  exact f2 j hj (by_toList (by omega) e)
 clear f1 f2 f4; have c1 : (0 : Int) ≤ ↑i := by omega
 have c2 : (↑i : Int) ≤ ↑s.size := by omega
 have c3 : (0 : Int) ≤ ↑i + 1 := by omega
 have c4 : (↑i + 1 : Int) ≤ ↑s.size := by omega
 have c5 : IntKind.i64.wrap ((i : Int) + 1) = (i : Int) + 1 := by rw [IntKind.wrap_i64]; omega
 go_enter Tryz.func92, Tryz.ntmps92
 go_wp2_with (go_at_call 105; refine (Any.stringslite_Index_one Tryz.laysIndex s 46 _).mono ?_; rintro e w' ⟨rfl, rfl⟩; rw [hix])
 go_region
 go_wp2
 go_ret3
 refine ⟨⟨_, _, _, rfl, ?_⟩, bl_drew (Below.refl _ _)⟩
 have e1 : ((i : Int) + 1).toNat = i + 1 := by omega
 simpa [e1] using HC.out
set_option maxHeartbeats 2000000 in
theorem cut_any (s : ByteArray) (hs : s.size ≤ 1048576) (w : World) :
  Calls Tryz.prog 71 #[.string s, .string ⟨#[46]⟩] w fun e w' => (∃ (a b : ByteArray) (f : Bool), e = .returned (.tuple #[.string a, .string b, .bool f]) ∧ CutAt s a b) ∧ Below w.heap.size w w' := by
 go_enter Tryz.func71, Tryz.ntmps71
 go_wp2_with (go_at_call 92; refine (strCut_any s hs _).mono ?_; rintro e w' ⟨⟨a, b, f, rfl, hc⟩, hb⟩)
 go_ret3
 exact ⟨⟨a, b, f, rfl, hc⟩, hb⟩
set_option maxHeartbeats 2000000 in
theorem numberOf_any (s : ByteArray) (n : Nat) (h0 : 1 ≤ s.size) (hs : s.size ≤ 18) (hn : numIs s n) (w : World) :
  Calls Tryz.prog 74 #[.string s] w fun e w' => e = .returned (.int .i64 (n : Int)) ∧ Below w.heap.size w w' := by
 have ha : Lib.atoi s.data.toList = some (n : Int) := by
  unfold numIs at hn
  have hl : s.data.toList.length = s.size := by simp
  cases hL : s.data.toList with
  | nil => rw [hL] at hl; simp at hl; omega
  | cons b r =>
   rw [hL] at hn
   obtain ⟨d, hd⟩ := Lib.digit_of_decFrom _ _ _ hn 0 b rfl
   obtain ⟨d1, d2, -⟩ := Lib.digitVal_eq hd
   unfold Lib.atoi
   have e1 : (b == 45) = false := by
    rw [beq_eq_false_iff_ne]; intro e; subst e; simp at d1
   have e2 : (b == 43) = false := by
    rw [beq_eq_false_iff_ne]; intro e; subst e; simp at d1
   dsimp only
   rw [e1, e2]
   simp only [Bool.false_eq_true, if_false, Lib.decNat, List.isEmpty_cons]
   rw [hn]; rfl
 go_enter Tryz.func74, Tryz.ntmps74
 go_wp2_with fail; refine (Any.strconv_Atoi Tryz.laysAtoi s n hs ha _).mono ?_
 rintro e w1 ⟨rfl, t, rfl⟩
 go_wp2_with fail; go_ret; refine ⟨rfl, ?_⟩
 exact ⟨rfl, rfl, rfl, by rw [Lib.bytesWorld_size]; omega, fun k hk => Lib.bytesWorld_at_old _ _ _ k hk⟩
end
section
open Go.RowKit
def tenF : Nat → Nat
 | 0 => 4607182418800017408
 | 1 => 4621819117588971520
 | 2 => 4636737291354636288
 | 3 => 4652007308841189376
 | 4 => 4666723172467343360
 | 5 => 4681608360884174848
 | 6 => 4696837146684686336
 | _ => 0
theorem tenF_step {k : Nat} (h : k < 6) : floatBits .mul .f64 (tenF k) 4621819117588971520 = some (tenF (k + 1)) := by
 match k, h with
 | 0, _ => decide +kernel
 | 1, _ => decide +kernel
 | 2, _ => decide +kernel
 | 3, _ => decide +kernel
 | 4, _ => decide +kernel
 | 5, _ => decide +kernel
theorem tenF_int {k : Nat} (h : k ≤ 6) : floatOfInt .f64 ((10 ^ k : Nat) : Int) = tenF k := by
 match k, h with
 | 0, _ => decide +kernel
 | 1, _ => decide +kernel
 | 2, _ => decide +kernel
 | 3, _ => decide +kernel
 | 4, _ => decide +kernel
 | 5, _ => decide +kernel
 | 6, _ => decide +kernel
theorem tenF_range {k : Nat} (h : k ≤ 6) : 4503599627370496 ≤ tenF k % 9223372036854775808 ∧ tenF k % 9223372036854775808 < 9218868437227405312 := by
 match k, h with
 | 0, _ => decide +kernel
 | 1, _ => decide +kernel
 | 2, _ => decide +kernel
 | 3, _ => decide +kernel
 | 4, _ => decide +kernel
 | 5, _ => decide +kernel
 | 6, _ => decide +kernel
theorem quo_some {x y : Nat} (hx : nanB x = false) (h1 : 4503599627370496 ≤ y % 9223372036854775808) (h2 : y % 9223372036854775808 < 9218868437227405312) : ∃ r, floatBits .quo .f64 x y = some r := by
 show ∃ r, Ieee.double.div x y = some r
 unfold Ieee.Format.div
 have e : Ieee.double.read y = .number (y / 9223372036854775808 % 2 == 1) (4503599627370496 + y % 9223372036854775808 % 4503599627370496) (-1074 + (y % 9223372036854775808 / 4503599627370496 - 1 : Nat)) := by rw [read_def, if_neg (by omega), if_pos h2]
 rw [e]
 rcases form_of x hx with ⟨_, h⟩ | ⟨m, k, _, _, _, _, h⟩
 ·
  rw [h]; exact ⟨_, rfl⟩
 rw [h]
 simp only [Ieee.Datum.quotient]
 rw [if_neg (by omega)]
 exact ⟨_, rfl⟩
theorem ofInt_num (n : Int) : nanB (floatOfInt .f64 n) = false := by
 rw [nanB_def, decide_eq_false_iff_not]
 have h : ∃ neg r, floatOfInt .f64 n = Ieee.double.word neg r ∧ r ≤ 9218868437227405312 := by
  unfold floatOfInt FloatKind.nearest FloatKind.encode
  show ∃ neg r, Ieee.Format.write Ieee.double _ = _ ∧ _
  unfold Ieee.Format.write Ieee.Format.nearest
  dsimp only
  split
  ·
   exact ⟨_, 0, rfl, by omega⟩
  refine ⟨_, _, rfl, ?_⟩
  have := ir
  rw [← ir]
  exact Nat.min_le_right _ _
 obtain ⟨neg, r, e, hr⟩ := h
 rw [e]
 unfold Ieee.Format.word
 rw [sw]
 split <;> omega
theorem ofInt_quo (n : Int) {k : Nat} (h : k ≤ 6) : ∃ r, floatBits .quo .f64 (floatOfInt .f64 n) (tenF k) = some r ∧ r < 18446744073709551616 := by
 obtain ⟨r, hr⟩ := quo_some (ofInt_num n) (tenF_range h).1 (tenF_range h).2
 have := floatBits_wf hr
 simp [Lit.wf] at this
 exact ⟨r, hr, this⟩
structure RealAt (s : ByteArray) (a k : Nat) : Prop where
 size : s.size = a + 1 + k
 a1 : 1 ≤ a
 a9 : a ≤ 9
 k1 : 1 ≤ k
 k6 : k ≤ 6
 pt : byA s a = 46
 fst : ∀ j, j < a → dgAt s j = true
 snd : ∀ j, a < j → j < s.size → dgAt s j = true
 nz : a = 1 ∨ ¬ byA s 0 = 48
theorem pt_dg {s : ByteArray} {j : Nat} (h : byA s j = 46) : dgAt s j = false := by
 show dgB (byA s j) = false
 rw [h]; decide
theorem RealAt.run {s : ByteArray} {a k b : Nat} (h : RealAt s a k) (hr : RunIs s 0 b) : b = a := by
 obtain ⟨r1, r2, r3, r4⟩ := hr
 have h1 := h.size
 by_cases h2 : b < a
 ·
  have := h.fst b h2
  rw [r4 (by omega)] at this; cases this
 by_cases h3 : a < b
 ·
  have := r3 a (by omega) h3
  rw [pt_dg h.pt] at this; cases this
 omega
theorem RealAt.run2 {s : ByteArray} {a k b : Nat} (h : RealAt s a k) (hr : RunIs s (a + 1) b) : b = s.size := by
 obtain ⟨r1, r2, r3, r4⟩ := hr
 by_cases h2 : b < s.size
 ·
  have := h.snd b (by omega) h2
  rw [r4 h2] at this; cases this
 omega
theorem RealAt.one {s : ByteArray} {a k b l : Nat} (h : RealAt s a k) (g : RealAt s b l) : a = b ∧ k = l := by
 have hr : RunIs s 0 a := ⟨Nat.zero_le _, by have := h.size; omega, fun j _ hj => h.fst j hj, fun _ => pt_dg h.pt⟩
 have := g.run hr
 have h1 := h.size
 have h2 := g.size
 omega
def RealSays (s : ByteArray) (e : Ending) : Prop :=
 ((¬ ∃ a k, RealAt s a k) ∧ e = .returned (.tuple #[.float .f64 0, .bool false])) ∨
 ∃ a k n r, RealAt s a k ∧ Lib.decFrom 0 (s.data.toList.take a ++ s.data.toList.drop (a + 1)) = some n ∧ floatBits .quo .f64 (floatOfInt .f64 (n : Int)) (tenF k) = some r ∧ r < 18446744073709551616 ∧ e = .returned (.tuple #[.float .f64 r, .bool true])
theorem RealSays.same {s : ByteArray} {e f : Ending} (h : RealSays s e) (g : RealSays s f) : e = f ∧ ∃ r b, e = .returned (.tuple #[.float .f64 r, .bool b]) ∧ r < 18446744073709551616 := by
 rcases h with ⟨h1, h2⟩ | ⟨a, k, n, r, h1, h2, h3, h4, h5⟩
 ·
  rcases g with ⟨g1, g2⟩ | ⟨a, k, n, r, g1, g2, g3, g4, g5⟩
  ·
   exact ⟨h2.trans g2.symm, 0, false, h2, by omega⟩
  exact absurd ⟨a, k, g1⟩ h1
 rcases g with ⟨g1, g2⟩ | ⟨b, l, m, t, g1, g2, g3, g4, g5⟩
 ·
  exact absurd ⟨a, k, h1⟩ g1
 obtain ⟨rfl, rfl⟩ := h1.one g1
 rw [h2] at g2
 obtain rfl : n = m := Option.some.inj g2
 rw [h3] at g3
 obtain rfl : r = t := Option.some.inj g3
 exact ⟨h5.trans g5.symm, r, true, h5, h4⟩
theorem decFrom_append : ∀ (l m : List UInt8) (acc n : Nat), Lib.decFrom acc l = some n → Lib.decFrom acc (l ++ m) = Lib.decFrom n m
 | [], m, acc, n, h => by simp [Lib.decFrom] at h; subst h; rfl
 | b :: l, m, acc, n, h => by
  simp only [Lib.decFrom, List.cons_append] at h ⊢
  cases hd : Lib.digitVal b with
  | none => rw [hd] at h; cases h
  | some d =>
   rw [hd] at h
   exact decFrom_append l m _ n h
theorem decFrom_shift : ∀ (l : List UInt8) (acc n : Nat), Lib.decFrom 0 l = some n → Lib.decFrom acc l = some (acc * 10 ^ l.length + n) := by
 suffices H : ∀ (l : List UInt8) (a b n : Nat), Lib.decFrom b l = some n → Lib.decFrom (a + b) l = some (a * 10 ^ l.length + n) from fun l acc n h => by simpa using H l acc 0 n h
 intro l
 induction l with
 | nil => intro a b n h; simp [Lib.decFrom] at h ⊢; omega
 | cons c l ih =>
  intro a b n h
  simp only [Lib.decFrom] at h ⊢
  cases hd : Lib.digitVal c with
  | none => rw [hd] at h; cases h
  | some d =>
   rw [hd] at h
   simp only at h ⊢
   have := ih (a * 10) (b * 10 + d) n h
   rw [show (a + b) * 10 + d = a * 10 + (b * 10 + d) by omega, this, List.length_cons, Nat.pow_succ]
   congr 1
   rw [Nat.mul_assoc, Nat.mul_comm 10]
end
section
open Go.RowKit
theorem byA_extract {s : ByteArray} {i j k : Nat} (h1 : i + k < j) (h2 : j ≤ s.size) : byA (s.extract i j) k = byA s (i + k) := by
 unfold byA
 rw [ByteArray.data_extract, Array.getElem?_extract, if_pos]
 have : s.data.size = s.size := rfl
 omega
theorem dgAt_extract {s : ByteArray} {i j k : Nat} (h1 : i + k < j) (h2 : j ≤ s.size) : dgAt (s.extract i j) k = dgAt s (i + k) := by
 show dgB (byA (s.extract i j) k) = dgB (byA s (i + k))
 rw [byA_extract h1 h2]
theorem size_extract' {s : ByteArray} {i j : Nat} (h2 : j ≤ s.size) : (s.extract i j).size = j - i := by
 rw [ByteArray.size_extract]; omega
theorem list_extract {s : ByteArray} {i j : Nat} (h : j ≤ s.size) : (s.extract i j).data.toList = (s.data.toList.drop i).take (j - i) := by
 rw [ByteArray.data_extract, Array.toList_extract]
theorem list_len (s : ByteArray) : s.data.toList.length = s.size := by simp
theorem list_append (a b : ByteArray) : (a ++ b).data.toList = a.data.toList ++ b.data.toList := by simp [ByteArray.data_append]
theorem dec_ex : ∀ (l : List UInt8) (acc : Nat), (∀ c ∈ l, dgB c.toNat = true) → ∃ n, Lib.decFrom acc l = some n
 | [], acc, _ => ⟨acc, rfl⟩
 | b :: l, acc, h => by
  have hb := (dgB_iff _).1 (h b (by simp))
  obtain ⟨n, hn⟩ := dec_ex l (acc * 10 + (b.toNat - 48)) (fun c hc => h c (by simp [hc]))
  refine ⟨n, ?_⟩
  simp only [Lib.decFrom, Lib.digitVal]
  rw [if_pos hb]
  exact hn
theorem dg_list {s : ByteArray} (h : ∀ j, j < s.size → dgAt s j = true) : ∀ c ∈ s.data.toList, dgB c.toNat = true := by
 intro c hc
 obtain ⟨k, hk⟩ := List.mem_iff_getElem?.1 hc
 obtain ⟨h1, h2⟩ := toList_by hk
 have := h k h1
 have e : dgAt s k = dgB (byA s k) := rfl
 rw [e, h2] at this
 exact this
theorem l7Num_at (s : ByteArray) (n : Nat) (hn : numIs s n) (h : (∀ j, j < s.size → dgAt s j = true) ∧ s.size ≤ 15) (w : World) :
  Calls Tryz.prog 91 #[.string s] w fun e w' => e = .returned (.int .i64 (n : Int)) ∧ w' = w := by
 refine (l7Number_any s h.1 h.2 w).mono ?_
 rintro e w' ⟨⟨m, rfl, hm, _⟩, rfl⟩
 have : some m = some n := hm.symm.trans hn
 obtain rfl := Option.some.inj this
 exact ⟨rfl, rfl⟩
theorem real_parts {s : ByteArray} {a k : Nat} (h : RealAt s a k) : ∃ (m n : Nat) (A B : ByteArray), A = s.extract 0 a ∧ B = s.extract (a + 1) s.size ∧ numIs A m ∧ numIs B n ∧ (m ≤ 999999999 ∧ (∀ j, j < A.size → dgAt A j = true) ∧ A.size ≤ 15) ∧ (n ≤ 999999 ∧ (∀ j, j < B.size → dgAt B j = true) ∧ B.size ≤ 15) ∧ (∀ t, 10 ^ k = t → Lib.decFrom 0 (s.data.toList.take a ++ s.data.toList.drop (a + 1)) = some (m * t + n)) ∧
  (∀ W, (Instr.slice 9 (.string s) none (some (.int .i64 (a : Int))) none).run Tryz.prog W = .ok (.string A) W) ∧ (∀ W, (Instr.slice 9 (.string s) (some (.int .i64 ((a : Int) + 1))) none none).run Tryz.prog W = .ok (.string B) W) := by
 have hz := h.size
 have h9 := h.a9
 have h6 := h.k6
 have sA : (s.extract 0 a).size = a := by rw [size_extract' (by omega)]; omega
 have sB : (s.extract (a + 1) s.size).size = k := by rw [size_extract' (by omega)]; omega
 have dA : ∀ j, j < (s.extract 0 a).size → dgAt (s.extract 0 a) j = true := by
  intro j hj
  rw [sA] at hj
  rw [dgAt_extract (by omega) (by omega)]
  exact h.fst _ (by omega)
 have dB : ∀ j, j < (s.extract (a + 1) s.size).size → dgAt (s.extract (a + 1) s.size) j = true := by
  intro j hj
  rw [sB] at hj
  rw [dgAt_extract (by omega) (by omega)]
  exact h.snd _ (by omega) (by omega)
 obtain ⟨m, hm⟩ := dec_ex _ 0 (dg_list dA)
 obtain ⟨n, hn⟩ := dec_ex _ 0 (dg_list dB)
 have bm := Lib.decFrom_lt _ _ _ hm
 have bn := Lib.decFrom_lt _ _ _ hn
 rw [list_len, sA] at bm
 rw [list_len, sB] at bn
 have p9 : 10 ^ a ≤ 10 ^ 9 := Nat.pow_le_pow_right (by omega) h9
 have p6 : 10 ^ k ≤ 10 ^ 6 := Nat.pow_le_pow_right (by omega) h6
 have q9 : 10 ^ a ≤ 1000000000 := by simpa using p9
 have q6 : 10 ^ k ≤ 1000000 := by simpa using p6
 refine ⟨m, n, _, _, rfl, rfl, hm, hn, ⟨by omega, dA, by omega⟩, ⟨by omega, dB, by omega⟩, ?_, ?_, ?_⟩
 ·
  intro t ht
  have e1 : s.data.toList.take a = (s.extract 0 a).data.toList := by rw [list_extract (by omega)]; simp
  have e2 : s.data.toList.drop (a + 1) = (s.extract (a + 1) s.size).data.toList := by
   rw [list_extract (by omega), List.take_of_length_le]
   rw [List.length_drop, list_len]
   omega
  rw [e1, e2, decFrom_append _ _ _ _ hm, decFrom_shift _ m n hn, list_len, sB, ht]
 ·
  intro W
  rw [run_slice_string_to_if W 9 s .i64 a Tryz.underlying9, if_pos ⟨by omega, by omega⟩]
  rfl
 intro W
 rw [run_slice_string_from_if W 9 s .i64 _ Tryz.underlying9, if_pos ⟨by omega, by omega⟩]
 rfl
set_option maxRecDepth 100000 in
set_option maxHeartbeats 4000000 in
theorem specRealOf_any (s : ByteArray) (hs : s.size ≤ 1048576) (w : World) :
  Calls Tryz.prog 70 #[.string s] w fun e w' => RealSays s e ∧ Below w.heap.size w w' := by
 go_enter Tryz.func70, Tryz.ntmps70
 go_wp2_with fail; refine (l7Run_any s 0 (Nat.zero_le _) hs _).mono ?_
 rintro e w1 ⟨⟨a, rfl, hr⟩, rfl⟩
 have HR : Hid (RunIs s 0 a) := hr
 have has : a ≤ s.size := hr.2.1
 clear hr; have hno : Hid ((∀ k, ¬ RealAt s a k) → RealSays s (.returned (.tuple #[.float .f64 0, .bool false]))) := by
  intro h
  refine Or.inl ⟨?_, rfl⟩
  rintro ⟨b, k, hb⟩
  obtain rfl := hb.run HR.out
  exact h k hb
 go_wp2_with fail; refine (l1In_any a 1 9 _).mono ?_
 rintro e w1 ⟨rfl, rfl⟩
 by_cases h19 : (1 ≤ a ∧ a ≤ 9)
 case neg =>
  have t1 : (decide ((1 : Int) ≤ (a : Int)) && decide ((a : Int) ≤ 9)) = false := by simp; omega
  have F := hno.out (fun k h => h19 ⟨h.a1, h.a9⟩)
  rw [t1]
  go_wp2_with fail; go_ret2
  exact ⟨F, Below.refl _ _⟩
 have t1 : (decide ((1 : Int) ≤ (a : Int)) && decide ((a : Int) ≤ 9)) = true := by simp; omega
 rw [t1]
 clear t1; have hpos : 0 < s.size := by omega
 have hcz := byA_eq hpos
 obtain ⟨z, hz⟩ : ∃ z, Hid (byA s 0 = z) := ⟨_, rfl⟩
 rw [hz.out] at hcz
 have HCZ : Hid ((s[0]'hpos).toNat = z) := hcz
 clear hcz; by_cases hz48 : (1 < a ∧ z = 48)
 case pos =>
  have F := hno.out (fun k h => by have := h.nz; rw [hz.out] at this; omega)
  have g1 : (1 : Int) < (a : Int) := by omega
  have g2 : (((s[0]'hpos).toNat : Int) == 48) = true := by rw [HCZ.out]; simp; omega
  go_wp2_with fail; go_ret2
  exact ⟨F, Below.refl _ _⟩
 by_cases hlt : a < s.size
 case neg =>
  have F := hno.out (fun k h => by have := h.size; omega)
  have g3 : (s.size : Int) ≤ (a : Int) := by omega
  by_cases g1 : (1 : Int) < (a : Int)
  ·
   have g2 : (((s[0]'hpos).toNat : Int) == 48) = false := by rw [HCZ.out]; simp; omega
   go_wp2_with fail; go_ret2
   exact ⟨F, Below.refl _ _⟩
  go_wp2_with fail; go_ret2
  exact ⟨F, Below.refl _ _⟩
 have hi := run_index_at s a hlt
 rw [byA_eq hlt] at hi
 obtain ⟨p, hp⟩ : ∃ p, Hid (byA s a = p) := ⟨_, rfl⟩
 rw [hp.out] at hi
 have g3 : ¬ (s.size : Int) ≤ (a : Int) := by omega
 have g3d : decide (s.size ≤ a) = false := by simp; omega
 by_cases hp46 : p = 46
 case neg =>
  have F := hno.out (fun k h => by have := h.pt; rw [hp.out] at this; omega)
  have g4 : ((p : Int) != 46) = true := by simp; omega
  by_cases g1 : (1 : Int) < (a : Int)
  ·
   have g2 : (((s[0]'hpos).toNat : Int) == 48) = false := by rw [HCZ.out]; simp; omega
   go_wp2_with fail; go_ret2
   exact ⟨F, Below.refl _ _⟩
  go_wp2_with fail; go_ret2
  exact ⟨F, Below.refl _ _⟩
 subst hp46
 have w1' : IntKind.i64.wrap ((a : Int) + 1) = (a : Int) + 1 := by rw [IntKind.wrap_i64]; omega
 have hR2 := fun w => l7Run_any s (a + 1) (by omega) hs w
 rw [show ((a + 1 : Nat) : Int) = (a : Int) + 1 by omega] at hR2
 by_cases g1 : (1 : Int) < (a : Int)
 ·
  have g2 : (((s[0]'hpos).toNat : Int) == 48) = false := by rw [HCZ.out]; simp; omega
  go_wp2_with fail; clear g2; refine (hR2 _).mono ?_
  clear hR2; rintro e w1 ⟨⟨b, rfl, hr2⟩, rfl⟩
  have HR2 : Hid (RunIs s (a + 1) b) := hr2
  have hab : a + 1 ≤ b := hr2.1
  have hbs : b ≤ s.size := hr2.2.1
  clear hr2; by_cases hbe : b = s.size
  case neg =>
   have F := hno.out (fun k h => hbe (h.run2 HR2.out))
   have g5 : ((b : Int) != (s.size : Int)) = true := by simp; omega
   go_wp2_with fail; go_ret2
   exact ⟨F, Below.refl _ _⟩
  have g5 : ((b : Int) != (s.size : Int)) = false := by simp; omega
  have HBE : Hid (b = s.size) := hbe
  clear hbe; obtain ⟨k, hk⟩ : ∃ k, Hid (b = a + 1 + k) := ⟨b - a - 1, by show _ = _; omega⟩
  go_wp2_with fail; rw [show (b : Int) - (a : Int) - 1 = (k : Int) by have := hk.out; omega]
  refine (l1In_any k 1 6 _).mono ?_
  rintro e w1 ⟨rfl, rfl⟩
  by_cases hk6 : (1 ≤ k ∧ k ≤ 6)
  case neg =>
   have F := hno.out (fun l h => by have h1 := h.size; have h2 := h.k1; have h3 := h.k6; have h4 := hk.out; have h5 := HBE.out; omega)
   have t6 : (decide ((1 : Int) ≤ (k : Int)) && decide ((k : Int) ≤ 6)) = false := by simp; omega
   rw [t6]
   go_wp2_with fail; go_ret2
   exact ⟨F, Below.refl _ _⟩
  have t6 : (decide ((1 : Int) ≤ (k : Int)) && decide ((k : Int) ≤ 6)) = true := by simp; omega
  rw [t6]
  have HA : Hid (RealAt s a k) := ⟨by have := hk.out; have := HBE.out; omega, h19.1, h19.2, hk6.1, hk6.2, hp.out, fun j hj => HR.out.2.2.1 j (Nat.zero_le _) hj, fun j h1 h2 => HR2.out.2.2.1 j (by omega) (by have := HBE.out; omega), by rw [hz.out]; omega⟩
  clear t6 g5; go_wp2_with fail; go_loop [7, 8] (fun tv i => ∃ q : Nat, q ≤ k ∧ i = .int .i64 q ∧ tv = .int .i64 ((10 ^ q : Nat) : Int)) (fun _ i => k - (intOf i).toNat)
  case atStart => exact ⟨0, Nat.zero_le _, rfl, rfl⟩
  obtain ⟨q, hq, rfl, rfl⟩ := hrel
  have hp6 : 10 ^ q ≤ 10 ^ 6 := Nat.pow_le_pow_right (by omega) (by omega)
  obtain ⟨t, ht⟩ : ∃ t, Hid (10 ^ q = t) := ⟨10 ^ q, (rfl : 10 ^ q = 10 ^ q)⟩
  rw [ht.out] at hp6
  rw [ht.out]
  have t6b : t ≤ 1000000 := by simpa using hp6
  clear hp6; by_cases hqk : (q : Int) < (k : Int)
  ·
   have w4 : IntKind.i64.wrap ((t : Int) * 10) = (t : Int) * 10 := by rw [IntKind.wrap_i64]; omega
   go_wp2_with fail; go_round
   case rel => exact ⟨q + 1, by omega, by go_num, by rw [Nat.pow_succ, ht.out]; congr 1⟩
   case measure => simp [intOf]; omega
  have hqk2 : Hid (q = k) := by show _ = _; omega
  obtain ⟨m, n, A, B, hA, hB, nm, nn, bm, bn, HS, hsl1, hsl2⟩ := real_parts HA.out
  have hmt : m * t ≤ 999999999 * 1000000 := Nat.mul_le_mul (by omega) (by omega)
  obtain ⟨mt, hmt0⟩ : ∃ mt : Nat, Hid (m * t = mt) := ⟨_, (rfl : m * t = m * t)⟩
  have hmI : (m : Int) * (t : Int) = (mt : Int) := by rw [← hmt0.out]; simp
  rw [hmt0.out] at hmt
  have w5 : IntKind.i64.wrap ((m : Int) * (t : Int)) = (mt : Int) := by rw [hmI, IntKind.wrap_i64]; omega
  have w6 : IntKind.i64.wrap ((mt : Int) + (n : Int)) = ((mt + n : Nat) : Int) := by rw [IntKind.wrap_i64]; omega
  obtain ⟨N, hN⟩ : ∃ N : Nat, Hid (mt + n = N) := ⟨_, (rfl : mt + n = mt + n)⟩
  rw [hN.out] at w6
  have htF : floatOfInt .f64 (t : Int) = tenF k := by
   rw [← tenF_int (k := k) (by omega), ← hqk2.out, ht.out]
  obtain ⟨r, hr, br⟩ := ofInt_quo (N : Int) (k := k) (by omega)
  have hq := fun w => run_float_arith (P := Tryz.prog) w .quo 88 .f64 _ _ r hr
  have FIN : Hid (RealSays s (.returned (.tuple #[.float .f64 r, .bool true]))) := by
   refine Or.inr ⟨a, k, N, r, HA.out, ?_, hr, br, rfl⟩
   rw [HS t (by rw [← ht.out, hqk2.out]), hmt0.out, hN.out]
  clear hr HS hA hB hmt hmI; go_wp2_with fail; refine wp_region_held_drew (S := fun _ => True) (by kernel_rfl) ?_ (fun hHeld => ?_)
  ·
   trivial
  refine wpr 0 59 ?_; simp only [zs]; refine wpr 1 60 ?_; simp only [zs]; refine wpr 2 61 ?_; simp only [zs]; refine wpr 4 63 ?_; simp only [zs]; refine wpr 6 65 ?_; simp only [zs]; refine wpr 7 66 ?_; simp only [zs]; refine wpr 8 67 ?_; simp only [zs]; refine wpr 9 68 ?_; simp only [zs]; refine wpr 13 72 ?_; simp only [zs]; refine wpr 14 73 ?_; simp only [zs]; refine wpy 3 fun K hK => ?_
  go_simp; refine (l7Num_at A m nm bm.2 _).mono ?_
  rintro e w2 ⟨rfl, rfl⟩
  refine hK.out _ _ ?_ (fun hHeld => ?_)
  ·
   trivial
  clear hK K; try simp only [zs]
  refine wpr 5 64 ?_; simp only [zs]; refine wpy 10 fun K hK => ?_
  go_simp; refine (l7Num_at B n nn bn.2 _).mono ?_
  rintro e w2 ⟨rfl, rfl⟩
  refine hK.out _ _ ?_ (fun hHeld => ?_)
  ·
   trivial
  clear hK K; try simp only [zs]
  refine wpr 11 70 ?_; simp only [zs]; refine wpr 12 71 ?_; simp only [zs]; refine wpr 15 74 ?_; simp only [zs]; refine wpr 16 2 ?_; simp only [zs]; refine wpr 17 3 ?_; simp only [zs]; refine wpAnyH_done (by kernel_rfl) ?_ _
  go_wp2_with fail; go_ret2
  exact ⟨FIN.out, by first | exact bl_drew (Below.refl _ _) | exact bl_drewN (Below.refl _ _) _ | exact Below.refl _ _⟩
 go_wp2_with fail; refine (hR2 _).mono ?_
 clear hR2; rintro e w1 ⟨⟨b, rfl, hr2⟩, rfl⟩
 have HR2 : Hid (RunIs s (a + 1) b) := hr2
 have hab : a + 1 ≤ b := hr2.1
 have hbs : b ≤ s.size := hr2.2.1
 clear hr2; by_cases hbe : b = s.size
 case neg =>
  have F := hno.out (fun k h => hbe (h.run2 HR2.out))
  have g5 : ((b : Int) != (s.size : Int)) = true := by simp; omega
  go_wp2_with fail; go_ret2
  exact ⟨F, Below.refl _ _⟩
 have g5 : ((b : Int) != (s.size : Int)) = false := by simp; omega
 have HBE : Hid (b = s.size) := hbe
 clear hbe; obtain ⟨k, hk⟩ : ∃ k, Hid (b = a + 1 + k) := ⟨b - a - 1, by show _ = _; omega⟩
 go_wp2_with fail; rw [show (b : Int) - (a : Int) - 1 = (k : Int) by have := hk.out; omega]
 refine (l1In_any k 1 6 _).mono ?_
 rintro e w1 ⟨rfl, rfl⟩
 by_cases hk6 : (1 ≤ k ∧ k ≤ 6)
 case neg =>
  have F := hno.out (fun l h => by have h1 := h.size; have h2 := h.k1; have h3 := h.k6; have h4 := hk.out; have h5 := HBE.out; omega)
  have t6 : (decide ((1 : Int) ≤ (k : Int)) && decide ((k : Int) ≤ 6)) = false := by simp; omega
  rw [t6]
  go_wp2_with fail; go_ret2
  exact ⟨F, Below.refl _ _⟩
 have t6 : (decide ((1 : Int) ≤ (k : Int)) && decide ((k : Int) ≤ 6)) = true := by simp; omega
 rw [t6]
 have HA : Hid (RealAt s a k) := ⟨by have := hk.out; have := HBE.out; omega, h19.1, h19.2, hk6.1, hk6.2, hp.out, fun j hj => HR.out.2.2.1 j (Nat.zero_le _) hj, fun j h1 h2 => HR2.out.2.2.1 j (by omega) (by have := HBE.out; omega), by rw [hz.out]; omega⟩
 clear t6 g5; go_wp2_with fail; go_loop [7, 8] (fun tv i => ∃ q : Nat, q ≤ k ∧ i = .int .i64 q ∧ tv = .int .i64 ((10 ^ q : Nat) : Int)) (fun _ i => k - (intOf i).toNat)
 case atStart => exact ⟨0, Nat.zero_le _, rfl, rfl⟩
 obtain ⟨q, hq, rfl, rfl⟩ := hrel
 have hp6 : 10 ^ q ≤ 10 ^ 6 := Nat.pow_le_pow_right (by omega) (by omega)
 obtain ⟨t, ht⟩ : ∃ t, Hid (10 ^ q = t) := ⟨10 ^ q, (rfl : 10 ^ q = 10 ^ q)⟩
 rw [ht.out] at hp6
 rw [ht.out]
 have t6b : t ≤ 1000000 := by simpa using hp6
 clear hp6; by_cases hqk : (q : Int) < (k : Int)
 ·
  have w4 : IntKind.i64.wrap ((t : Int) * 10) = (t : Int) * 10 := by rw [IntKind.wrap_i64]; omega
  go_wp2_with fail; go_round
  case rel => exact ⟨q + 1, by omega, by go_num, by rw [Nat.pow_succ, ht.out]; congr 1⟩
  case measure => simp [intOf]; omega
 have hqk2 : Hid (q = k) := by show _ = _; omega
 obtain ⟨m, n, A, B, hA, hB, nm, nn, bm, bn, HS, hsl1, hsl2⟩ := real_parts HA.out
 have hmt : m * t ≤ 999999999 * 1000000 := Nat.mul_le_mul (by omega) (by omega)
 obtain ⟨mt, hmt0⟩ : ∃ mt : Nat, Hid (m * t = mt) := ⟨_, (rfl : m * t = m * t)⟩
 have hmI : (m : Int) * (t : Int) = (mt : Int) := by rw [← hmt0.out]; simp
 rw [hmt0.out] at hmt
 have w5 : IntKind.i64.wrap ((m : Int) * (t : Int)) = (mt : Int) := by rw [hmI, IntKind.wrap_i64]; omega
 have w6 : IntKind.i64.wrap ((mt : Int) + (n : Int)) = ((mt + n : Nat) : Int) := by rw [IntKind.wrap_i64]; omega
 obtain ⟨N, hN⟩ : ∃ N : Nat, Hid (mt + n = N) := ⟨_, (rfl : mt + n = mt + n)⟩
 rw [hN.out] at w6
 have htF : floatOfInt .f64 (t : Int) = tenF k := by
  rw [← tenF_int (k := k) (by omega), ← hqk2.out, ht.out]
 obtain ⟨r, hr, br⟩ := ofInt_quo (N : Int) (k := k) (by omega)
 have hq := fun w => run_float_arith (P := Tryz.prog) w .quo 88 .f64 _ _ r hr
 have FIN : Hid (RealSays s (.returned (.tuple #[.float .f64 r, .bool true]))) := by
  refine Or.inr ⟨a, k, N, r, HA.out, ?_, hr, br, rfl⟩
  rw [HS t (by rw [← ht.out, hqk2.out]), hmt0.out, hN.out]
 clear hr HS hA hB hmt hmI; go_wp2_with fail; refine wp_region_held_drew (S := fun _ => True) (by kernel_rfl) ?_ (fun hHeld => ?_)
 ·
  trivial
 refine wpr 0 59 ?_; simp only [zs]; refine wpr 1 60 ?_; simp only [zs]; refine wpr 2 61 ?_; simp only [zs]; refine wpr 4 63 ?_; simp only [zs]; refine wpr 6 65 ?_; simp only [zs]; refine wpr 7 66 ?_; simp only [zs]; refine wpr 8 67 ?_; simp only [zs]; refine wpr 9 68 ?_; simp only [zs]; refine wpr 13 72 ?_; simp only [zs]; refine wpr 14 73 ?_; simp only [zs]; refine wpy 3 fun K hK => ?_
 go_simp; refine (l7Num_at A m nm bm.2 _).mono ?_
 rintro e w2 ⟨rfl, rfl⟩
 refine hK.out _ _ ?_ (fun hHeld => ?_)
 ·
  trivial
 clear hK K; try simp only [zs]
 refine wpr 5 64 ?_; simp only [zs]; refine wpy 10 fun K hK => ?_
 go_simp; refine (l7Num_at B n nn bn.2 _).mono ?_
 rintro e w2 ⟨rfl, rfl⟩
 refine hK.out _ _ ?_ (fun hHeld => ?_)
 ·
  trivial
 clear hK K; try simp only [zs]
 refine wpr 11 70 ?_; simp only [zs]; refine wpr 12 71 ?_; simp only [zs]; refine wpr 15 74 ?_; simp only [zs]; refine wpr 16 2 ?_; simp only [zs]; refine wpr 17 3 ?_; simp only [zs]; refine wpAnyH_done (by kernel_rfl) ?_ _
 go_wp2_with fail; go_ret2
 exact ⟨FIN.out, by first | exact bl_drew (Below.refl _ _) | exact bl_drewN (Below.refl _ _) _ | exact Below.refl _ _⟩
end
end Go.Proofs.YtjckoldjodjehaaGreatDoor
