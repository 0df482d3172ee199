import Derived.Test.YtkkofminndboaaaGreatDoorSb20
import Derived.Shelf.Strings.Runes
import Derived.Shelf.Strings.Prefix
import Derived.Shelf.Strconv.Clone
import Derived.Deep.CutRange
namespace Go.Proofs
open Go.Shelf
shelf_lay Lays.n151 Nm 151 at Tryz as Tryz.laysContainsRune
shelf_lay Lays.n217 Nm 217 at Tryz as Tryz.laysIndexByte
shelf_lay Lays.n99 Nm 99 at Tryz as Tryz.laysHasPrefix
shelf_lay LaysM.n316 Nm 316 at Tryz as Tryz.laysClone
end Go.Proofs
namespace Go.Proofs.YtkkofminndboaaaGreatDoor
set_option linter.unusedVariables false
set_option linter.unusedSimpArgs false
section
open Go.RowKit
def LetIs (s : ByteArray) (k : Nat) (c : Int) : Prop :=
 (¬ k < s.size ∧ c = -1) ∨ (k < s.size ∧ ∃ n : Nat, c = n ∧ (byA s k < 128 → n = byA s k) ∧ (128 ≤ byA s k → 128 ≤ n ∧ n ≤ 2147483647))
set_option maxRecDepth 100000 in
set_option maxHeartbeats 4000000 in
theorem letter_any (sb : Nat) (s : ByteArray) (v2 v3 : Value) (k : Nat) (hk : k ≤ s.size) (w : World) (hK : Blk w sb #[.string s, .int .i64 (k : Int), v2, v3] 48) :
  Calls Tryz.prog 20 #[.pointer (some ⟨sb, 0, none⟩)] w fun e w' => (∃ c : Int, e = .returned (.int .i32 c) ∧ LetIs s k c) ∧ Below w.heap.size w w' := by
 obtain ⟨x0, x1, x2, x3, x4⟩ := hK.four'
 have x0' : w.drew.cell? ⟨sb, 0, none⟩ = some (.string s) := x0
 have x1' : w.drew.cell? ⟨sb, 1, none⟩ = some (.int .i64 (k : Int)) := x1
 have hsl := slice_from s hk
 obtain ⟨T, hT⟩ : ∃ T, Hid (s.extract k s.size = T) := ⟨_, (rfl : s.extract k s.size = s.extract k s.size)⟩
 rw [hT.out] at hsl
 have sz : Hid (T.size = s.size - k) := by rw [← hT.out]; exact size_extract' (Nat.le_refl _)
 go_enter Tryz.func20, Tryz.ntmps20
 go_wp2_with fail; refine wp_region_held_drew (S := fun w' => w'.cell? ⟨sb, 0, none⟩ = some (.string s) ∧ w'.cell? ⟨sb, 1, none⟩ = some (.int .i64 (k : Int))) (by kernel_rfl) ?_ (fun hHeld => ?_)
 ·
  exact ⟨x0, x1⟩
 refine wpr 0 5 ?_; simp only [zs]; refine wpr 1 6 ?_; simp only [zs]; refine wpr 2 7 ?_; simp only [zs]; refine wpr 3 8 ?_; simp only [zs]; refine wpr 4 9 ?_; simp only [zs]; refine wpr 5 10 ?_; simp only [zs]; refine wpr 6 11 ?_; simp only [zs]; refine wpr 7 12 ?_; simp only [zs]; refine wpr 8 13 ?_; simp only [zs]; refine wpy 9 fun K hK => ?_
 go_simp; refine hK.out _ _ ?_ (fun hHeld => ?_)
 ·
  exact ⟨(alloc_old _ _ _ _ (by rw [x0']; rfl)).trans x0', (alloc_old _ _ _ _ (by rw [x1']; rfl)).trans x1'⟩
 clear hK K; try simp only [zs]
 refine wpAnyH_done (by kernel_rfl) ?_ _
 clear x0 x1 x0' x1'; go_wp2_with fail; go_loopw [] (fun wr => wr = w.drew.iter T 0) (fun _ => 0)
 case atStart => rfl
 subst hrel
 by_cases hlt : 0 < T.size
 ·
  have hnx : ∀ ty, (Instr.next (.pointer (some ⟨w.heap.size, 0, none⟩)) true ty).run Tryz.prog (w.drew.iter T 0) = .ok (.tuple #[.bool true, .int .i64 (0 : Nat), .int .i32 (Utf8.decode T 0).1]) (w.drew.iter T (0 + (Utf8.decode T 0).2)) := fun ty => run_next_any (P := Tryz.prog) w.drew T 0 ty hlt
  have hks : k < s.size := by have := sz.out; omega
  have hb0 : byA T 0 = byA s k := by rw [← hT.out, byA_extract (by omega) (Nat.le_refl _)]; rfl
  have LI : Hid (LetIs s k ((Utf8.decode T 0).1 : Nat)) := by
   refine Or.inr ⟨hks, _, rfl, fun ha => ?_, fun ha => ?_⟩
   ·
    rw [← hb0] at ha ⊢
    rw [← byA_eq hlt] at ha ⊢
    rw [decode_ascii T 0 hlt ha]
   rw [← hb0, ← byA_eq hlt] at ha
   exact ⟨(decode_high T 0 hlt ha).1, decode_le T 0⟩
  obtain ⟨c, hc⟩ : ∃ c, (Utf8.decode T 0).1 = c := ⟨_, rfl⟩
  rw [hc] at LI
  simp only [hc] at hnx
  clear hc hb0; go_wp2_with fail; go_ret; exact ⟨⟨_, rfl, LI.out⟩, bl_alloc (bl_drew (Below.refl _ _)) _⟩
 have hnx : ∀ ty, (Instr.next (.pointer (some ⟨w.heap.size, 0, none⟩)) true ty).run Tryz.prog (w.drew.iter T 0) = .ok (.tuple #[.bool false]) (w.drew.iter T 0) := fun ty => run_next_end (P := Tryz.prog) w.drew T 0 ty hlt
 have hks : ¬ k < s.size := by have := sz.out; omega
 go_wp2_with fail; go_ret; exact ⟨⟨_, rfl, Or.inl ⟨hks, rfl⟩⟩, bl_alloc (bl_drew (Below.refl _ _)) _⟩
def marksB : ByteArray := ⟨#[123, 125, 40, 41, 59, 44, 46, 36, 61, 43, 45, 42, 47, 37, 60]⟩
theorem marks_ascii : ∀ c : Nat, c < 128 → decide (0 ≤ Lib.indexByte marksB.data.toList (((c : Nat) : Int).toNat.toUInt8)) = isMk c := by decide +kernel
theorem marks_low : ∀ k : Nat, k < 15 → byA marksB k < 128 := by decide +kernel
theorem containsAscii (c : Nat) (hc : c < 128) (w : World) :
  Calls Tryz.prog 23 #[.string marksB, .int .i32 (c : Int)] w fun e w' => e = .returned (.bool (isMk c)) ∧ w' = w := by
 rw [← marks_ascii c hc]
 exact Any.strings_ContainsRune_ascii Tryz.laysContainsRune marksB c w (by omega) (by omega)
theorem by_mk2 (a b : UInt8) : byA ⟨#[a, b]⟩ 1 = b.toNat := rfl
theorem by_mk3 (a b c : UInt8) : byA ⟨#[a, b, c]⟩ 2 = c.toNat := rfl
theorem by_mk4 (a b c d : UInt8) : byA ⟨#[a, b, c, d]⟩ 3 = d.toNat := rfl
theorem last_ge (x : Nat) : 128 ≤ (UInt8.ofNat (128 + x % 64)).toNat := by
 rw [UInt8.toNat_ofNat']; omega
theorem encode_last (c : Nat) (h : 128 ≤ c) : ∃ n, (Utf8.encode (c : Int)).size = n + 1 ∧ 1 ≤ n ∧ n ≤ 3 ∧ 128 ≤ byA (Utf8.encode (c : Int)) n := by
 have hd : ∃ d : Nat, 128 ≤ d ∧ (if Utf8.valid (c : Int) = true then (c : Int).toNat else Utf8.runeError) = d := by
  refine ⟨_, ?_, rfl⟩
  split
  ·
   omega
  decide
 obtain ⟨d, hd1, hd2⟩ := hd
 unfold Utf8.encode
 simp only [hd2]
 rw [if_neg (by omega)]
 split
 ·
  exact ⟨1, rfl, by omega, by omega, by rw [by_mk2]; exact last_ge d⟩
 split
 ·
  exact ⟨2, rfl, by omega, by omega, by rw [by_mk3]; exact last_ge d⟩
 exact ⟨3, rfl, by omega, by omega, by rw [by_mk4]; exact last_ge d⟩
set_option maxRecDepth 100000 in
set_option maxHeartbeats 1000000 in
theorem validRune_any (c : Nat) (w : World) :
  Calls Tryz.prog 50 #[.int .i32 (c : Int)] w fun e w' => e = .returned (.bool (decide ((c : Int) < 55296) || (decide ((57343 : Int) < (c : Int)) && decide ((c : Int) ≤ 1114111)))) ∧ w' = w := by
 have g0 : (0 : Int) ≤ (c : Int) := by omega
 obtain ⟨V, hV⟩ : ∃ V, Hid ((decide ((c : Int) < 55296) || (decide ((57343 : Int) < (c : Int)) && decide ((c : Int) ≤ 1114111))) = V) := ⟨_, (rfl : (decide ((c : Int) < 55296) || (decide ((57343 : Int) < (c : Int)) && decide ((c : Int) ≤ 1114111))) = _)⟩
 rw [hV.out]
 by_cases h1 : (c : Int) < 55296
 ·
  have E : Hid (true = V) := by show _ = _; rw [← hV.out, decide_eq_true h1]; simp
  go_enter Tryz.func50, Tryz.ntmps50
  go_wp2_with fail; go_ret; exact ⟨ret_bool E.out, rfl⟩
 by_cases h2 : (57343 : Int) < (c : Int)
 ·
  by_cases h3 : (c : Int) ≤ 1114111
  ·
   have E : Hid (true = V) := by show _ = _; rw [← hV.out, decide_eq_false h1, decide_eq_true h2, decide_eq_true h3]; simp
   go_enter Tryz.func50, Tryz.ntmps50
   go_wp2_with fail; go_ret; exact ⟨ret_bool E.out, rfl⟩
  have E : Hid (false = V) := by show _ = _; rw [← hV.out, decide_eq_false h1, decide_eq_true h2, decide_eq_false h3]; simp
  go_enter Tryz.func50, Tryz.ntmps50
  go_wp2_with fail; go_ret; exact ⟨ret_bool E.out, rfl⟩
 have E : Hid (false = V) := by show _ = _; rw [← hV.out, decide_eq_false h1, decide_eq_false h2]; simp
 go_enter Tryz.func50, Tryz.ntmps50
 go_wp2_with fail; go_ret; exact ⟨ret_bool E.out, rfl⟩
theorem indexByte_none (R : ByteArray) (p : Nat) (hR : ∀ j, j < R.size → byA R j < 128) (hp : 128 ≤ p) (hp2 : p < 256) (w : World) :
  Calls Tryz.prog 49 #[.string R, .int .u8 (p : Int)] w fun e w' => e = .returned (.int .i64 (-1)) ∧ w' = w := by
 have hno : Lib.indexByte R.data.toList ((p : Int).toNat.toUInt8) = -1 := by
  obtain ⟨ix, hix⟩ : ∃ ix, Lib.indexByte R.data.toList ((p : Int).toNat.toUInt8) = ix := ⟨_, rfl⟩
  have hge := Lib.indexByte_ge R.data.toList ((p : Int).toNat.toUInt8)
  rw [hix] at hge ⊢
  by_cases h0 : ix = -1
  ·
   exact h0
  exfalso
  obtain ⟨i, rfl⟩ : ∃ i : Nat, ix = i := ⟨ix.toNat, by omega⟩
  obtain ⟨f1, _⟩ := Lib.indexByte_some hix
  obtain ⟨f3, f4⟩ := toList_by f1
  have := hR i f3
  rw [f4] at this
  have e : ((p : Int).toNat.toUInt8).toNat = p := by simp; omega
  omega
 go_enter Tryz.func49, Tryz.ntmps49
 go_wp2_with (go_at_call 68; refine (Any.stringslite_IndexByte Tryz.laysIndexByte R p _).mono ?_; rintro e w' ⟨rfl, rfl⟩; rw [hno])
 go_ret; exact ⟨rfl, rfl⟩
set_option maxRecDepth 100000 in
set_option maxHeartbeats 4000000 in
theorem indexRune_high (c : Nat) (h1 : 128 ≤ c) (h2 : c ≤ 2147483647) (w : World) :
  Calls Tryz.prog 34 #[.string marksB, .int .i32 (c : Int)] w fun e w' => e = .returned (.int .i64 (-1)) ∧ Below w.heap.size w w' := by
 have g0 : (0 : Int) ≤ (c : Int) := by omega
 have g1 : ¬ (c : Int) < 128 := by omega
 have hsz : marksB.size = 15 := rfl
 cases g2 : ((c : Int) == 65533)
 ·
  go_enter Tryz.func34, Tryz.ntmps34
  go_wp2_with fail; refine (validRune_any c _).mono ?_
  rintro e w1 ⟨rfl, rfl⟩
  cases hvb : (decide ((c : Int) < 55296) || (decide ((57343 : Int) < (c : Int)) && decide ((c : Int) ≤ 1114111)))
  ·
   go_wp2_with fail; go_ret; exact ⟨rfl, Below.refl _ _⟩
  go_wp2_with fail; obtain ⟨n, e1, e2, e3, e4⟩ := encode_last c h1
  go_step3
  go_wp2_with fail; obtain ⟨E, hE⟩ : ∃ E, Utf8.encode (c : Int) = E := ⟨_, rfl⟩
  rw [hE] at e1 e4 ⊢
  clear hE h1 h2 g0 g1 g2 hvb; go_loopw [9, 10] (fun i f wr => i = .int .i64 (n : Int) ∧ f = .int .i64 0 ∧ wr = w1) (fun _ _ _ => 0)
  case atStart => exact ⟨rfl, rfl, rfl⟩
  obtain ⟨rfl, rfl, rfl⟩ := hrel
  have hn1 : n < marksB.size := by rw [hsz]; omega
  have hn2 : n < E.size := by omega
  have i1 := run_index_at marksB n hn1
  have i2 := run_index_at E n hn2
  simp only [byA_eq hn1] at i1
  simp only [byA_eq hn2] at i2
  have hlo := marks_low n (by omega)
  have g6 : ((byA marksB n : Int) != (byA E n : Int)) = true := by simp; omega
  have hsl := slice_from marksB (i := n + 1) (by rw [hsz]; omega)
  rw [show ((n + 1 : Nat) : Int) = (n : Int) + 1 by omega] at hsl
  obtain ⟨R, hR0⟩ : ∃ R, Hid (marksB.extract (n + 1) marksB.size = R) := ⟨_, (rfl : marksB.extract (n + 1) marksB.size = marksB.extract (n + 1) marksB.size)⟩
  have hR : Hid (∀ j, j < R.size → byA R j < 128) := by
   intro j hj
   rw [← hR0.out] at hj ⊢
   rw [size_extract' (Nat.le_refl _), hsz] at hj
   rw [byA_extract (by rw [hsz]; omega) (Nat.le_refl _)]
   exact marks_low _ (by omega)
  rw [hR0.out] at hsl
  have t7 : IntKind.i64.wrap ((n : Int) + 1) = (n : Int) + 1 := by rw [IntKind.wrap_i64]; omega
  have hnI : (n : Int) < (marksB.size : Int) := by omega
  obtain ⟨p1, hp1⟩ : ∃ p1, byA marksB n = p1 := ⟨_, rfl⟩
  obtain ⟨p2, hp2⟩ : ∃ p2, byA E n = p2 := ⟨_, rfl⟩
  rw [hp1] at i1 g6
  rw [hp2] at i2 g6
  have hp256 : p2 < 256 := by rw [← hp2, ← byA_eq hn2]; exact UInt8.toNat_lt _
  have h128 : Hid (128 ≤ p2) := by rw [← hp2]; exact e4
  clear hp1 hp2 hlo e4; go_wp2_with fail; go_step3
  go_wp2_with fail; refine wp_region_held_drew (S := fun _ => True) (by kernel_rfl) ?_ (fun hHeld => ?_)
  ·
   trivial
  refine wpr 0 27 ?_; simp only [zs]; refine wpr 1 28 ?_; simp only [zs]; refine wpr 2 29 ?_; simp only [zs]; refine wpr 3 30 ?_; simp only [zs]; refine wpr 4 31 ?_; simp only [zs]; refine wpr 5 32 ?_; simp only [zs]; refine wpr 6 33 ?_; simp only [zs]; refine wpAnyH_done (by kernel_rfl) ?_ _
  go_wp2_with fail; refine wp_region_held_drew (S := fun _ => True) (by kernel_rfl) ?_ (fun hHeld => ?_)
  ·
   trivial
  refine wpr 0 34 ?_; simp only [zs]; refine wpr 1 35 ?_; simp only [zs]; refine wpr 2 36 ?_; simp only [zs]; refine wpr 3 37 ?_; simp only [zs]; refine wpr 4 38 ?_; simp only [zs]; refine wpr 5 39 ?_; simp only [zs]; refine wpr 6 40 ?_; simp only [zs]; refine wpy 7 fun K hK => ?_
  go_simp; refine (indexByte_none R p2 hR.out h128.out hp256 _).mono ?_
  rintro e w2 ⟨rfl, rfl⟩
  refine hK.out _ _ ?_ (fun hHeld => ?_)
  ·
   trivial
  clear hK K; try simp only [zs]
  refine wpr 8 11 ?_; simp only [zs]; refine wpAnyH_done (by kernel_rfl) ?_ _
  go_wp2_with fail; rw [Exit.noGoto_ret]
  simp +zetaDelta only [Exit.inBlock, Exit.then, Exit.noGoto_ret]
  go_ret; exact ⟨rfl, by (repeat (first | with_reducible exact Below.refl _ _ | with_reducible refine bl_alloc ?_ _ | with_reducible refine bl_drewN ?_ _ | with_reducible refine bl_drew ?_ | with_reducible refine bl_setCell ?_ (by first | exact Nat.le_refl _ | (dsimp only; omega) | (simp <;> omega)) _ | with_reducible refine bl_trans ?_ (by with_reducible assumption)))⟩
 go_enter Tryz.func34, Tryz.ntmps34
 go_wp2_with fail; go_loopw [] (fun wr => ∃ k : Nat, k ≤ 15 ∧ wr = w.iter marksB k) (fun wr => 15 - wr.iterPos w.heap.size)
 case atStart => exact ⟨0, Nat.zero_le _, rfl⟩
 obtain ⟨k, hk, rfl⟩ := hrel
 by_cases hlt : k < marksB.size
 ·
  have hlow := marks_low k (by omega)
  rw [← byA_eq hlt] at hlow
  have hnx := fun ty => run_next_ascii (P := Tryz.prog) w marksB k ty hlt hlow
  obtain ⟨d, hd⟩ : ∃ d, (marksB[k]'hlt).toNat = d := ⟨_, rfl⟩
  rw [hd] at hlow
  simp only [hd] at hnx
  have g3 : ((d : Int) == 65533) = false := by simp; omega
  clear hd; go_wp2_with fail; go_roundw
  case rel => exact ⟨k + 1, by omega, rfl⟩
  case measure => simp; omega
 have hnx := fun ty => run_next_end (P := Tryz.prog) w marksB k ty hlt
 go_wp2_with fail; go_ret; exact ⟨rfl, bl_alloc (Below.refl _ _) _⟩
set_option maxHeartbeats 1000000 in
theorem containsHigh (c : Nat) (h1 : 128 ≤ c) (h2 : c ≤ 2147483647) (w : World) :
  Calls Tryz.prog 23 #[.string marksB, .int .i32 (c : Int)] w fun e w' => e = .returned (.bool false) ∧ Below w.heap.size w w' := by
 go_enter Tryz.func23, Tryz.ntmps23
 go_wp2_with fail; refine (indexRune_high c h1 h2 _).mono ?_
 rintro e w1 ⟨rfl, hb⟩
 go_wp2_with fail; go_ret; exact ⟨rfl, hb⟩
theorem hasPrefix_any (s p : ByteArray) (w : World) :
  Calls Tryz.prog 40 #[.string s, .string p] w fun e w' => e = .returned (.bool (Lib.hasPrefix s.data.toList p.data.toList)) ∧ w' = w := Any.strings_HasPrefix Tryz.laysHasPrefix s p w
set_option maxHeartbeats 1000000 in
theorem clone_any (s : ByteArray) (hs : s.size ≤ 4000) (w : World) :
  Calls Tryz.prog 53 #[.string s] w fun e w' => e = .returned (.string s) ∧ Below w.heap.size w w' := by
 go_enter Tryz.func53, Tryz.ntmps53
 go_wp2_with fail; refine (Any.stringslite_Clone Tryz.laysClone s _ (by omega)).mono ?_
 rintro e w1 ⟨rfl, hb⟩
 go_wp2_with fail; go_ret; exact ⟨rfl, hb⟩
end
section
open Go.RowKit
theorem slice_at (s : ByteArray) {i j : Nat} (hij : i ≤ j) (hj : j ≤ s.size) (W : World) : (Instr.slice 9 (.string s) (some (.int .i64 (i : Int))) (some (.int .i64 (j : Int))) none).run Tryz.prog W = .ok (.string (s.extract i j)) W := by
 rw [run_slice_string W 9 s .i64 .i64 i j Tryz.underlying9 (by omega) (by omega) (by omega)]
 simp
theorem Blk.five {w : World} {n : Nat} {a b c d e : Value} {t : TypeId} (h : Blk w n #[a, b, c, d, e] t) : w.cell? ⟨n, 0, none⟩ = some a ∧ w.cell? ⟨n, 1, none⟩ = some b ∧ w.cell? ⟨n, 2, none⟩ = some c ∧ w.cell? ⟨n, 3, none⟩ = some d ∧ w.cell? ⟨n, 4, none⟩ = some e ∧ ∀ o, w.frozen? ⟨n, o, none⟩ = false := ⟨h.cell 0, h.cell 1, h.cell 2, h.cell 3, h.cell 4, h.frozen⟩
end
section
open Go.RowKit
theorem endF_le {s : ByteArray} {k e : Nat} {pt : Bool} {t : Tk} {j : Nat} (h : e ≤ s.size) (h0 : endF s k e pt = (0, some t, j)) : j ≤ s.size := by
 revert h0
 unfold endF
 repeat' split
 all_goals simp
 all_goals omega
theorem stepF_le {s : ByteArray} {k : Nat} {t : Tk} {j : Nat} (hk : k < s.size) (h0 : stepF s k = (0, some t, j)) : j ≤ s.size := by
 revert h0
 unfold stepF
 split
 ·
  intro h; simp at h
 split
 ·
  intro h; simp at h
 split
 ·
  have := runE_le (p := letB) (s := s) (k := k) (by omega)
  split
  ·
   intro h; simp at h; omega
  split
  ·
   intro h; simp at h
  intro h; simp at h; omega
 split
 ·
  unfold numF
  have h1 := runE_le (p := dgB) (s := s) (k := k) (by omega)
  split
  ·
   rename_i hp
   intro h
   refine endF_le (runE_le ?_) h
   unfold ptB at hp
   simp at hp; omega
  intro h
  exact endF_le h1 h
 split
 ·
  rename_i h
  simp only [Bool.and_eq_true, decide_eq_true_eq] at h
  intro hh; simp at hh; omega
 split
 ·
  intro h; simp at h; omega
 intro h; simp at h
theorem wpList_append_tok {w : World} {ops : Array Oper} {rest : List Oper} {o : Oper} {a : Act} {Q : Exit → Act → World → Prop}
  (hgd : o.guard = none) (s x : Operand) (hop : o.op = Op.call { callee := Callee.builtin Builtin.append, args := #[s, x], argTypes := #[32, 32] })
  (Bs : Nat) (s0 : Option Addr) (c0 : Nat) (L : List Tk) (hs : a.eval s = .slice s0 L.length c0) (hv : OT w Bs (.slice s0 L.length c0) L) (b : Nat) (t : Tk) (hx : a.eval x = .slice (some ⟨b, 0, none⟩) 1 1) (hb : Blk w b #[.int .i64 t.1, .int .i64 t.2.1, .string t.2.2.1, .int .i64 t.2.2.2.1, .float .f64 t.2.2.2.2] 38) (R : List Tk) (hR : L ++ [t] = R) (hl : L.length ≤ 4194304) (hB : Bs ≤ w.heap.size)
  (h : ∀ s' c' w', OT w' Bs (.slice s' R.length c') R → w.grownBy w' (Value.slice s0 L.length c0).ownBlock → Near w (.slice s0 L.length c0) (.slice s' R.length c') → wpList Tryz.prog ops Q rest (a.put o.dst (.slice s' R.length c')) w') :
  wpList Tryz.prog ops Q (o :: rest) a w := by
 refine wpList_plain hgd fun K hK => ?_
 obtain ⟨s', c', w', hrun, h1, h2, h3⟩ := append_tok w o.type Bs s0 c0 L hv b t hb hl hB
 rw [hR] at hrun h1 h3
 unfold Oper.wp
 simp [execOp, hop, resolve, invoke, builtin, hs, hx, hrun, Result.andThen]
 exact hK _ _ (h s' c' w' h1 h2 h3)
def lexAll (s : ByteArray) : Int × Int × List Tk := if 4000 < s.size then (1, 0, []) else full s 0 []
def LexSays (s : ByteArray) (B : Nat) (e : Ending) (w' : World) : Prop :=
 ∃ (sl : Option Addr) (cp : Nat) (c p : Int) (L : List Tk), e = .returned (.tuple #[.slice sl L.length cp, .int .i64 c, .int .i64 p]) ∧ lexAll s = (c, p, L) ∧ OT w' B (.slice sl L.length cp) L ∧ L.length ≤ 4000
theorem OT.nil (w : World) (B : Nat) : OT w B (.slice none 0 0) [] := ⟨rfl, Or.inl ⟨rfl, rfl⟩⟩
theorem OT.empty {w : World} {b : Nat} (h : Blk w b #[] 38) : OT w b (.slice (some ⟨b, 0, none⟩) 0 0) [] := ⟨rfl, Or.inr ⟨b, 0, _, rfl, Nat.le_refl _, h, Nat.le_refl _, by unfold maxLen; omega, rfl, rfl⟩⟩
end
end Go.Proofs.YtkkofminndboaaaGreatDoor
