import Derived.Test.YtkkofminndboaaaGreatDoorSb22
namespace Go.Proofs.YtkkofminndboaaaGreatDoor
open Go.RowKit
set_option linter.unusedVariables false
set_option linter.unusedSimpArgs false
theorem letB_high {c : Nat} (h : 128 ≤ c) : letB c = false := by
 unfold letB
 rw [show decide ((c : Int) ≤ 122) = false by simp; omega, show decide ((c : Int) ≤ 90) = false by simp; omega]
 simp
theorem isBl_high {c : Nat} (h : 128 ≤ c) : isBl c = false := by
 unfold isBl
 rw [show decide (c = 9) = false by simp; omega, show decide (c = 10) = false by simp; omega, show decide (c = 32) = false by simp; omega]
 rfl
theorem enters_isLetter : ∀ args w, (callFunc 21 args).run Tryz.prog w = .ok (.enter 21 args) w := enters_of Tryz.func21 (by kernel_rfl) rfl
theorem enters_isBlank : ∀ args w, (callFunc 19 args).run Tryz.prog w = .ok (.enter 19 args) w := enters_of Tryz.func19 (by kernel_rfl) rfl
section
variable (sb : Nat) (s : ByteArray) (v1 v2 v3 : Value) (k : Nat) (hk : k ≤ s.size) (hs : s.size ≤ 4000) (w : World) (hK : Blk w sb #[.string s, v1, v2, v3] 48)
theorem behind_let (hk : k ≤ s.size) (hs : s.size ≤ 4000) (hK : Blk w sb #[.string s, v1, v2, v3] 48) : Calls Tryz.prog 18 #[.pointer (some ⟨sb, 0, none⟩), .int .i64 (k : Int), .func (.func 21) #[] #[]] w fun e w' => e = .returned (.int .i64 (runE letB s k : Nat)) ∧ Below w.heap.size w w' :=
 behind_any letB 21 (fun t w => runOf_any letB 21 isLetter_any (fun c h => letB_high h) t w enters_isLetter) sb s v1 v2 v3 k hk hs w hK
theorem behind_dig (hk : k ≤ s.size) (hs : s.size ≤ 4000) (hK : Blk w sb #[.string s, v1, v2, v3] 48) : Calls Tryz.prog 18 #[.pointer (some ⟨sb, 0, none⟩), .int .i64 (k : Int), .func (.func 22) #[] #[]] w fun e w' => e = .returned (.int .i64 (runE dgB s k : Nat)) ∧ Below w.heap.size w w' :=
 behind_any dgB 22 (fun t w => runOf_any dgB 22 isDigit_any (fun c h => dgB_high h) t w enters_isDigit) sb s v1 v2 v3 k hk hs w hK
theorem behind_bl (hk : k ≤ s.size) (hs : s.size ≤ 4000) (hK : Blk w sb #[.string s, v1, v2, v3] 48) : Calls Tryz.prog 18 #[.pointer (some ⟨sb, 0, none⟩), .int .i64 (k : Int), .func (.func 19) #[] #[]] w fun e w' => e = .returned (.int .i64 (runE isBl s k : Nat)) ∧ Below w.heap.size w w' :=
 behind_any isBl 19 (fun t w => runOf_any isBl 19 isBlank_any (fun c h => isBl_high h) t w enters_isBlank) sb s v1 v2 v3 k hk hs w hK
theorem behind_line (hk : k ≤ s.size) (hs : s.size ≤ 4000) (hK : Blk w sb #[.string s, v1, v2, v3] 48) : Calls Tryz.prog 18 #[.pointer (some ⟨sb, 0, none⟩), .int .i64 (k : Int), .func (.func 24) #[] #[]] w fun e w' => e = .returned (.int .i64 (runE inLn s k : Nat)) ∧ Below w.heap.size w w' :=
 behind_any inLn 24 (fun t w => runOf_line t w) sb s v1 v2 v3 k hk hs w hK
end
theorem pre_two {s : ByteArray} {k : Nat} (hk : k ≤ s.size) (a b : UInt8) : Lib.hasPrefix (s.extract k s.size).data.toList (ByteArray.mk #[a, b]).data.toList = (decide (k + 1 < s.size) && decide (byA s k = a.toNat) && decide (byA s (k + 1) = b.toNat)) := by
 have e : (s.extract k s.size).data.toList = s.data.toList.drop k := by
  rw [ByteArray.data_extract, Array.toList_extract, List.extract_eq_take_drop, List.take_of_length_le (by rw [List.length_drop, list_len]; exact Nat.le_refl _)]
 rw [e]
 have l0 : s.data.toList.length = s.size := list_len s
 by_cases h1 : k + 1 < s.size
 ·
  have g0 := toList_at (s := s) (k := k) (by omega)
  have g1 := toList_at h1
  rw [List.getElem?_eq_some_iff] at g0 g1
  obtain ⟨p0, q0⟩ := g0
  obtain ⟨p1, q1⟩ := g1
  rw [List.drop_eq_getElem_cons p0, List.drop_eq_getElem_cons p1, q0, q1]
  rw [← byA_eq (s := s) (k := k) (by omega), ← byA_eq h1]
  simp only [Lib.hasPrefix, List.isPrefixOf, h1, decide_true, Bool.true_and]
  rw [Bool.eq_iff_iff]
  simp only [Bool.and_eq_true, beq_iff_eq, decide_eq_true_eq, and_true]
  constructor
  ·
   rintro ⟨rfl, rfl⟩; exact ⟨rfl, rfl⟩
  rintro ⟨e1, e2⟩; exact ⟨(UInt8.toNat_inj.1 e1).symm, (UInt8.toNat_inj.1 e2).symm⟩
 rw [show decide (k + 1 < s.size) = false by simp; omega]
 simp only [Bool.false_and]
 have hl : (s.data.toList.drop k).length ≤ 1 := by rw [List.length_drop, l0]; omega
 match s.data.toList.drop k, hl with
 | [], _ => rfl
 | [x], _ => simp [Lib.hasPrefix, List.isPrefixOf]
theorem pre_one {s : ByteArray} {k : Nat} (hk : k ≤ s.size) (a : UInt8) : Lib.hasPrefix (s.extract k s.size).data.toList (ByteArray.mk #[a]).data.toList = (decide (k < s.size) && decide (byA s k = a.toNat)) := by
 have e : (s.extract k s.size).data.toList = s.data.toList.drop k := by
  rw [ByteArray.data_extract, Array.toList_extract, List.extract_eq_take_drop, List.take_of_length_le (by rw [List.length_drop, list_len]; exact Nat.le_refl _)]
 rw [e]
 have l0 : s.data.toList.length = s.size := list_len s
 by_cases h1 : k < s.size
 ·
  have g0 := toList_at h1
  rw [List.getElem?_eq_some_iff] at g0
  obtain ⟨p0, q0⟩ := g0
  rw [List.drop_eq_getElem_cons p0, q0, ← byA_eq h1]
  simp only [Lib.hasPrefix, List.isPrefixOf, h1, decide_true, Bool.true_and]
  rw [Bool.eq_iff_iff]
  simp only [Bool.and_eq_true, beq_iff_eq, decide_eq_true_eq, and_true]
  constructor
  ·
   rintro rfl; rfl
  intro e1; exact (UInt8.toNat_inj.1 e1).symm
 rw [show decide (k < s.size) = false by simp; omega]
 rw [List.drop_eq_nil_of_le (by omega)]
 rfl
theorem let_facts {c : Nat} (h : letB c = true) : isBl c = false ∧ decide (c = 35) = false := by
 unfold letB at h
 simp at h
 refine ⟨?_, by simp; omega⟩
 unfold isBl
 simp; omega
theorem dig_facts {c : Nat} (h : dgB c = true) : isBl c = false ∧ decide (c = 35) = false ∧ letB c = false := by
 rw [dgB_iff] at h
 refine ⟨?_, by simp; omega, ?_⟩
 ·
  unfold isBl; simp; omega
 unfold letB; simp; omega
def Took (W Y : World) (sb mb : Nat) (s : ByteArray) (k : Nat) (L : List Tk) : Prop := ∃ s' c' t j, stepF s k = (0, some t, j) ∧ Sn W Y sb mb s j s' c' (L ++ [t])
set_option maxRecDepth 100000 in
set_option maxHeartbeats 4000000 in
theorem takeMark_any (W X : World) (sb mb : Nat) (s : ByteArray) (k : Nat) (s1 : Option Addr) (c1 : Nat) (L : List Tk) (hS : Sn W X sb mb s k s1 c1 L) (hk : k < s.size) (hs : s.size ≤ 4000) (hl : L.length ≤ 4000) (h1 : isBl (byA s k) = false) (h2 : decide (byA s k = 35) = false) (h3 : letB (byA s k) = false) (h4 : dgB (byA s k) = false) (h5 : isMk (byA s k) = true) :
  Calls Tryz.prog 27 #[.pointer (some ⟨sb, 0, none⟩)] X fun r Y => r = .returned (.tuple #[]) ∧ Took W Y sb mb s k L := by
 obtain ⟨x0, x1, x2, x3, x4⟩ := hS.k.four'
 have hsl := slice_from s (Nat.le_of_lt hk)
 obtain ⟨T, hT⟩ : ∃ T, Hid (s.extract k s.size = T) := ⟨_, (rfl : s.extract k s.size = s.extract k s.size)⟩
 obtain ⟨b2, hP⟩ : ∃ b2, Hid (Lib.hasPrefix T.data.toList (ByteArray.mk #[61, 61]).data.toList = b2) := ⟨_, (rfl : Lib.hasPrefix T.data.toList (ByteArray.mk #[61, 61]).data.toList = _)⟩
 have hb2 : Hid (b2 = (decide (k + 1 < s.size) && decide (byA s k = 61) && decide (byA s (k + 1) = 61))) := by
  show b2 = _
  rw [← hP.out, ← hT.out]; exact pre_two (Nat.le_of_lt hk) 61 61
 have hst : Hid (stepF s k = if b2 then (0, some (5, (k : Int), s.extract k (k + 2), 0, 0), k + 2) else (0, some (5, (k : Int), s.extract k (k + 1), 0, 0), k + 1)) := by
  show stepF s k = _
  unfold stepF
  rw [h1, h2, h3, h4, h5, hb2.out]
  have e : (decide (byA s k = 61) && decide (k + 1 < s.size) && decide (byA s (k + 1) = 61)) = (decide (k + 1 < s.size) && decide (byA s k = 61) && decide (byA s (k + 1) = 61)) := by
   cases decide (byA s k = 61) <;> cases decide (k + 1 < s.size) <;> rfl
  rw [e]
  rfl
 have hz : Hid (b2 = true → k + 2 ≤ s.size) := by
  intro e
  have := hb2.out
  rw [e] at this
  simp at this
  omega
 rw [hT.out] at hsl
 clear h1 h2 h3 h4 h5 hb2; have y0 := x0
 go_enter Tryz.func27, Tryz.ntmps27
 go_wp2_with fail; refine wp_region_held_drew (S := fun w' => w'.cell? ⟨sb, 0, none⟩ = some (.string s) ∧ w'.cell? ⟨sb, 1, none⟩ = some (.int .i64 (k : Int))) (by kernel_rfl) ?_ (fun hHeld => ?_)
 ·
  exact ⟨x0, x1⟩
 refine wpr 0 3 ?_; simp only [zs]; refine wpr 1 4 ?_; simp only [zs]; refine wpr 2 5 ?_; simp only [zs]; refine wpr 3 6 ?_; simp only [zs]; refine wpr 4 7 ?_; simp only [zs]; refine wpr 5 8 ?_; simp only [zs]; refine wpr 6 9 ?_; simp only [zs]; refine wpr 7 10 ?_; simp only [zs]; refine wpr 8 11 ?_; simp only [zs]; refine wpy 9 fun K hK => ?_
 go_simp; refine (hasPrefix_any T _ _).mono ?_
 rintro e w1 ⟨rfl, rfl⟩
 rw [hP.out]
 refine hK.out _ _ ?_ (fun hHeld => ?_)
 ·
  exact ⟨x0, x1⟩
 clear hK K; try simp only [zs]
 refine wpAnyH_done (by kernel_rfl) ?_ _
 have HS : Hid (Sn W X.drew sb mb s k s1 c1 L) := hS.drew
 cases b2
 ·
  have t1 : IntKind.i64.wrap ((k : Int) + 1) = ((k + 1 : Nat) : Int) := by rw [IntKind.wrap_i64]; omega
  go_wp2_with fail; refine (take_any W _ sb mb s k (k + 1) s1 c1 L 5 0 0 HS.out (by omega) (by omega) hs hl).mono ?_
  rintro e w2 ⟨rfl, s', c', hS2⟩
  go_wp2_with fail; go_end0
  exact ⟨rfl, s', c', _, _, hst.out, hS2⟩
 have t1 : IntKind.i64.wrap ((k : Int) + 2) = ((k + 2 : Nat) : Int) := by rw [IntKind.wrap_i64]; omega
 have := hz.out rfl
 go_wp2_with fail; refine (take_any W _ sb mb s k (k + 2) s1 c1 L 5 0 0 HS.out (by omega) (by omega) hs hl).mono ?_
 rintro e w2 ⟨rfl, s', c', hS2⟩
 go_wp2_with fail; go_end0
 exact ⟨rfl, s', c', _, _, hst.out, hS2⟩
def Tried (W Y : World) (sb mb : Nat) (s : ByteArray) (k : Nat) (s1 : Option Addr) (c1 : Nat) (L : List Tk) (c : Int) (r : Ending) : Prop :=
 (r = .returned (.bool true) ∧ Took W Y sb mb s k L) ∨ (r = .returned (.bool false) ∧ stepF s k = (c, none, 0) ∧ Sn W Y sb mb s k s1 c1 L)
set_option maxRecDepth 100000 in
set_option maxHeartbeats 4000000 in
theorem takeName_any (W X : World) (sb mb : Nat) (s : ByteArray) (k : Nat) (s1 : Option Addr) (c1 : Nat) (L : List Tk) (hS : Sn W X sb mb s k s1 c1 L) (hk : k < s.size) (hs : s.size ≤ 4000) (hl : L.length ≤ 4000) (h1 : letB (byA s k) = true) :
  Calls Tryz.prog 25 #[.pointer (some ⟨sb, 0, none⟩)] X fun r Y => Tried W Y sb mb s k s1 c1 L 4 r := by
 obtain ⟨x0, x1, x2, x3, x4⟩ := hS.k.four'
 obtain ⟨E, hE⟩ : ∃ E, Hid (runE letB s k = E) := ⟨_, (rfl : runE letB s k = _)⟩
 have hEk : k ≤ E := by rw [← hE.out]; exact runE_ge _ _ _
 have hEs : E ≤ s.size := by rw [← hE.out]; exact runE_le (by omega)
 have hst : Hid (stepF s k = if isW (s.extract k E) then (0, some (2, (k : Int), s.extract k E, 0, 0), E) else if decide (12 < E - k) then (4, none, 0) else (0, some (1, (k : Int), s.extract k E, 0, 0), E)) := by
  show stepF s k = _
  unfold stepF
  rw [(let_facts h1).1, (let_facts h1).2, h1, hE.out]
  rfl
 clear h1; go_enter Tryz.func25, Tryz.ntmps25
 go_wp2_with fail; refine (behind_let sb s _ _ _ k _ (Nat.le_of_lt hk) hs hS.k).mono ?_
 rintro e w1 ⟨rfl, hb1⟩
 rw [hE.out]
 have HS := hS.later hb1
 have hsl := slice_at s hEk hEs
 clear x0 x1 x2 x3 x4 hS hb1; obtain ⟨x0, x1, x2, x3, x4⟩ := HS.k.four'
 obtain ⟨T, hT⟩ : ∃ T, Hid (s.extract k E = T) := ⟨_, (rfl : s.extract k E = s.extract k E)⟩
 have hTz : Hid (T.size = E - k) := by show T.size = _; rw [← hT.out]; exact size_extract' hEs
 have hT12 : decide ((12 : Int) < (T.size : Int)) = decide (12 < E - k) := by rw [hTz.out, decide_eq_decide]; omega
 rw [hT.out] at hsl hst
 have hlk := word_look HS.m T (by have := hTz.out; unfold maxLen; omega)
 obtain ⟨b1, hb1⟩ : ∃ b1, isW T = b1 := ⟨_, rfl⟩
 rw [hb1] at hlk hst
 go_wp2_with fail; refine wp_region_held_drew (S := fun w' => w'.cell? ⟨sb, 0, none⟩ = some (.string s) ∧ w'.cell? ⟨sb, 1, none⟩ = some (.int .i64 (k : Int))) (by kernel_rfl) ?_ (fun hHeld => ?_)
 ·
  exact ⟨x0, x1⟩
 refine wpr 0 13 ?_; simp only [zs]; refine wpr 1 14 ?_; simp only [zs]; refine wpr 2 15 ?_; simp only [zs]; refine wpr 3 16 ?_; simp only [zs]; refine wpr 4 17 ?_; simp only [zs]; refine wpr 5 18 ?_; simp only [zs]; refine wpr 6 19 ?_; simp only [zs]; refine wpr 7 20 ?_; simp only [zs]; refine wpr 8 21 ?_; simp only [zs]; refine wpr 9 22 ?_; simp only [zs]; refine wpr 10 4 ?_; simp only [zs]; refine wpAnyH_done (by kernel_rfl) ?_ _
 have HS : Sn W w1.drew sb mb s k s1 c1 L := HS.drew
 generalize hGd : w1.drew = w2 at HS hHeld ⊢
 clear hGd x0 x1 x2 x3 x4; have hlk := word_look HS.m T (by have := hTz.out; unfold maxLen; omega)
 rw [hb1] at hlk
 obtain ⟨x0, x1, x2, x3, x4⟩ := HS.k.four'
 clear hHeld; cases b1
 ·
  cases b3 : decide (12 < E - k)
  ·
   rw [b3] at hst hT12
   go_wp2_with fail; refine (take_any W _ sb mb s k E s1 c1 L 1 0 0 (HS.alloc _) hEk hEs hs hl).mono ?_
   rintro e w3 ⟨rfl, s', c', hS2⟩
   rw [hT.out] at hS2
   go_wp2_with fail; go_ret; exact Or.inl ⟨rfl, s', c', _, _, hst.out, hS2⟩
  rw [b3] at hst hT12
  go_wp2_with fail; go_ret; exact Or.inr ⟨rfl, hst.out, HS.alloc _⟩
 go_wp2_with fail; refine (take_any W _ sb mb s k E s1 c1 L 2 0 0 (HS.alloc _) hEk hEs hs hl).mono ?_
 rintro e w3 ⟨rfl, s', c', hS2⟩
 rw [hT.out] at hS2
 go_wp2_with fail; go_ret; exact Or.inl ⟨rfl, s', c', _, _, hst.out, hS2⟩
def numE (s : ByteArray) (k : Nat) : Nat × Bool := if ptB s (runE dgB s k) then (runE dgB s (runE dgB s k + 1), true) else (runE dgB s k, false)
set_option maxRecDepth 100000 in
set_option maxHeartbeats 4000000 in
theorem numberEnd_any (sb : Nat) (s : ByteArray) (k : Nat) (v2 v3 : Value) (hk : k < s.size) (hs : s.size ≤ 4000) (X : World) (hK : Blk X sb #[.string s, .int .i64 (k : Int), v2, v3] 48) :
  Calls Tryz.prog 36 #[.pointer (some ⟨sb, 0, none⟩)] X fun r Y => r = .returned (.tuple #[.int .i64 ((numE s k).1 : Nat), .bool (numE s k).2]) ∧ Below X.heap.size X Y := by
 obtain ⟨x0, x1, x2, x3, x4⟩ := hK.four'
 obtain ⟨E, hE⟩ : ∃ E, Hid (runE dgB s k = E) := ⟨_, (rfl : runE dgB s k = _)⟩
 have hEs : E ≤ s.size := by rw [← hE.out]; exact runE_le (by omega)
 have hN : Hid (numE s k = if ptB s E then (runE dgB s (E + 1), true) else (E, false)) := by show numE s k = _; unfold numE; rw [hE.out]
 go_enter Tryz.func36, Tryz.ntmps36
 go_wp2_with fail; refine (behind_dig sb s _ _ _ k _ (Nat.le_of_lt hk) hs hK).mono ?_
 rintro e w1 ⟨rfl, hb1⟩
 rw [hE.out]
 have K1 := hK.later hb1
 have hsl := slice_from s hEs
 obtain ⟨T, hT⟩ : ∃ T, Hid (s.extract E s.size = T) := ⟨_, (rfl : s.extract E s.size = s.extract E s.size)⟩
 rw [hT.out] at hsl
 clear x0 x1 x2 x3 x4 hK; obtain ⟨x0, x1, x2, x3, x4⟩ := K1.four'
 go_wp2_with fail; refine (hasPrefix_any T _ _).mono ?_
 rintro e w2 ⟨rfl, rfl⟩
 rw [← hT.out, show Lib.hasPrefix (s.extract E s.size).data.toList (ByteArray.mk #[46]).data.toList = _ from pre_one hEs 46]
 by_cases hp : E < s.size ∧ byA s E = 46
 ·
  rw [show (decide (E < s.size) && decide (byA s E = (46 : UInt8).toNat)) = true by simp [hp.1]; exact hp.2]
  have t1 : IntKind.i64.wrap ((E : Int) + 1) = ((E + 1 : Nat) : Int) := by rw [IntKind.wrap_i64]; omega
  obtain ⟨F, hF⟩ : ∃ F, Hid (runE dgB s (E + 1) = F) := ⟨_, (rfl : runE dgB s (E + 1) = _)⟩
  have hFE : E + 1 ≤ F := by rw [← hF.out]; exact runE_ge _ _ _
  have hPT : Hid (ptB s E = decide (E + 1 < F)) := by
   show ptB s E = _
   unfold ptB
   rw [← hF.out]
   by_cases h1 : E + 1 < s.size
   ·
    cases hd : dgB (byA s (E + 1))
    ·
     rw [runE_no (fun _ => hd)]; simp
    have := runE_gt h1 hd
    simp [h1, hp.2, this]
   rw [runE_no (fun h => absurd h h1)]; simp; omega
  have hp1 := hp.1
  clear hp; go_wp2_with fail; refine (behind_dig sb s _ _ _ (E + 1) _ (by omega) hs K1).mono ?_
  rintro e w3 ⟨rfl, hb3⟩
  rw [hF.out]
  have L3 := bl_trans hb1 hb3
  clear hb1 hb3 x0 x1 x2 x3 x4 K1; by_cases hg : E + 1 < F
  ·
   have t2 : decide (((E + 1 : Nat) : Int) < (F : Int)) = true := by simp; omega
   go_wp2_with fail; go_ret2
   refine ⟨?_, L3⟩
   rw [hN.out, hPT.out, show decide (E + 1 < F) = true by simp [hg], hF.out]
   rfl
  have t2 : decide (((E + 1 : Nat) : Int) < (F : Int)) = false := by simp; omega
  go_wp2_with fail; go_ret2
  refine ⟨?_, L3⟩
  rw [hN.out, hPT.out, show decide (E + 1 < F) = false by simp [hg]]
  rfl
 have hz : (decide (E < s.size) && decide (byA s E = (46 : UInt8).toNat)) = false := by
  rw [Bool.eq_false_iff]
  intro h
  simp at h
  exact hp h
 rw [hz]
 have hPT : Hid (ptB s E = false) := by
  show ptB s E = _
  unfold ptB
  rw [Bool.eq_false_iff]
  intro h
  simp at h
  exact hp ⟨by omega, h.1.2⟩
 clear hp hz; go_wp2_with fail; go_ret2
 refine ⟨?_, hb1⟩
 rw [hN.out, hPT.out]
 rfl
set_option maxRecDepth 100000 in
set_option maxHeartbeats 8000000 in
theorem takeNumber_any (W X : World) (sb mb : Nat) (s : ByteArray) (k : Nat) (s1 : Option Addr) (c1 : Nat) (L : List Tk) (hS : Sn W X sb mb s k s1 c1 L) (hk : k < s.size) (hs : s.size ≤ 4000) (hl : L.length ≤ 4000) (h1 : dgB (byA s k) = true) :
  Calls Tryz.prog 26 #[.pointer (some ⟨sb, 0, none⟩)] X fun r Y => Tried W Y sb mb s k s1 c1 L 3 r := by
 obtain ⟨E, pt, hN⟩ : ∃ E pt, Hid (numE s k = (E, pt)) := ⟨_, _, (rfl : numE s k = ((numE s k).1, (numE s k).2))⟩
 have hst : Hid (stepF s k = endF s k E pt) := by
  show stepF s k = _
  unfold stepF
  rw [(dig_facts h1).1, (dig_facts h1).2.1, (dig_facts h1).2.2, h1]
  show numF s k = _
  have := hN.out
  unfold numE at this
  unfold numF
  split at this
  ·
   rename_i h; simp only [Prod.mk.injEq] at this; obtain ⟨rfl, rfl⟩ := this; rw [if_pos h]
  rename_i h; simp only [Prod.mk.injEq] at this; obtain ⟨rfl, rfl⟩ := this; rw [if_neg h]
 have hEk : k < E := by
  have := hN.out
  have h2 := runE_gt hk h1
  unfold numE at this
  split at this
  ·
   simp only [Prod.mk.injEq] at this; obtain ⟨rfl, rfl⟩ := this; have := runE_ge dgB s (runE dgB s k + 1); omega
  simp only [Prod.mk.injEq] at this; obtain ⟨rfl, rfl⟩ := this; exact h2
 have hEs : E ≤ s.size := by
  have := hN.out
  have h2 := runE_le (p := dgB) (s := s) (k := k) (by omega)
  unfold numE at this
  split at this
  ·
   rename_i h
   simp only [Prod.mk.injEq] at this; obtain ⟨rfl, rfl⟩ := this
   refine runE_le ?_
   unfold ptB at h
   simp at h; omega
  simp only [Prod.mk.injEq] at this; obtain ⟨rfl, rfl⟩ := this; exact h2
 clear h1; go_enter Tryz.func26, Tryz.ntmps26
 go_wp2_with fail; refine (numberEnd_any sb s k _ _ hk hs _ hS.k).mono ?_
 rintro e w1 ⟨rfl, hb1⟩
 rw [hN.out]
 have HS := hS.later hb1
 clear hS hb1; obtain ⟨x0, x1, x2, x3, x4⟩ := HS.k.four'
 go_wp2_with fail; refine (behind_let sb s _ _ _ E _ hEs hs HS.k).mono ?_
 rintro e w2 ⟨rfl, hb2⟩
 have HS2 := HS.later hb2
 clear HS hb2 x0 x1 x2 x3 x4; obtain ⟨x0, x1, x2, x3, x4⟩ := HS2.k.four'
 obtain ⟨F, hF⟩ : ∃ F, Hid (runE letB s E = F) := ⟨_, (rfl : runE letB s E = _)⟩
 rw [hF.out]
 have hLT : Hid ((decide (E < s.size) && letB (byA s E)) = decide (E < F)) := by
  show _ = _
  rw [← hF.out]
  by_cases h1 : E < s.size
  ·
   cases hd : letB (byA s E)
   ·
    rw [runE_no (fun _ => hd)]; simp
   have := runE_gt h1 hd
   simp [h1, this]
  rw [runE_no (fun h => absurd h h1)]; simp; omega
 by_cases hg : E < F
 ·
  have t2 : decide ((E : Int) < (F : Int)) = true := by simp; omega
  go_wp2_with fail; go_ret; refine Or.inr ⟨rfl, ?_, HS2⟩
  rw [hst.out]
  unfold endF
  rw [hLT.out, show decide (E < F) = true by simp [hg]]
  rfl
 have t2 : decide ((E : Int) < (F : Int)) = false := by simp; omega
 have hst : Hid (stepF s k = if pt then ((match realV (s.extract k E) with
   | some r => (0, some (4, (k : Int), s.extract k E, 0, r), E)
   | none => (3, none, 0)) : Int × Option Tk × Nat)
  else if wholeB (s.extract k E) 15 then (0, some (3, (k : Int), s.extract k E, (((Lib.decFrom 0 (s.extract k E).data.toList).getD 0 : Nat) : Int), 0), E) else (3, none, 0)) := by
  show stepF s k = _
  rw [hst.out]
  unfold endF
  rw [hLT.out, show decide (E < F) = false by simp [hg]]
  rfl
 have hsl := slice_at s (Nat.le_of_lt hEk) hEs
 obtain ⟨T, hT⟩ : ∃ T, Hid (s.extract k E = T) := ⟨_, (rfl : s.extract k E = s.extract k E)⟩
 have hTz : Hid (T.size = E - k) := by show T.size = _; rw [← hT.out]; exact size_extract' hEs
 rw [hT.out] at hsl hst
 clear hLT hF; go_wp2_with fail; refine wp_region_held_drew (S := fun w' => w'.cell? ⟨sb, 0, none⟩ = some (.string s) ∧ w'.cell? ⟨sb, 1, none⟩ = some (.int .i64 (k : Int))) (by kernel_rfl) ?_ (fun hHeld => ?_)
 ·
  exact ⟨x0, x1⟩
 refine wpr 0 18 ?_; simp only [zs]; refine wpr 1 19 ?_; simp only [zs]; refine wpr 2 20 ?_; simp only [zs]; refine wpr 3 21 ?_; simp only [zs]; refine wpr 4 22 ?_; simp only [zs]; refine wpr 5 23 ?_; simp only [zs]; refine wpr 6 24 ?_; simp only [zs]; refine wpr 7 25 ?_; simp only [zs]; refine wpr 8 26 ?_; simp only [zs]; refine wpr 9 27 ?_; simp only [zs]; refine wpr 10 5 ?_; simp only [zs]; refine wpAnyH_done (by kernel_rfl) ?_ _
 have HS : Sn W w2.drew sb mb s k s1 c1 L := HS2.drew
 generalize hGd : w2.drew = w3 at HS hHeld ⊢
 clear hGd x0 x1 x2 x3 x4 HS2 hHeld; obtain ⟨x0, x1, x2, x3, x4⟩ := HS.k.four'
 cases pt
 ·
  go_wp2_with fail; refine (wholeDigits_any T 15 _).mono ?_
  rintro e w4 ⟨rfl, hb4⟩
  have HS4 := HS.later hb4
  clear HS hb4 x0 x1 x2 x3 x4; cases hw : wholeB T 15
  ·
   rw [hw] at hst
   go_wp2_with fail; go_ret; exact Or.inr ⟨rfl, hst.out, HS4⟩
  rw [hw] at hst
  have hall : ∀ c ∈ T.data.toList, dgB c.toNat = true := by
   intro c hc
   unfold wholeB onlyB at hw
   simp only [Bool.and_eq_true, decide_eq_true_eq] at hw
   obtain ⟨j, hj, rfl⟩ := List.getElem_of_mem hc
   have hj' : j < T.size := by rw [list_len] at hj; exact hj
   have h3 := hw.1.2 j hj'
   have h4 := toList_at hj'
   rw [List.getElem?_eq_some_iff] at h4
   obtain ⟨p, q⟩ := h4
   rw [q, dgAt_eq hj']
   exact h3
  obtain ⟨n, hn⟩ := dec_ex T.data.toList 0 hall
  have hz1 : 1 ≤ T.size ∧ T.size ≤ 18 := by
   unfold wholeB onlyB at hw
   simp only [Bool.and_eq_true, decide_eq_true_eq] at hw
   omega
  rw [hn] at hst
  have HN : Hid (numIs T n) := hn
  clear hn hall hw; go_wp2_with fail; refine (numberOf_any T n hz1.1 hz1.2 HN.out _).mono ?_
  rintro e w5 ⟨rfl, hb5⟩
  have HS5 := HS4.later hb5
  clear HS4 hb5; go_wp2_with fail; refine (take_any W _ sb mb s k E s1 c1 L 3 n 0 HS5 (Nat.le_of_lt hEk) hEs hs hl).mono ?_
  rintro e w6 ⟨rfl, s', c', hS6⟩
  rw [hT.out] at hS6
  go_wp2_with fail; go_ret; exact Or.inl ⟨rfl, s', c', _, _, hst.out, hS6⟩
 go_wp2_with fail; refine (implRealOf_any T (by have := hTz.out; omega) _).mono ?_
 rintro e w4 ⟨hR, hb4⟩
 have HS4 := HS.later hb4
 clear HS hb4 x0 x1 x2 x3 x4; obtain ⟨_, r, b, rfl, hr⟩ := hR.same hR
 cases b
 ·
  rw [realV_none hR] at hst
  clear hr hR; go_wp2_with fail; go_ret; exact Or.inr ⟨rfl, hst.out, HS4⟩
 rw [realV_some hR] at hst
 clear hr hR; go_wp2_with fail; refine (take_any W _ sb mb s k E s1 c1 L 4 0 r HS4 (Nat.le_of_lt hEk) hEs hs hl).mono ?_
 rintro e w6 ⟨rfl, s', c', hS6⟩
 rw [hT.out] at hS6
 go_wp2_with fail; go_ret; exact Or.inl ⟨rfl, s', c', _, _, hst.out, hS6⟩
end Go.Proofs.YtkkofminndboaaaGreatDoor
