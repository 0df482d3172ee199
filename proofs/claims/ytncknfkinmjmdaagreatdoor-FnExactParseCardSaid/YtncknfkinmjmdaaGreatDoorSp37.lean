import Derived.Test.YtncknfkinmjmdaaGreatDoorSp35
import Derived.Deep.CutRange
namespace Go.Proofs.YtncknfkinmjmdaaGreatDoor
open Go.RowKit
set_option linter.unusedVariables false
set_option linter.unusedSimpArgs false
theorem slice_at (s : ByteArray) {i j : Nat} (hij : i ≤ j) (hj : j ≤ s.size) (W : World) : (Instr.slice 9 (.string s) (some (.int .i64 (i : Int))) (some (.int .i64 (j : Int))) none).run Tryz.prog W = .ok (.string (s.extract i j)) W := by
 rw [run_slice_string W 9 s .i64 .i64 i j Tryz.underlying9 (by omega) (by omega) (by omega)]
 simp
theorem Blk.five {w : World} {n : Nat} {a b c d e : Value} {t : TypeId} (h : Blk w n #[a, b, c, d, e] t) : w.cell? ⟨n, 0, none⟩ = some a ∧ w.cell? ⟨n, 1, none⟩ = some b ∧ w.cell? ⟨n, 2, none⟩ = some c ∧ w.cell? ⟨n, 3, none⟩ = some d ∧ w.cell? ⟨n, 4, none⟩ = some e ∧ ∀ o, w.frozen? ⟨n, o, none⟩ = false := ⟨h.cell 0, h.cell 1, h.cell 2, h.cell 3, h.cell 4, h.frozen⟩
def mkTexts : List ByteArray := [⟨#[123]⟩, ⟨#[125]⟩, ⟨#[40]⟩, ⟨#[41]⟩, ⟨#[59]⟩, ⟨#[44]⟩, ⟨#[46]⟩, ⟨#[36]⟩, ⟨#[61, 61]⟩, ⟨#[61]⟩, ⟨#[43]⟩, ⟨#[45]⟩, ⟨#[42]⟩, ⟨#[47]⟩, ⟨#[37]⟩, ⟨#[60]⟩]
def mkAt (j : Nat) : ByteArray := mkTexts[j]?.getD ⟨#[]⟩
theorem mk_cells : mkTexts.length = 16 ∧ ∀ j, j < 16 → (mkTexts.map Value.string).toArray[j]? = some (.string (mkAt j)) := by
 refine ⟨rfl, fun j hj => ?_⟩
 match j, hj with
 | 0, _ => rfl
 | 1, _ => rfl
 | 2, _ => rfl
 | 3, _ => rfl
 | 4, _ => rfl
 | 5, _ => rfl
 | 6, _ => rfl
 | 7, _ => rfl
 | 8, _ => rfl
 | 9, _ => rfl
 | 10, _ => rfl
 | 11, _ => rfl
 | 12, _ => rfl
 | 13, _ => rfl
 | 14, _ => rfl
 | 15, _ => rfl
 | n + 16, h => exact absurd h (by omega)
set_option maxHeartbeats 2000000 in
theorem l7Marks_any (w : World) :
  Calls Tryz.prog 43 #[] w fun e w' => ∃ mb, e = .returned (.slice (some ⟨mb, 0, none⟩) 16 16) ∧ Blk w' mb (mkTexts.map Value.string).toArray 9 ∧ Below w.heap.size w w' := by
 go_enter Tryz.func43, Tryz.ntmps43
 go_wp2_with fail; go_ret; exact ⟨_, rfl, Blk.new _ _ _, bl_alloc (Below.refl _ _) _⟩
def mAt (s : ByteArray) (k j : Nat) : Prop := k + (mkAt j).size ≤ s.size ∧ s.extract k (k + (mkAt j).size) = mkAt j
theorem mk_size {j : Nat} (h : j < 16) : (mkAt j).size ≤ 2 := by
 match j, h with
 | 0, _ => decide
 | 1, _ => decide
 | 2, _ => decide
 | 3, _ => decide
 | 4, _ => decide
 | 5, _ => decide
 | 6, _ => decide
 | 7, _ => decide
 | 8, _ => decide
 | 9, _ => decide
 | 10, _ => decide
 | 11, _ => decide
 | 12, _ => decide
 | 13, _ => decide
 | 14, _ => decide
 | 15, _ => decide
 | n + 16, h => exact absurd h (by omega)
theorem ext_one {s : ByteArray} {k : Nat} (hk : k < s.size) : s.extract k (k + 1) = ⟨#[s[k]'hk]⟩ := by
 apply WideShapes.bytes_inj
 rw [list_extract (by omega)]
 have h1 := toList_at hk
 rw [List.getElem?_eq_some_iff] at h1
 obtain ⟨a, b⟩ := h1
 rw [List.drop_eq_getElem_cons a, b]
 simp
theorem ext_two {s : ByteArray} {k : Nat} (hk : k + 1 < s.size) : s.extract k (k + 2) = ⟨#[s[k]'(by omega), s[k + 1]'hk]⟩ := by
 apply WideShapes.bytes_inj
 rw [list_extract (by omega)]
 have h1 := toList_at (s := s) (k := k) (by omega)
 have h2 := toList_at hk
 rw [List.getElem?_eq_some_iff] at h1 h2
 obtain ⟨a, b⟩ := h1
 obtain ⟨c, d⟩ := h2
 rw [List.drop_eq_getElem_cons a, b, List.drop_eq_getElem_cons c, d]
 simp
def mkF (s : ByteArray) (k c : Nat) : Int × Option Tk × Nat := if decide (c = 61) && decide (k + 1 < s.size) && decide (byA s (k + 1) = 61) then (0, some (5, (k : Int), s.extract k (k + 2), 0, 0), k + 2) else if isMk c then (0, some (5, (k : Int), s.extract k (k + 1), 0, 0), k + 1) else (2, none, 0)
theorem two_iff {s : ByteArray} {k c : Nat} (hk : k < s.size) (hc : byA s k = c) : mAt s k 8 ↔ (c = 61 ∧ k + 1 < s.size ∧ byA s (k + 1) = 61) := by
 constructor
 ·
  rintro ⟨h1, h2⟩
  have h1' : k + 2 ≤ s.size := h1
  have h2' : s.extract k (k + 2) = ⟨#[61, 61]⟩ := h2
  rw [ext_two (by omega)] at h2'
  simp only [ByteArray.mk.injEq, Array.mk.injEq, List.cons.injEq, and_true] at h2'
  have e1 := byA_eq hk
  have e2 := byA_eq (s := s) (k := k + 1) (by omega)
  rw [h2'.1] at e1
  rw [h2'.2] at e2
  rw [hc] at e1
  exact ⟨e1.symm, by omega, e2.symm⟩
 rintro ⟨h1, h2, h3⟩
 refine ⟨(by show k + 2 ≤ s.size; omega), ?_⟩
 show s.extract k (k + 2) = ⟨#[61, 61]⟩
 rw [ext_two h2]
 have e1 : s[k]'hk = 61 := UInt8.toNat_inj.1 (by rw [byA_eq hk, hc, h1]; rfl)
 have e2 : s[k + 1]'h2 = 61 := UInt8.toNat_inj.1 (by rw [byA_eq h2, h3]; rfl)
 rw [e1, e2]
theorem one_iff {s : ByteArray} {k c j : Nat} {b : UInt8} (hk : k < s.size) (hc : byA s k = c) (hj : mkAt j = ⟨#[b]⟩) : mAt s k j ↔ c = b.toNat := by
 unfold mAt
 rw [hj]
 show (k + 1 ≤ s.size ∧ s.extract k (k + 1) = ⟨#[b]⟩) ↔ _
 rw [ext_one hk]
 simp only [ByteArray.mk.injEq, Array.mk.injEq, List.cons.injEq, and_true]
 have e1 := byA_eq hk
 rw [hc] at e1
 constructor
 ·
  rintro ⟨_, h⟩; rw [h] at e1; exact e1.symm
 intro h; exact ⟨by omega, UInt8.toNat_inj.1 (e1.trans h)⟩
theorem mk_one {s : ByteArray} {k c j : Nat} {b : UInt8} (hk : k < s.size) (hc : byA s k = c) (hj : mkAt j = ⟨#[b]⟩) (hm : mAt s k j) (hb : isMk b.toNat = true) (h8 : b.toNat = 61 → ¬ mAt s k 8) : mkF s k c = (0, some (5, (k : Int), mkAt j, 0, 0), k + (mkAt j).size) := by
 have e := (one_iff hk hc hj).1 hm
 have h2 := hm.2
 unfold mkF
 have hn : (decide (c = 61) && decide (k + 1 < s.size) && decide (byA s (k + 1) = 61)) = false := by
  cases hh : (decide (c = 61) && decide (k + 1 < s.size) && decide (byA s (k + 1) = 61)) with
  | false => rfl
  | true =>
   simp only [Bool.and_eq_true, decide_eq_true_eq] at hh
   exact absurd ((two_iff hk hc).2 ⟨hh.1.1, hh.1.2, hh.2⟩) (h8 (by rw [← e]; exact hh.1.1))
 rw [hn, e, hb]
 rw [hj] at h2 ⊢
 have h2' : s.extract k (k + 1) = ⟨#[b]⟩ := h2
 rw [h2']; rfl
theorem mk_hit {s : ByteArray} {k c q : Nat} (hk : k < s.size) (hc : byA s k = c) (hq : q < 16) (hm : mAt s k q) (hno : ∀ j, j < q → ¬ mAt s k j) : mkF s k c = (0, some (5, (k : Int), mkAt q, 0, 0), k + (mkAt q).size) := by
 match q, hq, hm, hno with
 | 8, _, hm, _ =>
  obtain ⟨a, b, d⟩ := (two_iff hk hc).1 hm
  unfold mkF
  have h2 : s.extract k (k + 2) = mkAt 8 := hm.2
  rw [if_pos (by simp [a, b, d]), h2]; rfl
 | 0, _, hm, _ => exact mk_one hk hc (b := 123) rfl hm (by decide) (fun h => absurd h (by decide))
 | 1, _, hm, _ => exact mk_one hk hc (b := 125) rfl hm (by decide) (fun h => absurd h (by decide))
 | 2, _, hm, _ => exact mk_one hk hc (b := 40) rfl hm (by decide) (fun h => absurd h (by decide))
 | 3, _, hm, _ => exact mk_one hk hc (b := 41) rfl hm (by decide) (fun h => absurd h (by decide))
 | 4, _, hm, _ => exact mk_one hk hc (b := 59) rfl hm (by decide) (fun h => absurd h (by decide))
 | 5, _, hm, _ => exact mk_one hk hc (b := 44) rfl hm (by decide) (fun h => absurd h (by decide))
 | 6, _, hm, _ => exact mk_one hk hc (b := 46) rfl hm (by decide) (fun h => absurd h (by decide))
 | 7, _, hm, _ => exact mk_one hk hc (b := 36) rfl hm (by decide) (fun h => absurd h (by decide))
 | 9, _, hm, hno => exact mk_one hk hc (b := 61) rfl hm (by decide) (fun _ => hno 8 (by omega))
 | 10, _, hm, _ => exact mk_one hk hc (b := 43) rfl hm (by decide) (fun h => absurd h (by decide))
 | 11, _, hm, _ => exact mk_one hk hc (b := 45) rfl hm (by decide) (fun h => absurd h (by decide))
 | 12, _, hm, _ => exact mk_one hk hc (b := 42) rfl hm (by decide) (fun h => absurd h (by decide))
 | 13, _, hm, _ => exact mk_one hk hc (b := 47) rfl hm (by decide) (fun h => absurd h (by decide))
 | 14, _, hm, _ => exact mk_one hk hc (b := 37) rfl hm (by decide) (fun h => absurd h (by decide))
 | 15, _, hm, _ => exact mk_one hk hc (b := 60) rfl hm (by decide) (fun h => absurd h (by decide))
 | n + 16, h, _, _ => exact absurd h (by omega)
theorem mk_none {s : ByteArray} {k c : Nat} (hk : k < s.size) (hc : byA s k = c) (hno : ∀ j, j < 16 → ¬ mAt s k j) : mkF s k c = (2, none, 0) := by
 have h8 := hno 8 (by omega)
 rw [two_iff hk hc] at h8
 have n0 := fun (j : Nat) (b : UInt8) (hj : j < 16) (e : mkAt j = ⟨#[b]⟩) => (fun h => hno j hj ((one_iff hk hc e).2 h) : ¬ c = b.toNat)
 unfold mkF
 rw [if_neg (by simp; omega), if_neg]
 intro h
 unfold isMk at h
 simp only [decide_eq_true_eq, List.mem_cons, List.not_mem_nil, or_false] at h
 have a0 := n0 0 123 (by omega) rfl
 have a1 := n0 1 125 (by omega) rfl
 have a2 := n0 2 40 (by omega) rfl
 have a3 := n0 3 41 (by omega) rfl
 have a4 := n0 4 59 (by omega) rfl
 have a5 := n0 5 44 (by omega) rfl
 have a6 := n0 6 46 (by omega) rfl
 have a7 := n0 7 36 (by omega) rfl
 have a9 := n0 9 61 (by omega) rfl
 have a10 := n0 10 43 (by omega) rfl
 have a11 := n0 11 45 (by omega) rfl
 have a12 := n0 12 42 (by omega) rfl
 have a13 := n0 13 47 (by omega) rfl
 have a14 := n0 14 37 (by omega) rfl
 have a15 := n0 15 60 (by omega) rfl
 simp at a0 a1 a2 a3 a4 a5 a6 a7 a9 a10 a11 a12 a13 a14 a15
 omega
def TokSays (s : ByteArray) (k : Nat) (e : Ending) : Prop :=
 (∃ (t : Tk) (j : Nat), e = .returned (.tuple #[.agg #[.int .i64 t.1, .int .i64 t.2.1, .string t.2.2.1, .int .i64 t.2.2.2.1, .float .f64 t.2.2.2.2], .int .i64 0, .int .i64 (j : Int)]) ∧ stepF s k = (0, some t, j)) ∨
 ∃ c : Int, ¬ c = 0 ∧ e = .returned (.tuple #[.agg #[.int .i64 0, .int .i64 0, .string ⟨#[]⟩, .int .i64 0, .float .f64 0], .int .i64 c, .int .i64 0]) ∧ stepF s k = (c, none, 0)
set_option maxRecDepth 100000 in
set_option maxHeartbeats 8000000 in
theorem l7Token_any (s : ByteArray) (k : Nat) (hk : k < s.size) (hs : s.size ≤ 4000) (hbl : isBl (byA s k) = false) (h35 : decide (byA s k = 35) = false) (w : World) :
  Calls Tryz.prog 24 #[.string s, .int .i64 (k : Int)] w fun e w' => TokSays s k e ∧ Below w.heap.size w w' := by
 have hal := alloc_old
 have haf := alloc_oldf
 have k0 := Blk.new w #[.int .i64 0, .int .i64 0, .string ⟨#[]⟩, .int .i64 0, .float .f64 0] 47
 have hi := run_index_at s k hk
 simp only [byA_eq hk] at hi
 obtain ⟨c, hc⟩ : ∃ c, Hid (byA s k = c) := ⟨_, (rfl : byA s k = byA s k)⟩
 rw [hc.out] at hi
 go_enter Tryz.func24, Tryz.ntmps24
 go_wp2_with fail; refine (l3Letter_any c _).mono ?_
 rintro e w1 ⟨rfl, rfl⟩
 cases h3 : letB c
 case true =>
  have h3c : Hid (letB (byA s k) = true) := by show _ = _; rw [hc.out]; exact h3
  go_wp2_with fail; go_loop [7] (fun i => ∃ q : Nat, k ≤ q ∧ q ≤ s.size ∧ i = .int .i64 q ∧ Hid (∀ j, k ≤ j → j < q → letB (byA s j) = true)) (fun i => s.size - (intOf i).toNat)
  case atStart => exact ⟨k, Nat.le_refl _, by omega, rfl, fun j h1 h2 => absurd h1 (by omega)⟩
  obtain ⟨q, kq, hq, rfl, hall⟩ := hrel
  have next : ∀ b : Nat, q = b → (b < s.size → letB (byA s b) = false) → runE letB s k = b := fun b e h => runE_eq (by omega) h (b - k) k (by omega) (fun j h1 h2 => hall.out j h1 (by omega))
  by_cases hlt : q < s.size
  ·
   have hj := run_index_at s q hlt
   simp only [byA_eq hlt] at hj
   have hltI : (q : Int) < (s.size : Int) := by omega
   cases hb : letB (byA s q)
   ·
    have HE : Hid (runE letB s k = q) := next q rfl (fun _ => hb)
    clear next; go_wp2_with (go_at_call 37; refine (l3Letter_any _ _).mono ?_; rintro e w' ⟨rfl, rfl⟩; rw [hb])
    clear hj hltI hb hlt; have hsl := slice_at s kq hq
    obtain ⟨T, hT⟩ : ∃ T, Hid (s.extract k q = T) := ⟨_, (rfl : s.extract k q = s.extract k q)⟩
    rw [hT.out] at hsl
    have sub0 : IntKind.i64.wrap ((q : Int) - (k : Int)) = (q : Int) - (k : Int) := by rw [IntKind.wrap_i64]; omega
    have KR2 := k0.alloc (.cells #[.int .i64 1, .int .i64 (k : Int), .string T, .int .i64 0, .float .f64 0] 47)
    have KT2 := Blk.new' (w.alloc (.cells #[.int .i64 0, .int .i64 0, .string ⟨#[]⟩, .int .i64 0, .float .f64 0] 47)) #[.int .i64 1, .int .i64 (k : Int), .string T, .int .i64 0, .float .f64 0] 47 (n := w.heap.size + 1) (by simp)
    have hB2 : Below w.heap.size w ((w.alloc (.cells #[.int .i64 0, .int .i64 0, .string ⟨#[]⟩, .int .i64 0, .float .f64 0] 47)).alloc (.cells #[.int .i64 1, .int .i64 (k : Int), .string T, .int .i64 0, .float .f64 0] 47)) := bl_alloc (bl_alloc (Below.refl _ _) _) _
    obtain ⟨x0, x1, x2, x3, x4, x5⟩ := KT2.five
    rw [← hT.out] at x2 KR2 KT2 hB2
    go_wp2_with fail; clear x0 x1 x2 x3 x4 x5; rw [hT.out] at KR2 KT2 hB2 ⊢
    generalize hX : (w.alloc (.cells #[.int .i64 0, .int .i64 0, .string ⟨#[]⟩, .int .i64 0, .float .f64 0] 47)).alloc (.cells #[.int .i64 1, .int .i64 (k : Int), .string T, .int .i64 0, .float .f64 0] 47) = X at KR2 KT2 hB2 ⊢
    clear hX k0 hsl; refine (specIsWord_any T _).mono ?_
    rintro e w2 ⟨rfl, hb2⟩
    have KR := KR2.later hb2
    have KT := KT2.later hb2
    have hB := bl_trans hB2 hb2
    clear KR2 KT2 hB2 hb2; obtain ⟨tb, htb⟩ : ∃ tb, w.heap.size + 1 = tb := ⟨_, rfl⟩
    rw [htb] at KT ⊢
    cases hw : isW T
    ·
     by_cases hlen : (12 : Int) < (q : Int) - (k : Int)
     ·
      have SP : stepF s k = (4, none, 0) := by
       unfold stepF
       rw [hbl, h35, h3c.out, HE.out, hT.out, hw]
       simp; omega
      obtain ⟨z0, z1, z2, z3, z4, z5⟩ := KR.five
      have FIN : Hid (TokSays s k (.returned (.tuple #[.agg #[.int .i64 0, .int .i64 0, .string ⟨#[]⟩, .int .i64 0, .float .f64 0], .int .i64 4, .int .i64 0]))) := Or.inr ⟨4, by decide, rfl, SP⟩
      clear KR; go_wp2_with fail; refine bodyPost_ret (v := .tuple #[.agg #[.int .i64 0, .int .i64 0, .string ⟨#[]⟩, .int .i64 0, .float .f64 0], .int .i64 4, .int .i64 0]) (by simp [results, Tryz.results24, go_sem, z0, z1, z2, z3, z4]) rfl ⟨FIN.out, ?_⟩
      exact blq
     have SP : stepF s k = (0, some (1, (k : Int), T, 0, 0), q) := by
      unfold stepF
      rw [hbl, h35, h3c.out, HE.out, hT.out, hw]
      simp; omega
     obtain ⟨z0, z1, z2, z3, z4, z5⟩ := KR.five
     obtain ⟨x0, x1, x2, x3, x4, x5⟩ := KT.five
     have FIN : Hid (TokSays s k (.returned (.tuple #[.agg #[.int .i64 1, .int .i64 (k : Int), .string T, .int .i64 0, .float .f64 0], .int .i64 0, .int .i64 (q : Int)]))) := Or.inl ⟨(1, (k : Int), T, 0, 0), q, rfl, SP⟩
     have hne : ¬ w.heap.size = tb := by omega
     clear KR KT; go_wp2_with fail; refine bodyPost_ret (v := .tuple #[.agg #[.int .i64 1, .int .i64 (k : Int), .string T, .int .i64 0, .float .f64 0], .int .i64 0, .int .i64 (q : Int)]) (by simp [results, Tryz.results24, go_sem, z0, z1, z2, z3, z4]) rfl ⟨FIN.out, ?_⟩
     exact blq
    have SP : stepF s k = (0, some (2, (k : Int), T, 0, 0), q) := by
     unfold stepF
     rw [hbl, h35, h3c.out, HE.out, hT.out, hw]
     simp
    obtain ⟨z0, z1, z2, z3, z4, z5⟩ := KR.five
    obtain ⟨x0, x1, x2, x3, x4, x5⟩ := KT.five
    have FIN : Hid (TokSays s k (.returned (.tuple #[.agg #[.int .i64 2, .int .i64 (k : Int), .string T, .int .i64 0, .float .f64 0], .int .i64 0, .int .i64 (q : Int)]))) := Or.inl ⟨(2, (k : Int), T, 0, 0), q, rfl, SP⟩
    have hne : ¬ w.heap.size = tb := by omega
    clear KR KT; go_wp2_with fail; refine bodyPost_ret (v := .tuple #[.agg #[.int .i64 2, .int .i64 (k : Int), .string T, .int .i64 0, .float .f64 0], .int .i64 0, .int .i64 (q : Int)]) (by simp [results, Tryz.results24, go_sem, z0, z1, z2, z3, z4]) rfl ⟨FIN.out, ?_⟩
    exact blq
   clear next; go_wp2_with (go_at_call 37; refine (l3Letter_any _ _).mono ?_; rintro e w' ⟨rfl, rfl⟩; rw [hb])
   go_round
   case rel => exact ⟨q + 1, by omega, by omega, by go_num, fun j h1 h2 => by
    by_cases h : j = q
    ·
     subst h; exact hb
    exact hall.out j h1 (by omega)⟩
   case measure => simp [intOf]; omega
  have hltI : ¬ (q : Int) < (s.size : Int) := by omega
  have HE : Hid (runE letB s k = q) := next q rfl (fun h => absurd h hlt)
  clear next; go_wp2_with fail; clear hltI hlt; have hsl := slice_at s kq hq
  obtain ⟨T, hT⟩ : ∃ T, Hid (s.extract k q = T) := ⟨_, (rfl : s.extract k q = s.extract k q)⟩
  rw [hT.out] at hsl
  have sub0 : IntKind.i64.wrap ((q : Int) - (k : Int)) = (q : Int) - (k : Int) := by rw [IntKind.wrap_i64]; omega
  have KR2 := k0.alloc (.cells #[.int .i64 1, .int .i64 (k : Int), .string T, .int .i64 0, .float .f64 0] 47)
  have KT2 := Blk.new' (w.alloc (.cells #[.int .i64 0, .int .i64 0, .string ⟨#[]⟩, .int .i64 0, .float .f64 0] 47)) #[.int .i64 1, .int .i64 (k : Int), .string T, .int .i64 0, .float .f64 0] 47 (n := w.heap.size + 1) (by simp)
  have hB2 : Below w.heap.size w ((w.alloc (.cells #[.int .i64 0, .int .i64 0, .string ⟨#[]⟩, .int .i64 0, .float .f64 0] 47)).alloc (.cells #[.int .i64 1, .int .i64 (k : Int), .string T, .int .i64 0, .float .f64 0] 47)) := bl_alloc (bl_alloc (Below.refl _ _) _) _
  obtain ⟨x0, x1, x2, x3, x4, x5⟩ := KT2.five
  rw [← hT.out] at x2 KR2 KT2 hB2
  go_wp2_with fail; clear x0 x1 x2 x3 x4 x5; rw [hT.out] at KR2 KT2 hB2 ⊢
  generalize hX : (w.alloc (.cells #[.int .i64 0, .int .i64 0, .string ⟨#[]⟩, .int .i64 0, .float .f64 0] 47)).alloc (.cells #[.int .i64 1, .int .i64 (k : Int), .string T, .int .i64 0, .float .f64 0] 47) = X at KR2 KT2 hB2 ⊢
  clear hX k0 hsl; refine (specIsWord_any T _).mono ?_
  rintro e w2 ⟨rfl, hb2⟩
  have KR := KR2.later hb2
  have KT := KT2.later hb2
  have hB := bl_trans hB2 hb2
  clear KR2 KT2 hB2 hb2; obtain ⟨tb, htb⟩ : ∃ tb, w.heap.size + 1 = tb := ⟨_, rfl⟩
  rw [htb] at KT ⊢
  cases hw : isW T
  ·
   by_cases hlen : (12 : Int) < (q : Int) - (k : Int)
   ·
    have SP : stepF s k = (4, none, 0) := by
     unfold stepF
     rw [hbl, h35, h3c.out, HE.out, hT.out, hw]
     simp; omega
    obtain ⟨z0, z1, z2, z3, z4, z5⟩ := KR.five
    have FIN : Hid (TokSays s k (.returned (.tuple #[.agg #[.int .i64 0, .int .i64 0, .string ⟨#[]⟩, .int .i64 0, .float .f64 0], .int .i64 4, .int .i64 0]))) := Or.inr ⟨4, by decide, rfl, SP⟩
    clear KR; go_wp2_with fail; refine bodyPost_ret (v := .tuple #[.agg #[.int .i64 0, .int .i64 0, .string ⟨#[]⟩, .int .i64 0, .float .f64 0], .int .i64 4, .int .i64 0]) (by simp [results, Tryz.results24, go_sem, z0, z1, z2, z3, z4]) rfl ⟨FIN.out, ?_⟩
    exact blq
   have SP : stepF s k = (0, some (1, (k : Int), T, 0, 0), q) := by
    unfold stepF
    rw [hbl, h35, h3c.out, HE.out, hT.out, hw]
    simp; omega
   obtain ⟨z0, z1, z2, z3, z4, z5⟩ := KR.five
   obtain ⟨x0, x1, x2, x3, x4, x5⟩ := KT.five
   have FIN : Hid (TokSays s k (.returned (.tuple #[.agg #[.int .i64 1, .int .i64 (k : Int), .string T, .int .i64 0, .float .f64 0], .int .i64 0, .int .i64 (q : Int)]))) := Or.inl ⟨(1, (k : Int), T, 0, 0), q, rfl, SP⟩
   have hne : ¬ w.heap.size = tb := by omega
   clear KR KT; go_wp2_with fail; refine bodyPost_ret (v := .tuple #[.agg #[.int .i64 1, .int .i64 (k : Int), .string T, .int .i64 0, .float .f64 0], .int .i64 0, .int .i64 (q : Int)]) (by simp [results, Tryz.results24, go_sem, z0, z1, z2, z3, z4]) rfl ⟨FIN.out, ?_⟩
   exact blq
  have SP : stepF s k = (0, some (2, (k : Int), T, 0, 0), q) := by
   unfold stepF
   rw [hbl, h35, h3c.out, HE.out, hT.out, hw]
   simp
  obtain ⟨z0, z1, z2, z3, z4, z5⟩ := KR.five
  obtain ⟨x0, x1, x2, x3, x4, x5⟩ := KT.five
  have FIN : Hid (TokSays s k (.returned (.tuple #[.agg #[.int .i64 2, .int .i64 (k : Int), .string T, .int .i64 0, .float .f64 0], .int .i64 0, .int .i64 (q : Int)]))) := Or.inl ⟨(2, (k : Int), T, 0, 0), q, rfl, SP⟩
  have hne : ¬ w.heap.size = tb := by omega
  clear KR KT; go_wp2_with fail; refine bodyPost_ret (v := .tuple #[.agg #[.int .i64 2, .int .i64 (k : Int), .string T, .int .i64 0, .float .f64 0], .int .i64 0, .int .i64 (q : Int)]) (by simp [results, Tryz.results24, go_sem, z0, z1, z2, z3, z4]) rfl ⟨FIN.out, ?_⟩
  exact blq
 have h3c : Hid (letB (byA s k) = false) := by show _ = _; rw [hc.out]; exact h3
 go_wp2_with fail; refine (l7Digit_any c _).mono ?_
 rintro e w1 ⟨rfl, rfl⟩
 cases h4 : dgB c
 case true =>
  have h4c : Hid (dgB (byA s k) = true) := by show _ = _; rw [hc.out]; exact h4
  go_wp2_with fail; refine (l7Run_any s k (by omega) (by omega) _).mono ?_
  rintro e w1 ⟨⟨b, rfl, hr⟩, rfl⟩
  have HB : Hid (runE dgB s k = b) := runE_eq hr.2.1 hr.2.2.2 (b - k) k (by have := hr.1; omega) (fun j h1 h2 => hr.2.2.1 j h1 h2)
  have hkb : k < b := by rw [← HB.out]; exact runE_gt hk h4c.out
  have hbs : b ≤ s.size := hr.2.1
  have HW : Hid (wholeB (s.extract k b) 15 = (decide (b - k ≤ 15) && (decide (b - k = 1) || !decide (c = 48)))) := by
   show _ = _
   have sz : (s.extract k b).size = b - k := size_extract' hbs
   have e0 : byA (s.extract k b) 0 = c := by rw [byA_extract (by omega) hbs]; exact hc.out
   have all : decide (∀ j, j < (s.extract k b).size → dgAt (s.extract k b) j = true) = true := by
    rw [decide_eq_true_eq]
    intro j hj
    rw [sz] at hj
    rw [dgAt_extract (by omega) hbs]
    exact hr.2.2.1 (k + j) (by omega) (by omega)
   unfold wholeB onlyB
   rw [all, e0, sz]
   have e1 : decide (1 ≤ b - k) = true := by simp; omega
   have e2 : decide (((b - k : Nat) : Int) ≤ 15) = decide (b - k ≤ 15) := by simp; omega
   rw [e1, e2]; simp
  have HD : Hid (∀ j, j < (s.extract k b).size → dgAt (s.extract k b) j = true) := by
   intro j hj
   rw [size_extract' hbs] at hj
   rw [dgAt_extract (by omega) hbs]
   exact hr.2.2.1 (k + j) (by omega) (by omega)
  clear hr; have KR := k0.alloc (.cells #[.int .i64 3, .int .i64 (k : Int), .string ⟨#[]⟩, .int .i64 0, .float .f64 0] 47)
  have KT := Blk.new' (w.alloc (.cells #[.int .i64 0, .int .i64 0, .string ⟨#[]⟩, .int .i64 0, .float .f64 0] 47)) #[.int .i64 3, .int .i64 (k : Int), .string ⟨#[]⟩, .int .i64 0, .float .f64 0] 47 (n := w.heap.size + 1) (by simp)
  have hB : Below w.heap.size w ((w.alloc (.cells #[.int .i64 0, .int .i64 0, .string ⟨#[]⟩, .int .i64 0, .float .f64 0] 47)).alloc (.cells #[.int .i64 3, .int .i64 (k : Int), .string ⟨#[]⟩, .int .i64 0, .float .f64 0] 47)) := bl_alloc (bl_alloc (Below.refl _ _) _) _
  go_upto_region 14 with fail
  generalize hX : (w.alloc (.cells #[.int .i64 0, .int .i64 0, .string ⟨#[]⟩, .int .i64 0, .float .f64 0] 47)).alloc (.cells #[.int .i64 3, .int .i64 (k : Int), .string ⟨#[]⟩, .int .i64 0, .float .f64 0] 47) = X at KR KT hB ⊢
  clear hX k0; obtain ⟨tb, htb⟩ : ∃ tb, w.heap.size + 1 = tb := ⟨_, rfl⟩
  rw [htb] at KT ⊢
  go_cut [11] (fun p wx => p = .bool (!wholeB (s.extract k b) 15) ∧ wx = X)
  case first =>
   by_cases g1 : (15 : Int) < (b : Int) - (k : Int)
   ·
    have E : Hid (true = !wholeB (s.extract k b) 15) := by
     show _ = _
     rw [HW.out, decide_eq_false (by omega)]; rfl
    go_wp2_with fail; go_meet
    case rel => exact ⟨by rw [← E.out], rfl⟩
   by_cases g2 : (1 : Int) < (b : Int) - (k : Int)
   ·
    cases g3 : ((c : Int) == 48)
    ·
     have E : Hid (false = !wholeB (s.extract k b) 15) := by
      show _ = _
      have e3 : decide (c = 48) = false := by simp at g3 ⊢; omega
      rw [HW.out, e3, decide_eq_true (by omega : b - k ≤ 15)]; simp
     go_wp2_with fail; go_meet
     case rel => exact ⟨by rw [← E.out], rfl⟩
    have E : Hid (true = !wholeB (s.extract k b) 15) := by
     show _ = _
     have e3 : decide (c = 48) = true := by simp at g3 ⊢; omega
     rw [HW.out, e3, decide_eq_false (by omega : ¬ b - k = 1)]; simp
    go_wp2_with fail; go_meet
    case rel => exact ⟨by rw [← E.out], rfl⟩
   have E : Hid (false = !wholeB (s.extract k b) 15) := by
    show _ = _
    rw [HW.out, decide_eq_true (by omega : b - k ≤ 15), decide_eq_true (by omega : b - k = 1)]; rfl
   go_wp2_with fail; go_meet
   case rel => exact ⟨by rw [← E.out], rfl⟩
  obtain ⟨rfl, hwc⟩ := hcut
  rw [hwc]
  clear hwc; obtain ⟨bad, hbad⟩ : ∃ bad, Hid ((!wholeB (s.extract k b) 15) = bad) := ⟨_, (rfl : (!wholeB (s.extract k b) 15) = (!wholeB (s.extract k b) 15))⟩
  rw [hbad.out]
  have NF : Hid (stepF s k = numF s k) := by
   show _ = _
   unfold stepF
   rw [hbl, h35, h3c.out, h4c.out]
   simp only [Bool.false_eq_true, if_false, if_true]
  go_upto_region 15 with fail
  go_cut [93] (fun p wy => p = .bool (ptB s b) ∧ wy = X)
  case first =>
   by_cases g1 : (b : Int) + 1 < (s.size : Int)
   ·
    have hbl1 : b < s.size := by omega
    have hbl2 : b + 1 < s.size := by omega
    have i1 := run_index_at s b hbl1
    simp only [byA_eq hbl1] at i1
    have i2 := run_index_at s (b + 1) hbl2
    simp only [byA_eq hbl2] at i2
    rw [show ((b + 1 : Nat) : Int) = (b : Int) + 1 by omega] at i2
    cases g2 : ((byA s b : Int) == 46)
    ·
     have E : Hid (false = ptB s b) := by
      show _ = _
      unfold ptB
      have e3 : decide (byA s b = 46) = false := by simp at g2 ⊢; omega
      rw [e3]; simp
     go_wp2_with fail; go_meet
     case rel => exact ⟨by rw [← E.out], rfl⟩
    have e3 : decide (byA s b = 46) = true := by simp at g2 ⊢; omega
    have E : Hid (dgB (byA s (b + 1)) = ptB s b) := by
     show _ = _
     unfold ptB
     rw [e3, decide_eq_true hbl2]; simp
    go_wp2_with (go_at_call 39; refine (l7Digit_any _ _).mono ?_; rintro e w' ⟨rfl, rfl⟩)
    go_meet
    case rel => exact ⟨by rw [← E.out], rfl⟩
   have E : Hid (false = ptB s b) := by
    show _ = _
    unfold ptB
    rw [decide_eq_false (by omega)]; simp
   go_wp2_with fail; go_meet
   case rel => exact ⟨by rw [← E.out], rfl⟩
  obtain ⟨rfl, hwc⟩ := hcut
  rw [hwc]
  clear hwc; cases hp : ptB s b
  case true =>
   have hb2 : b + 1 < s.size := by
    unfold ptB at hp
    simp at hp; omega
   have hR2 := fun w => l7Run_any s (b + 1) (by omega) (by omega) w
   rw [show ((b + 1 : Nat) : Int) = (b : Int) + 1 by omega] at hR2
   go_wp2_with fail; refine (hR2 _).mono ?_
   clear hR2; rintro e w1 ⟨⟨q, rfl, hr⟩, rfl⟩
   have HE : Hid (runE dgB s (b + 1) = q) := runE_eq hr.2.1 hr.2.2.2 (q - (b + 1)) (b + 1) (by have := hr.1; omega) (fun j h1 h2 => hr.2.2.1 j h1 h2)
   have hq1 : b + 1 ≤ q := hr.1
   have hq2 : q ≤ s.size := hr.2.1
   clear hr; have EF : Hid (stepF s k = endF s k q true) := by
    show _ = _
    rw [NF.out]
    unfold numF
    rw [HB.out, hp, HE.out]; rfl
   have kq : k ≤ q := by omega
   have sz : (s.extract k q).size = q - k := size_extract' hq2
   have hsl := slice_at s kq hq2
   obtain ⟨T, hT⟩ : ∃ T, Hid (s.extract k q = T) := ⟨_, (rfl : s.extract k q = s.extract k q)⟩
   go_wp2_with fail; rw [hT.out] at sz ⊢
   refine (specRealOf_any T (by omega) _).mono ?_
   rintro e w2 ⟨g1, hb2'⟩
   obtain ⟨-, r, ok, rfl, br⟩ := g1.same g1
   have G1 : Hid (RealSays T (.returned (.tuple #[.float .f64 r, .bool ok]))) := g1
   have KR := KR.later hb2'
   have KT := KT.later hb2'
   have hB := bl_trans hB hb2'
   clear g1 hb2'; cases ok
   ·
    have SP : stepF s k = (3, none, 0) := by
     rw [EF.out]
     unfold endF
     rw [hT.out, realV_none G1.out]
     split <;> rfl
    obtain ⟨x0, x1, x2, x3, x4, x5⟩ := KT.five
    have hne : ¬ w.heap.size = tb := by omega
    obtain ⟨z0, z1, z2, z3, z4, z5⟩ := KR.five
    have FIN : Hid (TokSays s k (.returned (.tuple #[.agg #[.int .i64 0, .int .i64 0, .string ⟨#[]⟩, .int .i64 0, .float .f64 0], .int .i64 3, .int .i64 0]))) := Or.inr ⟨3, by decide, rfl, SP⟩
    clear KR; go_wp2_with fail; refine bodyPost_ret (v := .tuple #[.agg #[.int .i64 0, .int .i64 0, .string ⟨#[]⟩, .int .i64 0, .float .f64 0], .int .i64 3, .int .i64 0]) (by simp [results, Tryz.results24, go_sem, z0, z1, z2, z3, z4]) rfl ⟨FIN.out, ?_⟩
    exact blq
   by_cases hlt : q < s.size
   ·
    have i3 := run_index_at s q hlt
    simp only [byA_eq hlt] at i3
    have hltI : (q : Int) < (s.size : Int) := by omega
    cases hl : letB (byA s q)
    ·
     have SP : stepF s k = (0, some (4, (k : Int), T, 0, r), q) := by
      rw [EF.out]
      unfold endF
      rw [hT.out, realV_some G1.out, hl]
      simp
     have hTl := hT.out
     obtain ⟨z0, z1, z2, z3, z4, z5⟩ := KR.five
     obtain ⟨x0, x1, x2, x3, x4, x5⟩ := KT.five
     have FIN : Hid (TokSays s k (.returned (.tuple #[.agg #[.int .i64 4, .int .i64 (k : Int), .string T, .int .i64 0, .float .f64 r], .int .i64 0, .int .i64 (q : Int)]))) := Or.inl ⟨(4, (k : Int), T, 0, r), q, rfl, SP⟩
     have hne : ¬ w.heap.size = tb := by omega
     clear KR KT; go_wp2_with (first | (go_at_call 37; refine (l3Letter_any _ _).mono ?_; rintro e w' ⟨rfl, rfl⟩; rw [hl]) | (go_at_call 42; refine (l7Num_at _ n (by first | exact HN.out | (rw [hTl]; exact HN.out)) ⟨(by first | exact hdT.out | (rw [hTl]; exact hdT.out)), (by first | omega | (rw [hTl]; omega))⟩ _).mono ?_; rintro e w' ⟨rfl, rfl⟩))
     refine bodyPost_ret (v := .tuple #[.agg #[.int .i64 4, .int .i64 (k : Int), .string T, .int .i64 0, .float .f64 r], .int .i64 0, .int .i64 (q : Int)]) (by simp [results, Tryz.results24, go_sem, z0, z1, z2, z3, z4]) rfl ⟨FIN.out, ?_⟩
     exact blq
    have SP : stepF s k = (3, none, 0) := by
     rw [EF.out]
     unfold endF
     rw [hl, decide_eq_true hlt]; rfl
    obtain ⟨x0, x1, x2, x3, x4, x5⟩ := KT.five
    have hne : ¬ w.heap.size = tb := by omega
    obtain ⟨z0, z1, z2, z3, z4, z5⟩ := KR.five
    have FIN : Hid (TokSays s k (.returned (.tuple #[.agg #[.int .i64 0, .int .i64 0, .string ⟨#[]⟩, .int .i64 0, .float .f64 0], .int .i64 3, .int .i64 0]))) := Or.inr ⟨3, by decide, rfl, SP⟩
    clear KR; go_wp2_with (first | (go_at_call 37; refine (l3Letter_any _ _).mono ?_; rintro e w' ⟨rfl, rfl⟩; rw [hl]) | (go_at_call 42; refine (l7Num_at _ n (by first | exact HN.out | (rw [hTl]; exact HN.out)) ⟨(by first | exact hdT.out | (rw [hTl]; exact hdT.out)), (by first | omega | (rw [hTl]; omega))⟩ _).mono ?_; rintro e w' ⟨rfl, rfl⟩))
    refine bodyPost_ret (v := .tuple #[.agg #[.int .i64 0, .int .i64 0, .string ⟨#[]⟩, .int .i64 0, .float .f64 0], .int .i64 3, .int .i64 0]) (by simp [results, Tryz.results24, go_sem, z0, z1, z2, z3, z4]) rfl ⟨FIN.out, ?_⟩
    exact blq
   have hltI : ¬ (q : Int) < (s.size : Int) := by omega
   have SP : stepF s k = (0, some (4, (k : Int), T, 0, r), q) := by
    rw [EF.out]
    unfold endF
    rw [hT.out, realV_some G1.out, decide_eq_false hlt]
    simp
   have hTl := hT.out
   obtain ⟨z0, z1, z2, z3, z4, z5⟩ := KR.five
   obtain ⟨x0, x1, x2, x3, x4, x5⟩ := KT.five
   have FIN : Hid (TokSays s k (.returned (.tuple #[.agg #[.int .i64 4, .int .i64 (k : Int), .string T, .int .i64 0, .float .f64 r], .int .i64 0, .int .i64 (q : Int)]))) := Or.inl ⟨(4, (k : Int), T, 0, r), q, rfl, SP⟩
   have hne : ¬ w.heap.size = tb := by omega
   clear KR KT; go_wp2_with fail; refine bodyPost_ret (v := .tuple #[.agg #[.int .i64 4, .int .i64 (k : Int), .string T, .int .i64 0, .float .f64 r], .int .i64 0, .int .i64 (q : Int)]) (by simp [results, Tryz.results24, go_sem, z0, z1, z2, z3, z4]) rfl ⟨FIN.out, ?_⟩
   exact blq
  have EF : Hid (stepF s k = endF s k b false) := by
   show _ = _
   rw [NF.out]
   unfold numF
   rw [HB.out, hp]; rfl
  cases bad
  ·
   have hwh : Hid (wholeB (s.extract k b) 15 = true) := by
    show _ = _
    have := hbad.out
    simpa using this
   have kb : k ≤ b := by omega
   have sz : (s.extract k b).size = b - k := size_extract' hbs
   have hz15 : b - k ≤ 15 := by
    have := hwh.out
    rw [HW.out] at this
    simp at this; omega
   have hsl := slice_at s kb hbs
   obtain ⟨T, hT⟩ : ∃ T, Hid (s.extract k b = T) := ⟨_, (rfl : s.extract k b = s.extract k b)⟩
   have hdT : Hid (∀ j, j < T.size → dgAt T j = true) := by rw [← hT.out]; exact HD.out
   rw [hT.out] at sz
   obtain ⟨n, hn⟩ := dec_ex T.data.toList 0 (dg_list hdT.out)
   have HN : Hid (numIs T n) := hn
   by_cases hlt : b < s.size
   ·
    have i3 := run_index_at s b hlt
    simp only [byA_eq hlt] at i3
    have hltI : (b : Int) < (s.size : Int) := by omega
    cases hl : letB (byA s b)
    ·
     have SP : stepF s k = (0, some (3, (k : Int), T, (n : Int), 0), b) := by
      rw [EF.out]
      unfold endF
      rw [hl, hwh.out, hT.out, hn]
      simp
     have hTl := hT.out
     obtain ⟨z0, z1, z2, z3, z4, z5⟩ := KR.five
     obtain ⟨x0, x1, x2, x3, x4, x5⟩ := KT.five
     have FIN : Hid (TokSays s k (.returned (.tuple #[.agg #[.int .i64 3, .int .i64 (k : Int), .string T, .int .i64 (n : Int), .float .f64 0], .int .i64 0, .int .i64 (b : Int)]))) := Or.inl ⟨(3, (k : Int), T, (n : Int), 0), b, rfl, SP⟩
     have hne : ¬ w.heap.size = tb := by omega
     clear KR KT; go_wp2_with (first | (go_at_call 37; refine (l3Letter_any _ _).mono ?_; rintro e w' ⟨rfl, rfl⟩; rw [hl]) | (go_at_call 42; refine (l7Num_at _ n (by first | exact HN.out | (rw [hTl]; exact HN.out)) ⟨(by first | exact hdT.out | (rw [hTl]; exact hdT.out)), (by first | omega | (rw [hTl]; omega))⟩ _).mono ?_; rintro e w' ⟨rfl, rfl⟩))
     refine bodyPost_ret (v := .tuple #[.agg #[.int .i64 3, .int .i64 (k : Int), .string T, .int .i64 (n : Int), .float .f64 0], .int .i64 0, .int .i64 (b : Int)]) (by simp [results, Tryz.results24, go_sem, z0, z1, z2, z3, z4]) rfl ⟨FIN.out, ?_⟩
     exact blq
    have SP : stepF s k = (3, none, 0) := by
     rw [EF.out]
     unfold endF
     rw [hl, decide_eq_true hlt]; rfl
    obtain ⟨z0, z1, z2, z3, z4, z5⟩ := KR.five
    have FIN : Hid (TokSays s k (.returned (.tuple #[.agg #[.int .i64 0, .int .i64 0, .string ⟨#[]⟩, .int .i64 0, .float .f64 0], .int .i64 3, .int .i64 0]))) := Or.inr ⟨3, by decide, rfl, SP⟩
    clear KR; go_wp2_with (first | (go_at_call 37; refine (l3Letter_any _ _).mono ?_; rintro e w' ⟨rfl, rfl⟩; rw [hl]) | (go_at_call 42; refine (l7Num_at _ n (by first | exact HN.out | (rw [hTl]; exact HN.out)) ⟨(by first | exact hdT.out | (rw [hTl]; exact hdT.out)), (by first | omega | (rw [hTl]; omega))⟩ _).mono ?_; rintro e w' ⟨rfl, rfl⟩))
    refine bodyPost_ret (v := .tuple #[.agg #[.int .i64 0, .int .i64 0, .string ⟨#[]⟩, .int .i64 0, .float .f64 0], .int .i64 3, .int .i64 0]) (by simp [results, Tryz.results24, go_sem, z0, z1, z2, z3, z4]) rfl ⟨FIN.out, ?_⟩
    exact blq
   have hltI : ¬ (b : Int) < (s.size : Int) := by omega
   have SP : stepF s k = (0, some (3, (k : Int), T, (n : Int), 0), b) := by
    rw [EF.out]
    unfold endF
    rw [decide_eq_false hlt, hwh.out, hT.out, hn]
    simp
   have hTl := hT.out
   obtain ⟨z0, z1, z2, z3, z4, z5⟩ := KR.five
   obtain ⟨x0, x1, x2, x3, x4, x5⟩ := KT.five
   have FIN : Hid (TokSays s k (.returned (.tuple #[.agg #[.int .i64 3, .int .i64 (k : Int), .string T, .int .i64 (n : Int), .float .f64 0], .int .i64 0, .int .i64 (b : Int)]))) := Or.inl ⟨(3, (k : Int), T, (n : Int), 0), b, rfl, SP⟩
   have hne : ¬ w.heap.size = tb := by omega
   clear KR KT; go_wp2_with (first | (go_at_call 37; refine (l3Letter_any _ _).mono ?_; rintro e w' ⟨rfl, rfl⟩; skip) | (go_at_call 42; refine (l7Num_at _ n (by first | exact HN.out | (rw [hTl]; exact HN.out)) ⟨(by first | exact hdT.out | (rw [hTl]; exact hdT.out)), (by first | omega | (rw [hTl]; omega))⟩ _).mono ?_; rintro e w' ⟨rfl, rfl⟩))
   refine bodyPost_ret (v := .tuple #[.agg #[.int .i64 3, .int .i64 (k : Int), .string T, .int .i64 (n : Int), .float .f64 0], .int .i64 0, .int .i64 (b : Int)]) (by simp [results, Tryz.results24, go_sem, z0, z1, z2, z3, z4]) rfl ⟨FIN.out, ?_⟩
   exact blq
  have SP : stepF s k = (3, none, 0) := by
   rw [EF.out]
   unfold endF
   have hwh : wholeB (s.extract k b) 15 = false := by have := hbad.out; simpa using this
   rw [hwh]
   split <;> rfl
  obtain ⟨z0, z1, z2, z3, z4, z5⟩ := KR.five
  have FIN : Hid (TokSays s k (.returned (.tuple #[.agg #[.int .i64 0, .int .i64 0, .string ⟨#[]⟩, .int .i64 0, .float .f64 0], .int .i64 3, .int .i64 0]))) := Or.inr ⟨3, by decide, rfl, SP⟩
  clear KR; go_wp2_with fail; refine bodyPost_ret (v := .tuple #[.agg #[.int .i64 0, .int .i64 0, .string ⟨#[]⟩, .int .i64 0, .float .f64 0], .int .i64 3, .int .i64 0]) (by simp [results, Tryz.results24, go_sem, z0, z1, z2, z3, z4]) rfl ⟨FIN.out, ?_⟩
  exact blq
 have h4c : Hid (dgB (byA s k) = false) := by show _ = _; rw [hc.out]; exact h4
 go_wp2_with fail; refine (l7Marks_any _).mono ?_
 rintro e w1 ⟨mb, rfl, hM, hb1⟩
 have KR := k0.later hb1
 have hB := bl_trans (bl_alloc (Below.refl _ w) (.cells #[.int .i64 0, .int .i64 0, .string ⟨#[]⟩, .int .i64 0, .float .f64 0] 47)) hb1
 have SF : Hid (stepF s k = mkF s k c) := by
  show _ = _
  unfold stepF mkF
  rw [hbl, h35, h3c.out, h4c.out, hc.out]
  simp only [Bool.false_eq_true, if_false]
 clear hb1 k0; go_wp2_with fail; go_loopw [15] (fun i wr => ∃ q : Nat, q ≤ 16 ∧ i = .int .i64 q ∧ Hid (∀ j, j < q → ¬ mAt s k j) ∧ Blk wr w.heap.size #[.int .i64 0, .int .i64 0, .string ⟨#[]⟩, .int .i64 0, .float .f64 0] 47 ∧ Blk wr mb (mkTexts.map Value.string).toArray 9 ∧ Below w.heap.size w wr) (fun i _ => 16 - (intOf i).toNat)
 case atStart => exact ⟨0, by omega, rfl, fun j hj => absurd hj (by omega), KR, hM, hB⟩
 clear KR hM hB; obtain ⟨q, hq, rfl, hall, KR, hM, hB⟩ := hrel
 by_cases hlt : (q : Int) < 16
 ·
  have hq16 : q < 16 := by omega
  have cq : wr.cell? ⟨mb, q, none⟩ = some (.string (mkAt q)) := (hM.cell q).trans (mk_cells.2 q hq16)
  obtain ⟨M, hMq⟩ : ∃ M, Hid (mkAt q = M) := ⟨_, (rfl : mkAt q = mkAt q)⟩
  rw [hMq.out] at cq
  have bM : M.size ≤ 2 := by rw [← hMq.out]; exact mk_size hq16
  have t5 : IntKind.i64.wrap ((k : Int) + (M.size : Int)) = (k : Int) + (M.size : Int) := by rw [IntKind.wrap_i64]; omega
  go_wp2_with fail; by_cases g1 : k + M.size ≤ s.size
  ·
   have g1d : decide ((k : Int) + (M.size : Int) ≤ (s.size : Int)) = true := by simp; omega
   have hsl := slice_at s (Nat.le_add_right k M.size) g1
   rw [show ((k + M.size : Nat) : Int) = (k : Int) + (M.size : Int) by omega] at hsl
   obtain ⟨X1, hX1⟩ : ∃ X1, Hid (s.extract k (k + M.size) = X1) := ⟨_, (rfl : s.extract k (k + M.size) = s.extract k (k + M.size))⟩
   rw [hX1.out] at hsl
   cases g2 : (X1.toList == M.toList)
   ·
    have hn : Hid (∀ j, j < q + 1 → ¬ mAt s k j) := by
     intro j hj
     by_cases e : j = q
     ·
      subst e
      intro hm
      rw [toList_same] at g2
      simp only [decide_eq_false_iff_not] at g2
      apply g2
      have := hm.2
      rw [hMq.out, hX1.out] at this
      exact this
     exact hall.out j (by omega)
    refine wp_region_held_drew (S := fun w' => w'.cell? ⟨mb, q, none⟩ = some (.string M)) (by kernel_rfl) ?_ (fun hHeld => ?_)
    ·
     exact cq
    refine wpr 0 151 ?_; simp only [zs]; refine wpr 1 152 ?_; simp only [zs]; refine wpr 2 153 ?_; simp only [zs]; refine wpr 3 154 ?_; simp only [zs]; refine wpr 4 155 ?_; simp only [zs]; refine wpr 5 156 ?_; simp only [zs]; refine wpr 6 157 ?_; simp only [zs]; refine wpr 7 158 ?_; simp only [zs]; refine wpr 8 159 ?_; simp only [zs]; refine wpr 9 160 ?_; simp only [zs]; refine wpr 10 161 ?_; simp only [zs]
    refine wpr 11 162 ?_; simp only [zs]; refine wpr 12 163 ?_; simp only [zs]; refine wpr 13 164 ?_; simp only [zs]; refine wpr 14 165 ?_; simp only [zs]; refine wpr 15 166 ?_; simp only [zs]; refine wpr 16 167 ?_; simp only [zs]; refine wpr 17 168 ?_; simp only [zs]; refine wpr 18 169 ?_; simp only [zs]; refine wpAnyH_done (by kernel_rfl) ?_ _
    go_wp2_with fail; go_roundw
    case rel => exact ⟨q + 1, by omega, by go_num, hn, KR, hM, bl_drew hB⟩
    case measure => simp [intOf]; omega
   have hm : mAt s k q := by
    rw [toList_same] at g2
    simp only [decide_eq_true_eq] at g2
    refine ⟨by rw [hMq.out]; exact g1, ?_⟩
    rw [hMq.out, hX1.out]; exact g2
   have SP : stepF s k = (0, some (5, (k : Int), M, 0, 0), k + M.size) := by
    rw [SF.out, ← hMq.out]
    exact mk_hit hk hc.out hq16 hm hall.out
   obtain ⟨z0, z1, z2, z3, z4, z5⟩ := KR.five
   have FIN : Hid (TokSays s k (.returned (.tuple #[.agg #[.int .i64 5, .int .i64 (k : Int), .string M, .int .i64 0, .float .f64 0], .int .i64 0, .int .i64 ((k : Int) + (M.size : Int))]))) := by
    refine Or.inl ⟨(5, (k : Int), M, 0, 0), k + M.size, ?_, SP⟩
    rw [show ((k + M.size : Nat) : Int) = (k : Int) + (M.size : Int) by omega]
   refine wp_region_held_drew (S := fun w' => w'.cell? ⟨mb, q, none⟩ = some (.string M)) (by kernel_rfl) ?_ (fun hHeld => ?_)
   ·
    exact cq
   refine wpr 0 151 ?_; simp only [zs]; refine wpr 1 152 ?_; simp only [zs]; refine wpr 2 153 ?_; simp only [zs]; refine wpr 3 154 ?_; simp only [zs]; refine wpr 4 155 ?_; simp only [zs]; refine wpr 5 156 ?_; simp only [zs]; refine wpr 6 157 ?_; simp only [zs]; refine wpr 7 158 ?_; simp only [zs]; refine wpr 8 159 ?_; simp only [zs]; refine wpr 9 160 ?_; simp only [zs]; refine wpr 10 161 ?_; simp only [zs]
   refine wpr 11 162 ?_; simp only [zs]; refine wpr 12 163 ?_; simp only [zs]; refine wpr 13 164 ?_; simp only [zs]; refine wpr 14 165 ?_; simp only [zs]; refine wpr 15 166 ?_; simp only [zs]; refine wpr 16 167 ?_; simp only [zs]; refine wpr 17 168 ?_; simp only [zs]; refine wpr 18 169 ?_; simp only [zs]; refine wpAnyH_done (by kernel_rfl) ?_ _
   clear KR hM SP; go_wp2_with fail; refine bodyPost_ret (v := .tuple #[.agg #[.int .i64 5, .int .i64 (k : Int), .string M, .int .i64 0, .float .f64 0], .int .i64 0, .int .i64 ((k : Int) + (M.size : Int))]) (by simp [results, Tryz.results24, go_sem, z0, z1, z2, z3, z4]) rfl ⟨FIN.out, ?_⟩
   exact blq
  have g1d : decide ((k : Int) + (M.size : Int) ≤ (s.size : Int)) = false := by simp; omega
  have hn : Hid (∀ j, j < q + 1 → ¬ mAt s k j) := by
   intro j hj
   by_cases e : j = q
   ·
    subst e
    intro hm
    have := hm.1
    rw [hMq.out] at this
    exact g1 this
   exact hall.out j (by omega)
  refine wp_region_held_drew (S := fun w' => w'.cell? ⟨mb, q, none⟩ = some (.string M)) (by kernel_rfl) ?_ (fun hHeld => ?_)
  ·
   exact cq
  refine wpr 0 151 ?_; simp only [zs]; refine wpr 1 152 ?_; simp only [zs]; refine wpr 2 153 ?_; simp only [zs]; refine wpr 3 154 ?_; simp only [zs]; refine wpr 4 155 ?_; simp only [zs]; refine wpr 5 156 ?_; simp only [zs]; refine wpr 6 157 ?_; simp only [zs]; refine wpAnyH_skip (by kernel_rfl) (fun _ _ _ _ h => h) [(7, 158), (8, 159), (9, 160), (10, 161), (11, 162), (12, 163), (13, 164), (14, 165), (15, 166), (16, 167), (17, 168)] 1 _ _ _ (by assumption) (by kernel_rfl) ?_ _ rfl
  simp only [zs]; refine wpr 18 169 ?_; simp only [zs]; refine wpAnyH_done (by kernel_rfl) ?_ _
  go_wp2_with fail; go_roundw
  case rel => exact ⟨q + 1, by omega, by go_num, hn, KR, hM, bl_drew hB⟩
  case measure => simp [intOf]; omega
 have hq16 : q = 16 := by omega
 have SP : stepF s k = (2, none, 0) := by
  rw [SF.out]
  exact mk_none hk hc.out (fun j hj => hall.out j (by omega))
 obtain ⟨z0, z1, z2, z3, z4, z5⟩ := KR.five
 have FIN : Hid (TokSays s k (.returned (.tuple #[.agg #[.int .i64 0, .int .i64 0, .string ⟨#[]⟩, .int .i64 0, .float .f64 0], .int .i64 2, .int .i64 0]))) := Or.inr ⟨2, by decide, rfl, SP⟩
 clear KR; go_wp2_with fail; refine bodyPost_ret (v := .tuple #[.agg #[.int .i64 0, .int .i64 0, .string ⟨#[]⟩, .int .i64 0, .float .f64 0], .int .i64 2, .int .i64 0]) (by simp [results, Tryz.results24, go_sem, z0, z1, z2, z3, z4]) rfl ⟨FIN.out, ?_⟩
 exact blq
end Go.Proofs.YtncknfkinmjmdaaGreatDoor
