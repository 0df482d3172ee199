import Derived.Test.YtncknfkinmjmdaaGreatDoorSp37
namespace Go.Proofs.YtncknfkinmjmdaaGreatDoor
open Go.RowKit
set_option linter.unusedVariables false
set_option linter.unusedSimpArgs false
theorem endF_le {s : ByteArray} {k e : Nat} {pt : Bool} {t : Tk} {j : Nat} (h : e ≤ s.size) (h0 : endF s k e pt = (0, some t, j)) : j ≤ s.size := by
 revert h0
 unfold endF
 repeat' split
 all_goals simp
 all_goals omega
theorem stepF_le {s : ByteArray} {k : Nat} {t : Tk} {j : Nat} (hk : k < s.size) (h0 : stepF s k = (0, some t, j)) : j ≤ s.size := by
 revert h0
 unfold stepF
 split
 ·
  intro h; simp at h
 split
 ·
  intro h; simp at h
 split
 ·
  have := runE_le (p := letB) (s := s) (k := k) (by omega)
  split
  ·
   intro h; simp at h; omega
  split
  ·
   intro h; simp at h
  intro h; simp at h; omega
 split
 ·
  unfold numF
  have h1 := runE_le (p := dgB) (s := s) (k := k) (by omega)
  split
  ·
   rename_i hp
   intro h
   refine endF_le (runE_le ?_) h
   unfold ptB at hp
   simp at hp; omega
  intro h
  exact endF_le h1 h
 split
 ·
  rename_i h
  simp only [Bool.and_eq_true, decide_eq_true_eq] at h
  intro hh; simp at hh; omega
 split
 ·
  intro h; simp at h; omega
 intro h; simp at h
theorem wpList_append_tok {w : World} {ops : Array Oper} {rest : List Oper} {o : Oper} {a : Act} {Q : Exit → Act → World → Prop}
  (hgd : o.guard = none) (s x : Operand) (hop : o.op = Op.call { callee := Callee.builtin Builtin.append, args := #[s, x], argTypes := #[31, 31] })
  (Bs : Nat) (s0 : Option Addr) (c0 : Nat) (L : List Tk) (hs : a.eval s = .slice s0 L.length c0) (hv : OT w Bs (.slice s0 L.length c0) L) (b : Nat) (t : Tk) (hx : a.eval x = .slice (some ⟨b, 0, none⟩) 1 1) (hb : Blk w b #[.int .i64 t.1, .int .i64 t.2.1, .string t.2.2.1, .int .i64 t.2.2.2.1, .float .f64 t.2.2.2.2] 47) (R : List Tk) (hR : L ++ [t] = R) (hl : L.length ≤ 4194304) (hB : Bs ≤ w.heap.size)
  (h : ∀ s' c' w', OT w' Bs (.slice s' R.length c') R → w.grownBy w' (Value.slice s0 L.length c0).ownBlock → Near w (.slice s0 L.length c0) (.slice s' R.length c') → wpList Tryz.prog ops Q rest (a.put o.dst (.slice s' R.length c')) w') :
  wpList Tryz.prog ops Q (o :: rest) a w := by
 refine wpList_plain hgd fun K hK => ?_
 obtain ⟨s', c', w', hrun, h1, h2, h3⟩ := append_tok w o.type Bs s0 c0 L hv b t hb hl hB
 rw [hR] at hrun h1 h3
 unfold Oper.wp
 simp [execOp, hop, resolve, invoke, builtin, hs, hx, hrun, Result.andThen]
 exact hK _ _ (h s' c' w' h1 h2 h3)
def lexAll (s : ByteArray) : Int × Int × List Tk := if 4000 < s.size then (1, 0, []) else full s 0 []
def LexSays (s : ByteArray) (B : Nat) (e : Ending) (w' : World) : Prop :=
 ∃ (sl : Option Addr) (cp : Nat) (c p : Int) (L : List Tk), e = .returned (.tuple #[.slice sl L.length cp, .int .i64 c, .int .i64 p]) ∧ lexAll s = (c, p, L) ∧ OT w' B (.slice sl L.length cp) L ∧ L.length ≤ 4000
theorem OT.nil (w : World) (B : Nat) : OT w B (.slice none 0 0) [] := ⟨rfl, Or.inl ⟨rfl, rfl⟩⟩
theorem OT.empty {w : World} {b : Nat} (h : Blk w b #[] 47) : OT w b (.slice (some ⟨b, 0, none⟩) 0 0) [] := ⟨rfl, Or.inr ⟨b, 0, _, rfl, Nat.le_refl _, h, Nat.le_refl _, by unfold maxLen; omega, rfl, rfl⟩⟩
set_option maxRecDepth 100000 in
set_option maxHeartbeats 8000000 in
theorem specLex_any (s : ByteArray) (w : World) :
  Calls Tryz.prog 9 #[.string s] w fun e w' => LexSays s w.heap.size e w' ∧ Below w.heap.size w w' := by
 have hal := alloc_old
 have haf := alloc_oldf
 by_cases hbig : (4000 : Int) < (s.size : Int)
 ·
  have LA : lexAll s = (1, 0, []) := by unfold lexAll; rw [if_pos (by omega)]
  go_enter Tryz.func9, Tryz.ntmps9
  go_wp2_with fail; go_ret3
  exact ⟨⟨none, 0, 1, 0, [], rfl, LA, OT.nil _ _, by simp⟩, Below.refl _ _⟩
 have hs : s.size ≤ 4000 := by omega
 have LA : Hid (lexAll s = full s 0 []) := by show _ = _; unfold lexAll; rw [if_neg (by omega)]
 have k0 := Blk.new w #[] 47
 have O0 : OT (w.alloc (.cells #[] 47)) w.heap.size (.slice (some ⟨w.heap.size, 0, none⟩) 0 0) [] := OT.empty k0
 have B0 := bl_alloc (Below.refl _ w) (.cells #[] 47)
 go_enter Tryz.func9, Tryz.ntmps9
 go_wp2_with fail; go_loopw [5, 6] (fun o i wr => ∃ (k : Nat) (sl : Option Addr) (cp : Nat) (L : List Tk), k ≤ s.size ∧ L.length ≤ k ∧ i = .int .i64 k ∧ o = .slice sl L.length cp ∧ Hid (full s k L = full s 0 []) ∧ OT wr w.heap.size (.slice sl L.length cp) L ∧ Below w.heap.size w wr) (fun _ i _ => s.size - (intOf i).toNat)
 case atStart => exact ⟨0, _, _, [], Nat.zero_le _, Nat.zero_le _, rfl, rfl, rfl, O0, B0⟩
 clear k0 O0 B0; obtain ⟨k, sl, cp, L, hk, hLk, rfl, rfl, hF, hO, hB⟩ := hrel
 by_cases hlt : k < s.size
 case neg =>
  have hltI : ¬ (k : Int) < (s.size : Int) := by omega
  have FIN : Hid (lexAll s = (0, 0, L)) := by show _ = _; rw [LA.out, ← hF.out, full_end hlt]
  go_wp2_with fail; go_ret3
  exact ⟨⟨sl, cp, 0, 0, L, rfl, FIN.out, hO, by omega⟩, hB⟩
 have hltI : (k : Int) < (s.size : Int) := by omega
 have hi := run_index_at s k hlt
 simp only [byA_eq hlt] at hi
 obtain ⟨c, hc⟩ : ∃ c, Hid (byA s k = c) := ⟨_, (rfl : byA s k = byA s k)⟩
 rw [hc.out] at hi
 have SKIP : Hid (isBl c = true → full s (k + 1) L = full s 0 []) := by
  intro h
  rw [← hF.out, full_skip (j := k + 1) hlt (by unfold stepF; rw [hc.out, if_pos h])]
 cases g9 : ((c : Int) == 9)
 case true =>
  have hn : Hid (full s (k + 1) L = full s 0 []) := SKIP.out (by unfold isBl; simp at g9 ⊢; omega)
  go_wp2_with fail; go_roundw
  case rel => exact ⟨k + 1, sl, cp, L, by omega, by omega, by go_num, rfl, hn, hO, hB⟩
  case measure => simp [intOf]; omega
 cases g10 : ((c : Int) == 10)
 case true =>
  have hn : Hid (full s (k + 1) L = full s 0 []) := SKIP.out (by unfold isBl; simp at g10 ⊢; omega)
  go_wp2_with fail; go_roundw
  case rel => exact ⟨k + 1, sl, cp, L, by omega, by omega, by go_num, rfl, hn, hO, hB⟩
  case measure => simp [intOf]; omega
 cases g32 : ((c : Int) == 32)
 case true =>
  have hn : Hid (full s (k + 1) L = full s 0 []) := SKIP.out (by unfold isBl; simp at g32 ⊢; omega)
  go_wp2_with fail; go_roundw
  case rel => exact ⟨k + 1, sl, cp, L, by omega, by omega, by go_num, rfl, hn, hO, hB⟩
  case measure => simp [intOf]; omega
 have hbl : Hid (isBl c = false) := by
  show _ = _
  unfold isBl
  simp at g9 g10 g32 ⊢; omega
 cases g35 : ((c : Int) == 35)
 case true =>
  have S35 : Hid (full s (runE inLn s k) L = full s 0 []) := by
   show _ = _
   rw [← hF.out, full_skip (j := runE inLn s k) hlt (by unfold stepF; rw [hc.out, hbl.out]; simp at g35 ⊢; omega)]
  have HG : Hid (k < runE inLn s k) := runE_gt hlt (by rw [hc.out]; unfold inLn; simp at g35 ⊢; omega)
  go_wp2_with fail; go_loop [6] (fun i => ∃ q : Nat, k ≤ q ∧ q ≤ s.size ∧ i = .int .i64 q ∧ Hid (∀ j, k ≤ j → j < q → inLn (byA s j) = true)) (fun i => s.size - (intOf i).toNat)
  case atStart => exact ⟨k, Nat.le_refl _, hk, rfl, fun j h1 h2 => absurd h1 (by omega)⟩
  obtain ⟨q, kq, hq, rfl, hall⟩ := hrel
  by_cases hql : q < s.size
  ·
   have hj := run_index_at s q hql
   simp only [byA_eq hql] at hj
   have hqI : (q : Int) < (s.size : Int) := by omega
   cases hb : ((byA s q : Int) != 10)
   ·
    have HE : runE inLn s k = q := runE_eq hq (fun _ => by unfold inLn; simp at hb ⊢; omega) (q - k) k (by omega) hall.out
    have S9 : Hid (full s q L = full s 0 []) := by rw [← HE]; exact S35.out
    have HG9 : k < q := by rw [← HE]; exact HG.out
    clear HE hi; go_wp2_with fail; go_roundw
    case rel => exact ⟨q, sl, cp, L, by omega, by omega, rfl, rfl, S9, hO, hB⟩
    case measure => simp [intOf]; omega
   clear hi; go_wp2_with fail; go_round
   case rel => exact ⟨q + 1, by omega, by omega, by go_num, fun j h1 h2 => by
    by_cases h : j = q
    ·
     subst h; unfold inLn; simp at hb ⊢; omega
    exact hall.out j h1 (by omega)⟩
   case measure => simp [intOf]; omega
  have hqI : ¬ (q : Int) < (s.size : Int) := by omega
  have HE : runE inLn s k = q := runE_eq hq (fun h => absurd h hql) (q - k) k (by omega) hall.out
  have S9 : Hid (full s q L = full s 0 []) := by rw [← HE]; exact S35.out
  have HG9 : k < q := by rw [← HE]; exact HG.out
  clear HE hi; go_wp2_with fail; go_roundw
  case rel => exact ⟨q, sl, cp, L, by omega, by omega, rfl, rfl, S9, hO, hB⟩
  case measure => simp [intOf]; omega
 have h35 : Hid (decide (byA s k = 35) = false) := by
  show _ = _
  rw [hc.out]; simp at g35 ⊢; omega
 go_wp2_with fail; refine (l7Token_any s k hlt hs (by rw [hc.out]; exact hbl.out) h35.out _).mono ?_
 rintro e w2 ⟨hT, hb2⟩
 have hO := hO.later hb2
 have hB := bl_trans hB hb2
 clear hb2 hi g9 g10 g32 g35; rcases hT with ⟨t, j, rfl, hS⟩ | ⟨cd, hcd, rfl, hS⟩
 ·
  have hkj : k < j := by have := stepF_gt hlt (by rw [hS]); rw [hS] at this; exact this
  have hjs : Hid (full s j (L ++ [t]) = full s 0 []) := by show _ = _; rw [← hF.out, full_tok hlt hS]
  have hjl : j ≤ s.size := stepF_le hlt hS
  obtain ⟨t1, t2, t3, t4, t5⟩ := t
  have KA := Blk.new w2 #[.int .i64 t1, .int .i64 t2, .string t3, .int .i64 t4, .float .f64 t5] 47
  have KB := Blk.new' (w2.alloc (.cells #[.int .i64 t1, .int .i64 t2, .string t3, .int .i64 t4, .float .f64 t5] 47)) #[.int .i64 t1, .int .i64 t2, .string t3, .int .i64 t4, .float .f64 t5] 47 (n := w2.heap.size + 1) (by simp)
  have hO3 := (hO.alloc (.cells #[.int .i64 t1, .int .i64 t2, .string t3, .int .i64 t4, .float .f64 t5] 47)).alloc (.cells #[.int .i64 t1, .int .i64 t2, .string t3, .int .i64 t4, .float .f64 t5] 47)
  have hB3 := bl_alloc (bl_alloc hB (.cells #[.int .i64 t1, .int .i64 t2, .string t3, .int .i64 t4, .float .f64 t5] 47)) (.cells #[.int .i64 t1, .int .i64 t2, .string t3, .int .i64 t4, .float .f64 t5] 47)
  obtain ⟨x0, x1, x2, x3, x4, x5⟩ := KA.five
  obtain ⟨R, hR⟩ : ∃ R, Hid (L ++ [(t1, t2, t3, t4, t5)] = R) := ⟨_, (rfl : L ++ [(t1, t2, t3, t4, t5)] = L ++ [(t1, t2, t3, t4, t5)])⟩
  have hRl : R.length = L.length + 1 := by rw [← hR.out]; simp
  have HRL : Hid (R.length = L.length + 1) := hRl
  rw [hR.out] at hjs
  clear hRl; go_wp2_with (at_builtin; refine wpList_append_tok rfl _ _ rfl w.heap.size sl cp L rfl hO3 (w2.heap.size + 1) (t1, t2, t3, t4, t5) rfl KB R hR.out (by omega) hB3.size ?_; intro s' c' w' h1 h2 h3; have hB4 : Below w.heap.size w w' := hB3.grown h2 hB3.size (fun q hq => (hO3.lt q hq).1); clear KA KB x0 x1 x2 x3 x4 x5 hO3 hB3 h2 h3); go_roundw
  case rel => exact ⟨j, s', c', R, hjl, by have := HRL.out; omega, rfl, rfl, hjs, h1, hB4⟩
  case measure => simp [intOf]; omega
 have FIN : Hid (lexAll s = (cd, (k : Int), [])) := by show _ = _; rw [LA.out, ← hF.out, full_bad hlt hS hcd]
 have hcb : ((cd : Int) != 0) = true := by simp; exact hcd
 go_wp2_with fail; go_ret3
 exact ⟨⟨none, 0, cd, k, [], rfl, FIN.out, OT.nil _ _, by simp⟩, by (repeat (first | with_reducible exact Below.refl _ _ | with_reducible refine bl_alloc ?_ _ | with_reducible refine bl_drewN ?_ _ | with_reducible refine bl_drew ?_ | with_reducible refine bl_setCell ?_ (by first | exact Nat.le_refl _ | (dsimp only; omega) | (simp <;> omega)) _ | with_reducible refine bl_trans ?_ (by with_reducible assumption)))⟩
end Go.Proofs.YtncknfkinmjmdaaGreatDoor
