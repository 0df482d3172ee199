import Derived.Test.YtddlkejinhbpaaaDoorXp
import Derived.Laws.BytesString
import Derived.Laws.BytesArg
namespace Go.Proofs.YtddlkejinhbpaaaDoor
open Go.RowKit
set_option linter.unusedVariables false
set_option linter.unusedSimpArgs false

theorem one_byte (w : World) (c : Int) : (convert 55 9 (.slice (some ⟨w.heap.size, 0, none⟩) 1 1)).run Tryd.prog (w.alloc (.cells #[.int .u8 c] 5)) = .ok (.string (ByteArray.empty.push (UInt8.ofNat c.toNat))) (w.alloc (.cells #[.int .u8 c] 5)) := by
  rw [run_convert_bytes_string _ _ _ _ _ _ _ Tryd.underlying55 Tryd.underlying5 Tryd.underlying9]
  rw [run_bytesToString _ _ 1 1 [c] (by simp [go_sem])]
  rfl
theorem push_size (x : UInt8) (t : ByteArray) : (ByteArray.empty.push x ++ t).size = 1 + t.size := by
  rw [ByteArray.size_append]; rfl
theorem m_size (t : ByteArray) : ((⟨#[109]⟩ : ByteArray) ++ t).size = 1 + t.size := by
  rw [ByteArray.size_append]; rfl
/-- the digits of a number ahead of a text. -/
def mDg (k : Nat) (t : ByteArray) : ByteArray := if h : k = 0 then t else mDg (k / 10) (ByteArray.empty.push (UInt8.ofNat (48 + k % 10)) ++ t)
termination_by k
decreasing_by omega
def mTx (k : Int) : ByteArray := (⟨#[109]⟩ : ByteArray) ++ mDg k.toNat ⟨#[]⟩

set_option maxHeartbeats 1000000 in
theorem markText_is (k : Int) (w : World) (h0 : 1 ≤ k) (h1 : k ≤ 100000000) :
    Calls Tryd.prog 13 #[.int .i64 k] w fun e w' => e = .returned (.string (mTx k)) ∧ Below w.heap.size w w' := by
  have hob := one_byte
  obtain ⟨R, hR⟩ : ∃ R, Hid (mDg k.toNat ⟨#[]⟩ = R) := ⟨_, (rfl : mDg k.toNat ⟨#[]⟩ = _)⟩
  have hX : Hid (mTx k = (⟨#[109]⟩ : ByteArray) ++ R) := by show mTx k = _; unfold mTx; rw [hR.out]
  go_enter Tryd.func13, Tryd.ntmps13
  go_wp2_with fail
  go_loopw [0, 3] (fun x s wr => ∃ (k : Int) (t : ByteArray), x = .int .i64 k ∧ s = .string t ∧ 0 ≤ k ∧ k ≤ 100000000 ∧ (t.size : Int) + k ≤ 100000000 ∧ Hid (mDg k.toNat t = R) ∧ Below w.heap.size w wr) (fun x _ _ => (intOf x).toNat)
  case atStart => exact ⟨k, _, rfl, rfl, by omega, by omega, by rw [show ((⟨#[]⟩ : ByteArray).size : Int) = 0 from rfl]; omega, hR, Below.refl _ _⟩
  case round =>
    obtain ⟨k, t, rfl, rfl, k0, k1, kt, hr, hb⟩ := hrel
    have hts : ¬ 9223372036854775807 < 1 + t.size := by omega
    by_cases hk : 0 < k
    · go_wp2_with fail
      refine ⟨⟨k / 10, _, rfl, rfl, by omega, by omega, ?_, ?_, bl_alloc hb _⟩, ?_⟩
      · rw [push_size]; omega
      · show _ = R
        rw [← hr.out]
        conv => rhs; unfold mDg
        rw [dif_neg (by omega), show (k / 10).toNat = k.toNat / 10 by omega]
        rw [show (48 + k % 10).toNat = 48 + k.toNat % 10 by omega]
      · simp [intOf]; omega
    · have hk0 : k = 0 := by omega
      subst hk0
      go_wp2_with fail
      go_ret
      refine ⟨?_, hb⟩
      have := hr.out
      unfold mDg at this
      simp at this
      rw [hX.out, ← this]
      rfl

/-- a token that is right to be compared. -/
def okT (t : Tk) : Prop := t.2.2.2.2 < 18446744073709551616
theorem realV_lt {t : ByteArray} {r : Nat} (h : realV t = some r) : r < 18446744073709551616 := by
  unfold realV at h
  split at h
  · rw [Option.bind_eq_some_iff] at h
    obtain ⟨n, _, hn⟩ := h
    have := floatBits_wf hn
    simpa [Lit.wf] using this
  · cases h
theorem endF_ok {s : ByteArray} {k e : Nat} {pt : Bool} {t : Tk} {j : Nat} (h : endF s k e pt = (0, some t, j)) : okT t := by
  unfold endF at h
  repeat' split at h
  all_goals simp only [Prod.mk.injEq, Option.some.injEq, reduceCtorEq, and_false, false_and] at h
  · rename_i h3
    obtain ⟨_, rfl, _⟩ := h
    exact realV_lt h3
  · obtain ⟨_, rfl, _⟩ := h
    show 0 < 18446744073709551616
    omega
theorem stepF_ok {s : ByteArray} {k : Nat} {t : Tk} {j : Nat} (h : stepF s k = (0, some t, j)) : okT t := by
  have z : 0 < 18446744073709551616 := by omega
  unfold stepF at h
  split at h
  · simp at h
  · split at h
    · simp at h
    · split at h
      · repeat' split at h
        all_goals simp only [Prod.mk.injEq, Option.some.injEq, reduceCtorEq, and_false, false_and] at h
        · obtain ⟨_, rfl, _⟩ := h; exact z
        · obtain ⟨_, rfl, _⟩ := h; exact z
      · split at h
        · unfold numF at h
          split at h
          · exact endF_ok h
          · exact endF_ok h
        · repeat' split at h
          all_goals simp only [Prod.mk.injEq, Option.some.injEq, reduceCtorEq, and_false, false_and] at h
          · obtain ⟨_, rfl, _⟩ := h; exact z
          · obtain ⟨_, rfl, _⟩ := h; exact z
theorem lexF_ok (s : ByteArray) : ∀ (n k : Nat) (L : List Tk), (∀ t ∈ L, okT t) → ∀ t ∈ (lexF s n k L).2.2, okT t
  | 0, k, L, h => by intro t ht; simp [lexF] at ht
  | n + 1, k, L, h => by
    intro t ht
    unfold lexF at ht
    split at ht
    · split at ht
      · rename_i h0
        refine lexF_ok s n _ _ ?_ t ht
        intro u hu
        rcases List.mem_append.1 hu with hu | hu
        · exact h u hu
        · have hu' : (stepF s k).2.1 = some u := by simpa using hu
          exact stepF_ok (s := s) (k := k) (j := (stepF s k).2.2) (by rw [← hu', ← h0])
      · simp at ht
    · exact h t ht
theorem lexAll_ok {s : ByteArray} {c p : Int} {L : List Tk} (h : lexAll s = (c, p, L)) : ∀ t ∈ L, okT t := by
  unfold lexAll at h
  split at h
  · simp at h; obtain ⟨_, _, rfl⟩ := h; intro t ht; simp at ht
  · have := lexF_ok s (s.size + 1 - 0 + 1) 0 [] (fun t ht => by simp at ht)
    unfold full at h
    rw [h] at this
    exact this
def mT1 (k : Int) : Tk := (k, k + 1, mTx (k + 1 + 1), k + 1 + 1 + 1, floatOfInt .f64 (k + 1 + 1 + 1 + 1))
def mTs (k : Int) (n : Nat) : List Tk := (List.range n).map fun (i : Nat) => mT1 (k + 5 * (i : Int))
theorem mTs_len (k : Int) (n : Nat) : (mTs k n).length = n := by simp [mTs]
theorem mTs_succ (k : Int) (n : Nat) : mTs k (n + 1) = mTs k n ++ [mT1 (k + 5 * (n : Int))] := by simp [mTs, List.range_succ]
theorem mTs_at (k : Int) (n j : Nat) (h : j < n) : (mTs k n)[j]? = some (mT1 (k + 5 * (j : Int))) := by simp [mTs, h]
/-- an own row of tokens, one of them by its cells. -/
def Rw (w : World) (B g n cap : Nat) (A M C : List Value) : Prop := w.ownsRow B 30 5 (.slice (some ⟨g, 0, none⟩) n cap) n (A ++ (M ++ C))
theorem Rw.set {w : World} {B g n cap : Nat} {A M C : List Value} (h : Rw w B g n cap A M C) {q i : Nat} (hq : q = A.length + i) (hi : i < M.length) (u : Value) : Rw (w.setCell ⟨g, q, none⟩ u) B g n cap A (M.set i u) C := by
  subst hq
  have := (World.ownsRow.stored h (A.length + i) u).1
  rw [set_mid _ _ _ _ _ hi] at this
  exact this
theorem Rw.later {w w' : World} {B g n cap : Nat} {A M C : List Value} (h : Rw w B g n cap A M C) (hb : Below w.heap.size w w') : Rw w' B g n cap A M C := by
  refine World.ownsRow.kept h (grown_of_below hb) ?_
  exact Or.inr (by intro e; cases e)
theorem Rw.cell {w : World} {B g n cap : Nat} {A M C : List Value} (h : Rw w B g n cap A M C) {q i : Nat} (hq : q = A.length + i) {u : Value} (hi : M[i]? = some u) (hl : A.length + M.length ≤ n * 5) : w.cell? ⟨g, q, none⟩ = some u := by
  subst hq
  have hi' : i < M.length := (List.getElem?_eq_some_iff.1 hi).1
  rw [World.ownsRow.cellAt h (A.length + i) (by omega), List.getElem?_append_right (by omega), show A.length + i - A.length = i by omega, List.getElem?_append_left hi', hi]
theorem Rw.frozen {w : World} {B g n cap : Nat} {A M C : List Value} (h : Rw w B g n cap A M C) (o : Nat) : w.frozen? ⟨g, o, none⟩ = false := World.ownsRow.frozenAt h o
/-- nothing that was there turns but block g. -/
def Only (g : Nat) (w w' : World) : Prop := w.os = w'.os ∧ w.heap.size ≤ w'.heap.size ∧ (∀ W : World, ∀ B, B ≤ g → Below B W w → Below B W w') ∧ ∀ k, ¬ k = g → k < w.heap.size → w'.heap[k]? = w.heap[k]?
theorem Only.refl (g : Nat) (w : World) : Only g w w := ⟨rfl, Nat.le_refl _, fun _ _ _ h => h, fun _ _ _ => rfl⟩
theorem Only.set {g : Nat} {w w' : World} (h : Only g w w') (o : Nat) (u : Value) : Only g w (w'.setCell ⟨g, o, none⟩ u) :=
  ⟨h.1, by simpa using h.2.1, fun W B hB hb => (h.2.2.1 W B hB hb).setCell hB u, fun k hk hl => (Below.heap_setCell w' ⟨g, o, none⟩ u k (by simpa using hk)).trans (h.2.2.2 k hk hl)⟩
theorem Only.later {g : Nat} {w w' w2 : World} (h : Only g w w') (hg : g < w'.heap.size) (hb : Below w'.heap.size w' w2) : Only g w w2 :=
  ⟨h.1.trans hb.os.symm, Nat.le_trans h.2.1 hb.size, fun W B hB h2 => (h.2.2.1 W B hB h2).trans (hb.mono (by omega)), fun k hk hl => (hb.block k (Nat.lt_of_lt_of_le hl h.2.1)).trans (h.2.2.2 k hk hl)⟩

set_option maxHeartbeats 4000000 in
theorem markTokenS_row (B g cap : Nat) (L : List Tk) (k : Int) (w : World) (h : TR w B g L.length cap L) (hl : L.length ≤ 4000) (h0 : 1 ≤ k) (h1 : k ≤ 1000) :
    Calls Tryd.prog 7 #[.slice (some ⟨g, 0, none⟩) L.length cap, .int .i64 k] w fun e w' => e = .returned (.int .i64 (k + 5 * (L.length : Int))) ∧ TR w' B g L.length cap (mTs k L.length) ∧ Only g w w' := by
  have hgl := h.lt
  go_enter Tryd.func7, Tryd.ntmps7
  go_wp2_with fail
  go_loopw [1, 5] (fun x i wr => ∃ m : Nat, m ≤ L.length ∧ i = .int .i64 m ∧ x = .int .i64 (k + 5 * (m : Int)) ∧ Hid (TR wr B g L.length cap (mTs k m ++ L.drop m)) ∧ Hid (Only g w wr)) (fun _ i _ => L.length - (intOf i).toNat)
  case atStart => exact ⟨0, Nat.zero_le _, rfl, by simp, by simpa [mTs, Hid] using h, Only.refl _ _⟩
  case round =>
    obtain ⟨m, hm, rfl, rfl, hrow, hon⟩ := hrel
    by_cases hlt : m < L.length
    · obtain ⟨p, hp⟩ := get_some hlt
      have ed : L.drop m = p :: L.drop (m + 1) := by rw [List.drop_eq_getElem_cons hlt]; congr 1; simpa [hlt] using hp
      have hA : ((mTs k m).flatMap tcells).length = m * 5 := by rw [flat_len tcells_len, mTs_len]
      obtain ⟨A, hAe⟩ : ∃ A, Hid ((mTs k m).flatMap tcells = A) := ⟨_, (rfl : (mTs k m).flatMap tcells = _)⟩
      obtain ⟨C, hCe⟩ : ∃ C, Hid ((L.drop (m + 1)).flatMap tcells = C) := ⟨_, (rfl : (L.drop (m + 1)).flatMap tcells = _)⟩
      have hr : Rw wr B g L.length cap A [.int .i64 p.1, .int .i64 p.2.1, .string p.2.2.1, .int .i64 p.2.2.2.1, .float .f64 p.2.2.2.2] C := by
        have := hrow.out
        rw [ed] at this
        unfold TR at this
        rw [List.flatMap_append, List.flatMap_cons, hAe.out, hCe.out] at this
        exact this
      rw [hAe.out] at hA
      have hz : A.length + 5 ≤ L.length * 5 := by omega
      have c0 := hr.cell (q := m * 5) (i := 0) (by omega) rfl hz
      have c1 := hr.cell (q := m * 5 + 1) (i := 1) (by omega) rfl hz
      have fz := hr.frozen
      have r2 := (hr.set (q := m * 5) (i := 0) (by omega) (by simp) (.int .i64 (k + 5 * (m : Int)))).set (q := m * 5 + 1) (i := 1) (by omega) (by simp) (.int .i64 (k + 5 * (m : Int) + 1))
      have o2 := (hon.out.set (m * 5) (.int .i64 (k + 5 * (m : Int)))).set (m * 5 + 1) (.int .i64 (k + 5 * (m : Int) + 1))
      have HZ : Hid (A.length + 5 ≤ L.length * 5) := hz
      have HA : Hid (A.length = m * 5) := hA
      clear hz hA hrow hon hr ed
      go_wp2_with fail
      generalize hG2 : (wr.setCell ⟨g, m * 5, none⟩ (.int .i64 (k + 5 * (m : Int)))).setCell ⟨g, m * 5 + 1, none⟩ (.int .i64 (k + 5 * (m : Int) + 1)) = w2 at r2 o2 ⊢
      clear hG2 c0 c1 fz
      refine (markText_is _ w2 (by omega) (by omega)).mono ?_
      rintro e w3 ⟨rfl, hb3⟩
      have r3 := r2.later hb3
      have o3 := o2.later (World.ownsRow.lt r2 g rfl).2 hb3
      have c2 := r3.cell (q := m * 5 + 2) (i := 2) (by have := HA.out; omega) rfl HZ.out
      have c3 := r3.cell (q := m * 5 + 3) (i := 3) (by have := HA.out; omega) rfl HZ.out
      have c4 := r3.cell (q := m * 5 + 4) (i := 4) (by have := HA.out; omega) rfl HZ.out
      have fz := r3.frozen
      obtain ⟨tx, htx⟩ : ∃ tx, Hid (mTx (k + 5 * (m : Int) + 1 + 1) = tx) := ⟨_, (rfl : mTx (k + 5 * (m : Int) + 1 + 1) = _)⟩
      rw [htx.out]
      have r4 := ((r3.set (q := m * 5 + 2) (i := 2) (by have := HA.out; omega) (by simp) (.string tx)).set (q := m * 5 + 3) (i := 3) (by have := HA.out; omega) (by simp) (.int .i64 (k + 5 * (m : Int) + 1 + 1 + 1))).set (q := m * 5 + 4) (i := 4) (by have := HA.out; omega) (by simp) (.float .f64 (floatOfInt .f64 (k + 5 * (m : Int) + 1 + 1 + 1 + 1)))
      have HO : Hid (Only g w (((w3.setCell ⟨g, m * 5 + 2, none⟩ (.string tx)).setCell ⟨g, m * 5 + 3, none⟩ (.int .i64 (k + 5 * (m : Int) + 1 + 1 + 1))).setCell ⟨g, m * 5 + 4, none⟩ (.float .f64 (floatOfInt .f64 (k + 5 * (m : Int) + 1 + 1 + 1 + 1))))) := ((o3.set _ _).set _ _).set _ _
      have HP : Hid (TR (((w3.setCell ⟨g, m * 5 + 2, none⟩ (.string tx)).setCell ⟨g, m * 5 + 3, none⟩ (.int .i64 (k + 5 * (m : Int) + 1 + 1 + 1))).setCell ⟨g, m * 5 + 4, none⟩ (.float .f64 (floatOfInt .f64 (k + 5 * (m : Int) + 1 + 1 + 1 + 1)))) B g L.length cap (mTs k (m + 1) ++ L.drop (m + 1))) := by
        show TR _ _ _ _ _ _
        unfold TR
        rw [mTs_succ, List.append_assoc, List.flatMap_append, List.flatMap_append, hAe.out, hCe.out]
        rw [← htx.out]
        rw [← htx.out] at r4
        exact r4
      clear r2 r3 r4 o2 o3 hb3 h hp
      go_wp2_with fail
      refine ⟨⟨m + 1, by omega, by go_num, ?_, HP, HO⟩, by simp [intOf]; omega⟩
      congr 1; simp; omega
    · have hm' : m = L.length := by omega
      subst hm'
      have hr := hrow.out
      simp at hr
      go_wp2_with fail
      go_ret
      exact ⟨rfl, hr, hon.out⟩
set_option maxHeartbeats 1000000 in
theorem markTok_nil (k : Int) (w : World) : Calls Tryd.prog 7 #[.slice none 0 0, .int .i64 k] w fun e w' => e = .returned (.int .i64 k) ∧ w' = w := by
  go_enter Tryd.func7, Tryd.ntmps7
  go_wp2_with fail
  go_loopw [1, 5] (fun x i wr => i = .int .i64 0 ∧ x = .int .i64 k ∧ wr = w) (fun _ i _ => 0)
  case atStart => exact ⟨rfl, rfl, rfl⟩
  case round =>
    obtain ⟨rfl, rfl, rfl⟩ := hrel
    go_wp2_with fail
    go_ret
    exact ⟨rfl, rfl⟩
theorem markTok_any (B : Nat) (s : Option Addr) (c : Nat) (L : List Tk) (k : Int) (w : World) (h : OT w B (.slice s L.length c) L) (hl : L.length ≤ 4000) (h0 : 1 ≤ k) (h1 : k ≤ 1000) :
    Calls Tryd.prog 7 #[.slice s L.length c, .int .i64 k] w fun e w' => e = .returned (.int .i64 (k + 5 * (L.length : Int))) ∧ OT w' B (.slice s L.length c) (mTs k L.length) ∧ Just (.slice s L.length c) B w w' := by
  rcases h.form with ⟨h2, rfl⟩ | ⟨g, cap, h2, hg, hr⟩
  · simp only [Value.slice.injEq] at h2
    obtain ⟨rfl, _, rfl⟩ := h2
    refine (markTok_nil k w).mono fun e w' ⟨he, hw⟩ => ?_
    subst he hw
    exact ⟨by simp, OT.nil _ _, Just.refl _ _ _⟩
  · simp only [Value.slice.injEq] at h2
    obtain ⟨rfl, _, rfl⟩ := h2
    refine (markTokenS_row B g c L k w hr hl h0 h1).mono fun e w' ⟨he, hv, ho⟩ => ?_
    subst he
    refine ⟨rfl, ?_, ho.2.2.1 w B hg (Below.refl _ _), fun j hj hl => ho.2.2.2 j (fun e => hj (by rw [e]; rfl)) hl⟩
    unfold OT
    rw [mTs_len]
    exact hv

set_option maxHeartbeats 4000000 in
theorem heldTok_row (B g cap n : Nat) (k : Int) (w : World) (h : TR w B g n cap (mTs k n)) (hl : n ≤ 4000) (h0 : 1 ≤ k) (h1 : k ≤ 1000) :
    Calls Tryd.prog 8 #[.slice (some ⟨g, 0, none⟩) n cap, .int .i64 k] w fun e w' => e = .returned (.int .i64 (k + 5 * (n : Int))) ∧ Below w.heap.size w w' := by
  go_enter Tryd.func8, Tryd.ntmps8
  go_wp2_with fail
  go_loopw [1, 5] (fun x i wr => ∃ m : Nat, m ≤ n ∧ i = .int .i64 m ∧ x = .int .i64 (k + 5 * (m : Int)) ∧ Hid (Below w.heap.size w wr)) (fun _ i _ => n - (intOf i).toNat)
  case atStart => exact ⟨0, Nat.zero_le _, rfl, by simp, Below.refl _ _⟩
  case round =>
    obtain ⟨m, hm, rfl, rfl, hbw⟩ := hrel
    have HR : TR wr B g n cap (mTs k n) := World.ownsRow.kept h (grown_of_below hbw.out) (Or.inr (by intro e; cases e))
    by_cases hlt : m < n
    · obtain ⟨c0, c1, c2, c3, c4, fz⟩ := HR.cells (mTs_len k n) (mTs_at k n m hlt)
      have hgl := HR.lt
      simp only [mT1] at c0 c1 c2 c3 c4
      have q0 : ((k + 5 * (m : Int)) != (k + 5 * (m : Int))) = false := by simp
      have q1 : ((k + 5 * (m : Int) + 1) != (k + 5 * (m : Int) + 1)) = false := by simp
      obtain ⟨tx, htx⟩ : ∃ tx, Hid (mTx (k + 5 * (m : Int) + 1 + 1) = tx) := ⟨_, (rfl : mTx (k + 5 * (m : Int) + 1 + 1) = _)⟩
      rw [htx.out] at c2
      have hxx : (tx.toList == tx.toList) = true := by simp
      clear h
      go_wp2_with fail
      refine wp_region_held_drew (S := fun w' => w'.cell? ⟨g, m * 5 + 2, none⟩ = some (.string tx)) (by kernel_rfl) ?_ (fun hHeld => ?_)
      · exact c2
      refine wpAnyH_one (i := 0) (d := 30) (v := ?_) rfl rfl (by kernel_rfl) (by kernel_rfl) (by kernel_rfl) (fun _ _ _ h => h) (by rfl) (by assumption) ?_ ?_
      rotate_left 1
      · intro w hSw; (try dsimp only at hSw); go_simp <;> with_reducible rfl
      simp only [List.foldl, Act.put, List.setIfInBounds_toArray, List.set_cons_zero, List.set_cons_succ]
      refine wpAnyH_one (i := 1) (d := 31) (v := ?_) rfl rfl (by kernel_rfl) (by kernel_rfl) (by kernel_rfl) (fun _ _ _ h => h) (by rfl) (by assumption) ?_ ?_
      rotate_left 1
      · intro w hSw; (try dsimp only at hSw); go_simp <;> with_reducible rfl
      simp only [List.foldl, Act.put, List.setIfInBounds_toArray, List.set_cons_zero, List.set_cons_succ]
      refine wpAnyH_one (i := 2) (d := 32) (v := ?_) rfl rfl (by kernel_rfl) (by kernel_rfl) (by kernel_rfl) (fun _ _ _ h => h) (by rfl) (by assumption) ?_ ?_
      rotate_left 1
      · intro w hSw; (try dsimp only at hSw); go_simp <;> with_reducible rfl
      simp only [List.foldl, Act.put, List.setIfInBounds_toArray, List.set_cons_zero, List.set_cons_succ]
      refine wpAnyH_one (i := 3) (d := 33) (v := ?_) rfl rfl (by kernel_rfl) (by kernel_rfl) (by kernel_rfl) (fun _ _ _ h => h) (by rfl) (by assumption) ?_ ?_
      rotate_left 1
      · intro w hSw; (try dsimp only at hSw); go_simp <;> with_reducible rfl
      simp only [List.foldl, Act.put, List.setIfInBounds_toArray, List.set_cons_zero, List.set_cons_succ]
      refine wpAnyH_one (i := 4) (d := 34) (v := ?_) rfl rfl (by kernel_rfl) (by kernel_rfl) (by kernel_rfl) (fun _ _ _ h => h) (by rfl) (by assumption) ?_ ?_
      rotate_left 1
      · intro w hSw; (try dsimp only at hSw); go_simp <;> with_reducible rfl
      simp only [List.foldl, Act.put, List.setIfInBounds_toArray, List.set_cons_zero, List.set_cons_succ]
      refine wpAnyH_one (i := 5) (d := 35) (v := ?_) rfl rfl (by kernel_rfl) (by kernel_rfl) (by kernel_rfl) (fun _ _ _ h => h) (by rfl) (by assumption) ?_ ?_
      rotate_left 1
      · intro w hSw; (try dsimp only at hSw); go_simp <;> with_reducible rfl
      simp only [List.foldl, Act.put, List.setIfInBounds_toArray, List.set_cons_zero, List.set_cons_succ]
      refine wpAnyH_ready (rs := [6]) (by kernel_rfl) (by simp) ?_
      refine AllReadyH.cons rfl (fun K hK => ?_) AllReadyH.nil
      go_simp
      refine (markText_is _ _ (by omega) (by omega)).mono ?_
      rintro e w2 ⟨rfl, hb2⟩
      rw [htx.out]
      refine hK.out _ _ ?_ (fun hHeld => ?_)
      · exact (hb2.cell (p := ⟨g, m * 5 + 2, none⟩) hgl.2).trans c2
      clear hK K
      try simp only [List.foldl, Act.put, List.setIfInBounds_toArray, List.set_cons_zero, List.set_cons_succ]
      refine wpAnyH_one (i := 7) (d := 37) (v := ?_) rfl rfl (by kernel_rfl) (by kernel_rfl) (by kernel_rfl) (fun _ _ _ h => h) (by rfl) (by assumption) ?_ ?_
      rotate_left 1
      · intro w hSw; (try dsimp only at hSw); go_simp <;> with_reducible rfl
      simp only [List.foldl, Act.put, List.setIfInBounds_toArray, List.set_cons_zero, List.set_cons_succ]
      refine wpAnyH_done (by kernel_rfl) ?_ _
      have HB : Hid (Below w.heap.size w w2) := bl_trans hbw.out (bl_trans (bl_drew (Below.refl _ _)) hb2)
      have HR2 : TR w2 B g n cap (mTs k n) := World.ownsRow.kept (World.ownsRow.kept HR (grown_of_below (bl_drew (Below.refl _ _))) (Or.inr (by intro e; cases e))) (grown_of_below hb2) (Or.inr (by intro e; cases e))
      clear c0 c1 c2 c3 c4 fz hHeld hb2 hbw HR
      obtain ⟨c0, c1, c2, c3, c4, fz⟩ := HR2.cells (mTs_len k n) (mTs_at k n m hlt)
      simp only [mT1] at c0 c1 c2 c3 c4
      have g4 := neq_self (floatOfInt .f64 (k + 5 * (m : Int) + 1 + 1 + 1 + 1))
      rw [ofInt_num] at g4
      have q3 : ((k + 5 * (m : Int) + 1 + 1 + 1) != (k + 5 * (m : Int) + 1 + 1 + 1)) = false := by simp
      go_wp2_with fail
      refine ⟨⟨m + 1, by omega, by go_num, ?_, HB⟩, by simp [intOf]; omega⟩
      congr 1; simp; omega
    · have hm' : m = n := by omega
      subst hm'
      go_wp2_with fail
      go_ret
      exact ⟨rfl, hbw.out⟩
set_option maxHeartbeats 1000000 in
theorem heldTok_nil (k : Int) (w : World) : Calls Tryd.prog 8 #[.slice none 0 0, .int .i64 k] w fun e w' => e = .returned (.int .i64 k) ∧ w' = w := by
  go_enter Tryd.func8, Tryd.ntmps8
  go_wp2_with fail
  go_loopw [1, 5] (fun x i wr => i = .int .i64 0 ∧ x = .int .i64 k ∧ wr = w) (fun _ i _ => 0)
  case atStart => exact ⟨rfl, rfl, rfl⟩
  case round =>
    obtain ⟨rfl, rfl, rfl⟩ := hrel
    go_wp2_with fail
    go_ret
    exact ⟨rfl, rfl⟩
theorem heldTok_any (B : Nat) (s : Option Addr) (n c : Nat) (k : Int) (w : World) (h : OT w B (.slice s n c) (mTs k n)) (hl : n ≤ 4000) (h0 : 1 ≤ k) (h1 : k ≤ 1000) :
    Calls Tryd.prog 8 #[.slice s n c, .int .i64 k] w fun e w' => e = .returned (.int .i64 (k + 5 * (n : Int))) ∧ Below w.heap.size w w' := by
  rcases h.form with ⟨h2, h3⟩ | ⟨g, cap, h2, hg, hr⟩
  · simp only [Value.slice.injEq] at h2
    obtain ⟨rfl, rfl, rfl⟩ := h2
    refine (heldTok_nil k w).mono fun e w' ⟨he, hw⟩ => ?_
    subst he hw
    exact ⟨by simp, Below.refl _ _⟩
  · rw [mTs_len] at h2 hr
    simp only [Value.slice.injEq] at h2
    obtain ⟨rfl, _, rfl⟩ := h2
    exact heldTok_row B g c n k w hr hl h0 h1

set_option maxHeartbeats 4000000 in
theorem eqToken_self (t : Tk) (ok : okT t) (w : World) :
    Calls Tryd.prog 12 #[.agg #[.int .i64 t.1, .int .i64 t.2.1, .string t.2.2.1, .int .i64 t.2.2.2.1, .float .f64 t.2.2.2.2], .agg #[.int .i64 t.1, .int .i64 t.2.1, .string t.2.2.1, .int .i64 t.2.2.2.1, .float .f64 t.2.2.2.2]] w fun e w' => e = .returned (.bool true) ∧ Below w.heap.size w w' := by
  have hal := alloc_old
  have haf := alloc_oldf
  obtain ⟨p0, p1, p2, p3, p4⟩ := t
  have HX : Hid (p4 < 18446744073709551616) := ok
  clear ok
  dsimp only
  have q0 : (p0 != p0) = false := by simp
  have q1 : (p1 != p1) = false := by simp
  have q3 : (p3 != p3) = false := by simp
  have q2 : (p2.toList == p2.toList) = true := by simp
  go_enter Tryd.func12, Tryd.ntmps12
  go_wp2_with fail
  refine (lsame_any p4 p4 _ HX.out HX.out).mono ?_
  rintro e w2 ⟨rfl, rfl⟩
  rw [sameB_refl]
  go_wp2_with fail
  go_ret
  refine ⟨rfl, ?_⟩
  (repeat (first | with_reducible exact Below.refl _ _ | with_reducible refine bl_alloc ?_ _ | with_reducible refine bl_drewN ?_ _ | with_reducible refine bl_drew ?_ | with_reducible refine bl_setCell ?_ (by first | exact Nat.le_refl _ | (dsimp only; omega) | (simp <;> omega)) _ | with_reducible refine bl_trans ?_ (by with_reducible assumption)))
set_option maxHeartbeats 4000000 in
theorem eqTok_any (v1 v2 : Option Addr) (c1 c2 : Nat) (L : List Tk) (B1 B2 : Nat) (w : World) (h1 : OT w B1 (.slice v1 L.length c1) L) (h2 : OT w B2 (.slice v2 L.length c2) L) (hl : L.length ≤ 4000) (hok : ∀ t ∈ L, okT t) :
    Calls Tryd.prog 6 #[.slice v1 L.length c1, .slice v2 L.length c2] w fun e w' => e = .returned (.bool true) ∧ Below w.heap.size w w' := by
  have hok0 : Hid (∀ t ∈ L, okT t) := hok
  clear hok
  have ql : ((L.length : Int) != (L.length : Int)) = false := by simp
  go_enter Tryd.func6, Tryd.ntmps6
  go_wp2_with fail
  go_loopw [5] (fun i wr => ∃ k : Nat, k ≤ L.length ∧ i = .int .i64 k ∧ Hid (Below w.heap.size w wr)) (fun i _ => L.length - (intOf i).toNat)
  case atStart => exact ⟨0, Nat.zero_le _, rfl, Below.refl _ _⟩
  case round =>
    obtain ⟨k, hk, rfl, hb⟩ := hrel
    by_cases hlt : k < L.length
    · obtain ⟨a, ha⟩ := get_some hlt
      have hok : Hid (okT a) := hok0.out a (List.mem_of_getElem? ha)
      have g1 := h1.later hb.out
      have g2 := h2.later hb.out
      rcases g1.form with ⟨_, e⟩ | ⟨b, cap1, e1, hB1, r1⟩
      · subst e; simp at hlt
      rcases g2.form with ⟨_, e⟩ | ⟨b2, cap2, e2, hB2, r2⟩
      · subst e; simp at hlt
      simp only [Value.slice.injEq] at e1 e2
      obtain ⟨rfl, _, rfl⟩ := e1
      obtain ⟨rfl, _, rfl⟩ := e2
      obtain ⟨c0, c1', c2', c3, c4, fz⟩ := r1.cells rfl ha
      obtain ⟨d0, d1, d2, d3, d4, fz2⟩ := r2.cells rfl ha
      have hl1 := r1.lt
      have hl2 := r2.lt
      clear h1 h2 g1 g2 r1 r2 ha
      go_wp2_with fail
      refine wp_region_held_drew (S := fun w' => (w'.cell? ⟨b, k * 5, none⟩ = some (.int .i64 a.1) ∧ w'.cell? ⟨b, k * 5 + 1, none⟩ = some (.int .i64 a.2.1) ∧ w'.cell? ⟨b, k * 5 + 2, none⟩ = some (.string a.2.2.1) ∧ w'.cell? ⟨b, k * 5 + 3, none⟩ = some (.int .i64 a.2.2.2.1) ∧ w'.cell? ⟨b, k * 5 + 4, none⟩ = some (.float .f64 a.2.2.2.2)) ∧ (w'.cell? ⟨b2, k * 5, none⟩ = some (.int .i64 a.1) ∧ w'.cell? ⟨b2, k * 5 + 1, none⟩ = some (.int .i64 a.2.1) ∧ w'.cell? ⟨b2, k * 5 + 2, none⟩ = some (.string a.2.2.1) ∧ w'.cell? ⟨b2, k * 5 + 3, none⟩ = some (.int .i64 a.2.2.2.1) ∧ w'.cell? ⟨b2, k * 5 + 4, none⟩ = some (.float .f64 a.2.2.2.2))) (by kernel_rfl) ?_ (fun hHeld => ?_)
      · exact ⟨⟨c0, c1', c2', c3, c4⟩, ⟨d0, d1, d2, d3, d4⟩⟩
      refine wpAnyH_one (i := 0) (d := 17) (v := ?_) rfl rfl (by kernel_rfl) (by kernel_rfl) (by kernel_rfl) (fun _ _ _ h => h) (by rfl) (by assumption) ?_ ?_
      rotate_left 1
      · intro w hSw; (try dsimp only at hSw); go_simp <;> with_reducible rfl
      simp only [List.foldl, Act.put, List.setIfInBounds_toArray, List.set_cons_zero, List.set_cons_succ]
      refine wpAnyH_one (i := 1) (d := 18) (v := ?_) rfl rfl (by kernel_rfl) (by kernel_rfl) (by kernel_rfl) (fun _ _ _ h => h) (by rfl) (by assumption) ?_ ?_
      rotate_left 1
      · intro w hSw; (try dsimp only at hSw); go_simp <;> with_reducible rfl
      simp only [List.foldl, Act.put, List.setIfInBounds_toArray, List.set_cons_zero, List.set_cons_succ]
      refine wpAnyH_one (i := 2) (d := 19) (v := ?_) rfl rfl (by kernel_rfl) (by kernel_rfl) (by kernel_rfl) (fun _ _ _ h => h) (by rfl) (by assumption) ?_ ?_
      rotate_left 1
      · intro w hSw; (try dsimp only at hSw); go_simp <;> with_reducible rfl
      simp only [List.foldl, Act.put, List.setIfInBounds_toArray, List.set_cons_zero, List.set_cons_succ]
      refine wpAnyH_one (i := 3) (d := 20) (v := ?_) rfl rfl (by kernel_rfl) (by kernel_rfl) (by kernel_rfl) (fun _ _ _ h => h) (by rfl) (by assumption) ?_ ?_
      rotate_left 1
      · intro w hSw; (try dsimp only at hSw); go_simp <;> with_reducible rfl
      simp only [List.foldl, Act.put, List.setIfInBounds_toArray, List.set_cons_zero, List.set_cons_succ]
      refine wpAnyH_one (i := 4) (d := 21) (v := ?_) rfl rfl (by kernel_rfl) (by kernel_rfl) (by kernel_rfl) (fun _ _ _ h => h) (by rfl) (by assumption) ?_ ?_
      rotate_left 1
      · intro w hSw; (try dsimp only at hSw); go_simp <;> with_reducible rfl
      simp only [List.foldl, Act.put, List.setIfInBounds_toArray, List.set_cons_zero, List.set_cons_succ]
      refine wpAnyH_one (i := 5) (d := 22) (v := ?_) rfl rfl (by kernel_rfl) (by kernel_rfl) (by kernel_rfl) (fun _ _ _ h => h) (by rfl) (by assumption) ?_ ?_
      rotate_left 1
      · intro w hSw; (try dsimp only at hSw); go_simp <;> with_reducible rfl
      simp only [List.foldl, Act.put, List.setIfInBounds_toArray, List.set_cons_zero, List.set_cons_succ]
      refine wpAnyH_one (i := 6) (d := 23) (v := ?_) rfl rfl (by kernel_rfl) (by kernel_rfl) (by kernel_rfl) (fun _ _ _ h => h) (by rfl) (by assumption) ?_ ?_
      rotate_left 1
      · intro w hSw; (try dsimp only at hSw); go_simp <;> with_reducible rfl
      simp only [List.foldl, Act.put, List.setIfInBounds_toArray, List.set_cons_zero, List.set_cons_succ]
      refine wpAnyH_one (i := 7) (d := 24) (v := ?_) rfl rfl (by kernel_rfl) (by kernel_rfl) (by kernel_rfl) (fun _ _ _ h => h) (by rfl) (by assumption) ?_ ?_
      rotate_left 1
      · intro w hSw; (try dsimp only at hSw); go_simp <;> with_reducible rfl
      simp only [List.foldl, Act.put, List.setIfInBounds_toArray, List.set_cons_zero, List.set_cons_succ]
      refine wpAnyH_ready (rs := [8]) (by kernel_rfl) (by simp) ?_
      refine AllReadyH.cons rfl (fun K hK => ?_) AllReadyH.nil
      go_simp
      refine (eqToken_self a hok.out _).mono ?_
      rintro e w2 ⟨rfl, hb2⟩
      refine hK.out _ _ ?_ (fun hHeld => ?_)
      · exact ⟨⟨(hb2.cell (p := ⟨b, k * 5, none⟩) hl1.2).trans c0, (hb2.cell (p := ⟨b, k * 5 + 1, none⟩) hl1.2).trans c1', (hb2.cell (p := ⟨b, k * 5 + 2, none⟩) hl1.2).trans c2', (hb2.cell (p := ⟨b, k * 5 + 3, none⟩) hl1.2).trans c3, (hb2.cell (p := ⟨b, k * 5 + 4, none⟩) hl1.2).trans c4⟩, ⟨(hb2.cell (p := ⟨b2, k * 5, none⟩) hl2.2).trans d0, (hb2.cell (p := ⟨b2, k * 5 + 1, none⟩) hl2.2).trans d1, (hb2.cell (p := ⟨b2, k * 5 + 2, none⟩) hl2.2).trans d2, (hb2.cell (p := ⟨b2, k * 5 + 3, none⟩) hl2.2).trans d3, (hb2.cell (p := ⟨b2, k * 5 + 4, none⟩) hl2.2).trans d4⟩⟩
      clear hK K
      try simp only [List.foldl, Act.put, List.setIfInBounds_toArray, List.set_cons_zero, List.set_cons_succ]
      refine wpAnyH_one (i := 9) (d := 26) (v := ?_) rfl rfl (by kernel_rfl) (by kernel_rfl) (by kernel_rfl) (fun _ _ _ h => h) (by rfl) (by assumption) ?_ ?_
      rotate_left 1
      · intro w hSw; (try dsimp only at hSw); go_simp <;> with_reducible rfl
      simp only [List.foldl, Act.put, List.setIfInBounds_toArray, List.set_cons_zero, List.set_cons_succ]
      refine wpAnyH_done (by kernel_rfl) ?_ _
      go_wp2_with fail
      go_roundw
      case rel => exact ⟨k + 1, by omega, by go_num, bl_trans hb.out (bl_trans (bl_drew (Below.refl _ _)) hb2)⟩
      case measure => simp [intOf]; omega
    · go_wp2_with fail
      go_ret
      exact ⟨rfl, hb.out⟩

set_option maxRecDepth 100000 in
set_option maxHeartbeats 4000000 in
theorem exactLex_any (s : ByteArray) (w : World) :
    Calls Tryd.prog 3 #[.string s] w fun e w' => e = .returned (.bool true) ∧ Below w.heap.size w w' := by
  by_cases hbig : (1048576 : Int) < (s.size : Int)
  · go_enter Tryd.func3, Tryd.ntmps3
    go_wp2_with fail
    go_ret
    exact ⟨rfl, Below.refl _ _⟩
  go_enter Tryd.func3, Tryd.ntmps3
  go_wp2_with fail
  refine (specLex_any s w).mono ?_
  rintro e w1 ⟨⟨sw, cw, c, p, L, rfl, hA, hO, hL⟩, hb1⟩
  have HA : Hid (lexAll s = (c, p, L)) := hA
  have OKL : Hid (∀ t ∈ L, okT t) := lexAll_ok hA
  clear hA
  go_wp2_with fail
  refine (implLex_any s w1).mono ?_
  rintro e w2 ⟨⟨sg, cg, c', p', L', rfl, hA', hG, hL'⟩, hb2⟩
  rw [HA.out] at hA'
  simp only [Prod.mk.injEq] at hA'
  obtain ⟨rfl, rfl, rfl⟩ := hA'
  have hO2 := hO.later hb2
  have hW : Hid (∀ q, (Value.slice sw L.length cw).ownBlock = some q → q < w1.heap.size) := fun q hq => (hO.lt q hq).2
  have qc : (c != c) = false := by simp
  have qp : (p != p) = false := by simp
  clear hO
  go_wp2_with fail
  refine (eqTok_any sg sw cg cw L _ _ w2 hG hO2 hL OKL.out).mono ?_
  rintro e w3 ⟨rfl, hb3⟩
  have hG3 := hG.later hb3
  have hO3 := hO2.later hb3
  have L3 := bl_trans hb1 (bl_trans hb2 hb3)
  clear hG hO2 hb3
  go_wp2_with fail
  refine (markTok_any _ sg cg L 1 w3 hG3 hL (by omega) (by omega)).mono ?_
  rintro e w4 ⟨rfl, hG4, hj4⟩
  have hO4 : OT w4 w.heap.size (.slice sw L.length cw) L := hO3.just hj4 (fun q hq e => by have h1 := (hG3.lt q hq).1; have h2 := hW.out q e; omega)
  have L4 : Below w.heap.size w w4 := L3.trans (hj4.1.mono hb1.size)
  clear hG3 hO3 hj4 L3
  go_wp2_with fail
  refine (heldTok_any _ sg L.length cg 1 w4 hG4 hL (by omega) (by omega)).mono ?_
  rintro e w5 ⟨rfl, hb5⟩
  have hG5 := hG4.later hb5
  have hO5 := hO4.later hb5
  have L5 := bl_trans L4 hb5
  have qn : decide ((1 : Int) + 5 * (L.length : Int) < 0) = false := by simp; omega
  have qm : (((1 : Int) + 5 * (L.length : Int)) != (1 + 5 * (L.length : Int))) = false := by simp
  clear hG4 hO4 hb5 L4
  go_wp2_with fail
  refine (implLex_any s w5).mono ?_
  rintro e w6 ⟨⟨sh, ch, c', p', L', rfl, hA', hH, hL'⟩, hb6⟩
  rw [HA.out] at hA'
  simp only [Prod.mk.injEq] at hA'
  obtain ⟨rfl, rfl, rfl⟩ := hA'
  have hG6 := hG5.later hb6
  have hO6 := hO5.later hb6
  have L6 := bl_trans L5 hb6
  clear hG5 hO5 L5 hb6
  go_wp2_with fail
  refine (eqTok_any sh sw ch cw L _ _ w6 hH hO6 hL OKL.out).mono ?_
  rintro e w7 ⟨rfl, hb7⟩
  have hG7 := hG6.later hb7
  have L7 := bl_trans L6 hb7
  clear hG6 hO6 L6 hb7 hH
  go_wp2_with fail
  refine (heldTok_any _ sg L.length cg 1 w7 hG7 hL (by omega) (by omega)).mono ?_
  rintro e w8 ⟨rfl, hb8⟩
  have L8 := bl_trans L7 hb8
  clear hG7 L7 hb8
  go_wp2_with fail
  go_ret
  exact ⟨rfl, L8⟩
end Go.Proofs.YtddlkejinhbpaaaDoor
