import Derived.Test.YtbgeobpdojmdaaaGreatSq08
namespace Go.Proofs.YtbgeobpdojmdaaaGreat
set_option linter.unusedVariables false
set_option linter.unusedSimpArgs false
section
open Go.RowKit Go.Maps Go.WideMaps
def letAt (s : ByteArray) (k : Nat) : Bool := letB (s.data[k]?.getD 0).toNat
def lettersB (s : ByteArray) : Bool := decide (1 ≤ s.size) && decide (s.size ≤ 12) && decide (∀ j, j < s.size → letAt s j = true)
def nameB (s : ByteArray) : Bool := lettersB s && !isW s
theorem letAt_eq {s : ByteArray} {k : Nat} (h : k < s.size) : letB (s[k]'h).toNat = letAt s k := by
 unfold letAt
 have : s.data[k]? = some (s[k]'h) := Array.getElem?_eq_getElem h
 rw [this]; rfl
theorem run_index_at (s : ByteArray) (k : Nat) (h : k < s.size) (w : World) : (Instr.index 9 (.string s) (.int .i64 (k : Int))).run Tryz.prog w = .ok (.int .u8 ((s[k]'h).toNat : Int)) w := by
 rw [run_index_string w 9 s .i64 k Tryz.underlying9]
 have h' : 0 ≤ (k : Int) ∧ (k : Int) < s.size := by omega
 rw [dif_pos h']
 simp
theorem letB_high {c : Nat} (h : 128 ≤ c) : letB c = false := by
 unfold letB
 have e1 : decide ((c : Int) ≤ 122) = false := by simp; omega
 have e2 : decide ((c : Int) ≤ 90) = false := by simp; omega
 rw [e1, e2]; simp
theorem rune_let {s : ByteArray} {k : Nat} (h : k < s.size) : letB (Utf8.decode s k).1 = letAt s k ∧ (letAt s k = true → (Utf8.decode s k).2 = 1) := by
 by_cases ha : (s[k]'h).toNat < 128
 ·
  rw [decode_ascii s k h ha]
  exact ⟨letAt_eq h, fun _ => rfl⟩
 have hh := (decode_high s k h (by omega)).1
 have e : letAt s k = false := by rw [← letAt_eq h]; exact letB_high (by omega)
 rw [letB_high hh, e]
 exact ⟨rfl, fun q => by cases q⟩
set_option maxHeartbeats 2000000 in
theorem lettersOk_any (s : ByteArray) (w : World) :
  Calls Tryz.prog 139 #[.string s] w fun e w' => e = .returned (.bool (lettersB s)) ∧ Below w.heap.size w w' ∧ (lettersB s = true → ∃ pos, w' = w.alloc (.stringIter s pos)) := by
 obtain ⟨n, hn⟩ : ∃ n, Hid (s.size = n) := ⟨_, rfl⟩
 by_cases h1 : 1 ≤ s.size
 ·
  by_cases h2 : s.size ≤ 12
  ·
   have t1 : decide ((s.size : Int) < 1) = false := by simp; omega
   have t2 : decide ((12 : Int) < (s.size : Int)) = false := by simp; omega
   go_enter Tryz.func139, Tryz.ntmps139
   go_wp2_with fail; go_loopw [] (fun wr => ∃ k : Nat, k ≤ s.size ∧ wr = w.iter s k ∧ Hid (∀ j, j < k → letAt s j = true)) (fun wr => s.size - wr.iterPos w.heap.size)
   case atStart => exact ⟨0, Nat.zero_le _, rfl, fun j hj => absurd hj (by omega)⟩
   obtain ⟨k, hk, rfl, hall⟩ := hrel
   by_cases hlt : k < s.size
   ·
    have hnx := fun ty => run_next_any (P := Tryz.prog) w s k ty hlt
    obtain ⟨r1, r2⟩ := rune_let hlt
    obtain ⟨c, hc⟩ : ∃ c, (Utf8.decode s k).1 = c := ⟨_, rfl⟩
    obtain ⟨d, hd⟩ : ∃ d, (Utf8.decode s k).2 = d := ⟨_, rfl⟩
    rw [hc] at r1
    rw [hd] at r2
    simp only [hc, hd] at hnx
    clear hc hd; cases hb : letAt s k
    ·
     have E : Hid (lettersB s = false) := by
      unfold Hid lettersB
      simp only [Bool.and_eq_false_imp, decide_eq_false_iff_not]
      exact fun _ h => by rw [h k hlt] at hb; cases hb
     rw [hb] at r1
     go_wp2_with (go_at_call 147; refine (isLetter_any _ _).mono ?_; rintro e w' ⟨rfl, rfl⟩; rw [r1])
     go_ret; exact ⟨ret_boolw E.out.symm, bl_alloc (Below.refl _ _) _, fun q => by rw [E.out] at q; cases q⟩
    have hs' : Hid (∀ j, j < k + 1 → letAt s j = true) := by
     intro j hj
     by_cases h : j = k
     ·
      subst h; exact hb
     exact hall.out j (by omega)
    have hd1 := r2 hb
    rw [hd1] at hnx
    rw [hb] at r1
    clear r2 hd1; go_wp2_with (go_at_call 147; refine (isLetter_any _ _).mono ?_; rintro e w' ⟨rfl, rfl⟩; rw [r1])
    go_roundw
    case rel => exact ⟨k + 1, by omega, rfl, hs'⟩
    case measure => simp; omega
   have E : Hid (lettersB s = true) := by
    unfold Hid lettersB
    simp only [Bool.and_eq_true, decide_eq_true_eq]
    exact ⟨⟨h1, h2⟩, fun j hj => hall.out j (by omega)⟩
   have hnx := fun ty => run_next_end (P := Tryz.prog) w s k ty hlt
   go_wp2_with fail; go_ret; exact ⟨ret_boolw E.out.symm, bl_alloc (Below.refl _ _) _, fun _ => ⟨k, rfl⟩⟩
  have t1 : decide ((s.size : Int) < 1) = false := by simp; omega
  have t2 : decide ((12 : Int) < (s.size : Int)) = true := by simp; omega
  have E : Hid (lettersB s = false) := by simp [Hid, lettersB, h2]
  go_enter Tryz.func139, Tryz.ntmps139
  go_wp2_with fail; go_ret; exact ⟨ret_boolw E.out.symm, Below.refl _ _, fun q => by rw [E.out] at q; cases q⟩
 have t1 : decide ((s.size : Int) < 1) = true := by simp; omega
 have E : Hid (lettersB s = false) := by simp [Hid, lettersB, h1]
 go_enter Tryz.func139, Tryz.ntmps139
 go_wp2_with fail; go_ret; exact ⟨ret_boolw E.out.symm, Below.refl _ _, fun q => by rw [E.out] at q; cases q⟩
end
section
open Go.RowKit Go.Maps Go.WideMaps
set_option maxHeartbeats 2000000 in
theorem specNameOk_any (s : ByteArray) (w : World) :
  Calls Tryz.prog 91 #[.string s] w fun e w' => e = .returned (.bool (nameB s)) ∧ Below w.heap.size w w' := by
 cases h1 : (decide (1 ≤ (s.size : Int)) && decide ((s.size : Int) ≤ 12))
 ·
  have E : Hid (false = nameB s) := by
   unfold Hid nameB lettersB
   simp only [Bool.and_eq_false_imp, decide_eq_true_eq, decide_eq_false_iff_not] at h1
   symm
   simp only [Bool.and_eq_false_imp, Bool.and_eq_true, decide_eq_true_eq]
   rintro ⟨⟨a, b⟩, _⟩
   exact absurd (h1 (by omega)) (by omega)
  go_enter Tryz.func91, Tryz.ntmps91
  go_wp2_with (go_at_call 58; refine (l1In_any _ _ _ _).mono ?_; rintro e w' ⟨rfl, rfl⟩; rw [h1])
  go_ret; exact ⟨ret_boolw E.out, Below.refl _ _⟩
 have h2 : 1 ≤ s.size ∧ s.size ≤ 12 := by simp at h1; omega
 go_enter Tryz.func91, Tryz.ntmps91
 go_wp2_with (go_at_call 58; refine (l1In_any _ _ _ _).mono ?_; rintro e w' ⟨rfl, rfl⟩; rw [h1])
 go_loop [3] (fun i => ∃ k : Nat, k ≤ s.size ∧ i = .int .i64 k ∧ Hid (∀ j, j < k → letAt s j = true)) (fun i => s.size - (intOf i).toNat)
 case atStart => exact ⟨0, Nat.zero_le _, rfl, fun j hj => absurd hj (by omega)⟩
 obtain ⟨k, hk, rfl, hall⟩ := hrel
 clear h1; by_cases hlt : k < s.size
 ·
  have hi := run_index_at s k hlt
  cases hb : letAt s k
  ·
   have E : Hid (nameB s = false) := by
    unfold Hid nameB lettersB
    simp only [Bool.and_eq_false_imp, Bool.and_eq_true, decide_eq_true_eq]
    rintro ⟨_, h⟩
    rw [h k hlt] at hb; cases hb
   go_wp2_with (go_at_call 116; refine (l3Letter_any _ _).mono ?_; rintro e w' ⟨rfl, rfl⟩; rw [letAt_eq hlt, hb])
   go_ret; exact ⟨ret_boolw E.out.symm, Below.refl _ _⟩
  have hs' : Hid (∀ j, j < k + 1 → letAt s j = true) := by
   intro j hj
   by_cases h : j = k
   ·
    subst h; exact hb
   exact hall.out j (by omega)
  go_wp2_with (go_at_call 116; refine (l3Letter_any _ _).mono ?_; rintro e w' ⟨rfl, rfl⟩; rw [letAt_eq hlt, hb])
  go_round
  case rel => exact ⟨k + 1, by omega, by go_num, hs'⟩
  case measure => simp [intOf]; omega
 have E : Hid ((!isW s) = nameB s) := by
  have hl : lettersB s = true := by
   unfold lettersB
   simp only [Bool.and_eq_true, decide_eq_true_eq]
   exact ⟨h2, fun j hj => hall.out j (by omega)⟩
  simp [Hid, nameB, hl]
 go_wp2_with (go_at_call 117; refine (specIsWord_any _ _).mono ?_; rintro e w1 ⟨rfl, hb1⟩)
 go_ret; exact ⟨ret_boolw E.out, hb1⟩
end
section
open Go.RowKit Go.Maps Go.WideMaps
def dcells (L : List (ByteArray × Int)) : List Value := L.flatMap fun p => [.string p.1, .int .i64 p.2]
theorem dcells_app (L M : List (ByteArray × Int)) : dcells (L ++ M) = dcells L ++ dcells M := by simp [dcells]
theorem dcells_len : ∀ L : List (ByteArray × Int), (dcells L).length = L.length * 2
 | [] => rfl
 | p :: L => by
  have := dcells_len L
  simp [dcells] at this ⊢; omega
theorem dcells_get : ∀ (L : List (ByteArray × Int)) (j : Nat) (p : ByteArray × Int), L[j]? = some p → (dcells L)[2 * j]? = some (.string p.1) ∧ (dcells L)[2 * j + 1]? = some (.int .i64 p.2)
 | q :: L, 0, p, h => by
  simp at h; subst h; exact ⟨rfl, rfl⟩
 | q :: L, j + 1, p, h => by
  have := dcells_get L j p (by simpa using h)
  have e : dcells (q :: L) = .string q.1 :: .int .i64 q.2 :: dcells L := rfl
  rw [e, show 2 * (j + 1) = 2 * j + 1 + 1 by omega, show 2 * j + 1 + 1 + 1 = (2 * j + 1) + 1 + 1 by omega]
  simpa using this
def dAt (L : List (ByteArray × Int)) (j : Nat) : ByteArray × Int := L[j]?.getD (ByteArray.empty, 0)
theorem dAt_some {L : List (ByteArray × Int)} {j : Nat} (h : j < L.length) : L[j]? = some (dAt L j) := by simp [dAt, h]
theorem dAt_mem {L : List (ByteArray × Int)} {j : Nat} (h : j < L.length) : dAt L j ∈ L := by
 have := dAt_some h
 exact List.mem_of_getElem? this
def Decls (w : World) (s : Option Addr) (L : List (ByteArray × Int)) : Prop :=
 L = [] ∨ ∃ b o, s = some ⟨b, o, none⟩ ∧ b < w.heap.size ∧ ∀ j, j < L.length → w.cell? ⟨b, o + j * 2, none⟩ = some (.string (dAt L j).1) ∧ w.cell? ⟨b, o + j * 2 + 1, none⟩ = some (.int .i64 (dAt L j).2)
theorem Decls.later {w w' : World} {s : Option Addr} {L : List (ByteArray × Int)} (h : Decls w s L) (hb : Below w.heap.size w w') : Decls w' s L := by
 rcases h with h0 | ⟨g, o, rfl, h1, h2⟩
 ·
  exact Or.inl h0
 exact Or.inr ⟨g, o, rfl, Nat.lt_of_lt_of_le h1 hb.size, fun j hj => ⟨(hb.cell (p := ⟨g, o + j * 2, none⟩) h1).trans (h2 j hj).1, (hb.cell (p := ⟨g, o + j * 2 + 1, none⟩) h1).trans (h2 j hj).2⟩⟩
theorem Decls.get {w : World} {s : Option Addr} {L : List (ByteArray × Int)} (h : Decls w s L) {j : Nat} (hj : j < L.length) :
  ∃ b o, s = some ⟨b, o, none⟩ ∧ b < w.heap.size ∧ w.cell? ⟨b, o + j * 2, none⟩ = some (.string (dAt L j).1) ∧ w.cell? ⟨b, o + j * 2 + 1, none⟩ = some (.int .i64 (dAt L j).2) := by
 rcases h with h0 | ⟨g, o, rfl, h1, h2⟩
 ·
  rw [h0] at hj; simp at hj
 exact ⟨g, o, rfl, h1, h2 j hj⟩
def DRow (w : World) (B : Nat) (v : Value) (L : List (ByteArray × Int)) : Prop := w.ownsRow B 113 2 v L.length (dcells L)
theorem DRow.later {w w' : World} {B : Nat} {v : Value} {L : List (ByteArray × Int)} (h : DRow w B v L) (hb : Below w.heap.size w w') : DRow w' B v L := by
 refine World.ownsRow.kept h (grown_of_below hb) ?_
 cases v.ownBlock with
 | none => exact Or.inl rfl
 | some b => exact Or.inr (by simp)
theorem DRow.cells {w : World} {B g cap n : Nat} {L : List (ByteArray × Int)} (h : DRow w B (.slice (some ⟨g, 0, none⟩) n cap) L) : g < w.heap.size ∧ B ≤ g ∧ ∀ j, j < L.length → w.cell? ⟨g, j * 2, none⟩ = some (.string (dAt L j).1) ∧ w.cell? ⟨g, j * 2 + 1, none⟩ = some (.int .i64 (dAt L j).2) ∧ ∀ o, w.frozen? ⟨g, o, none⟩ = false := by
 have hlt := World.ownsRow.lt h g rfl
 refine ⟨hlt.2, hlt.1, fun j hj => ?_⟩
 obtain ⟨e1, e2⟩ := dcells_get L j _ (dAt_some hj)
 rw [Nat.mul_comm 2 j] at e1 e2
 have hv : n = L.length := by
  rcases h.2 with ⟨h1, _⟩ | ⟨g', cap', cur, h', _⟩
  ·
   simp at h1
  simp only [Value.slice.injEq] at h'; exact h'.2.1
 subst hv
 exact ⟨by rw [World.ownsRow.cellAt h (j * 2) (by omega), e1], by rw [World.ownsRow.cellAt h (j * 2 + 1) (by omega), e2], fun o => World.ownsRow.frozenAt h o⟩
theorem DRow.decls {w : World} {B g cap n : Nat} {L : List (ByteArray × Int)} (h : DRow w B (.slice (some ⟨g, 0, none⟩) n cap) L) : Decls w (some ⟨g, 0, none⟩) L := by
 obtain ⟨h1, _, h2⟩ := h.cells
 refine Or.inr ⟨g, 0, rfl, h1, fun j hj => ?_⟩
 obtain ⟨a, b, _⟩ := h2 j hj
 rw [Nat.zero_add]
 exact ⟨a, b⟩
theorem dcells_set (A : List (ByteArray × Int)) (p : ByteArray × Int) (C : List (ByteArray × Int)) (a : ByteArray) (b : Int) : ((dcells (A ++ p :: C)).set (A.length * 2) (.string a)).set (A.length * 2 + 1) (.int .i64 b) = dcells (A ++ (a, b) :: C) := by
 rw [dcells_app, dcells_app]
 have e1 : dcells (p :: C) = .string p.1 :: .int .i64 p.2 :: dcells C := rfl
 have e2 : dcells ((a, b) :: C) = .string a :: .int .i64 b :: dcells C := rfl
 have l : (dcells A).length = A.length * 2 := dcells_len A
 rw [e1, e2, List.set_append_right _ _ (by omega), l, Nat.sub_self, List.set_append_right _ _ (by omega), l, show A.length * 2 + 1 - A.length * 2 = 1 by omega]
 rfl
theorem DRow.put {w : World} {B g cap : Nat} {L : List (ByteArray × Int)} {A : List (ByteArray × Int)} {p : ByteArray × Int} {C : List (ByteArray × Int)} (h : DRow w B (.slice (some ⟨g, 0, none⟩) L.length cap) L) (hL : L = A ++ p :: C) (a : ByteArray) (b : Int) :
  DRow ((w.setCell ⟨g, A.length * 2, none⟩ (.string a)).setCell ⟨g, A.length * 2 + 1, none⟩ (.int .i64 b)) B (.slice (some ⟨g, 0, none⟩) L.length cap) (A ++ (a, b) :: C) := by
 obtain ⟨h1, g1⟩ := World.ownsRow.stored h (A.length * 2) (.string a)
 obtain ⟨h2, g2⟩ := World.ownsRow.stored h1 (A.length * 2 + 1) (.int .i64 b)
 have e : (A ++ (a, b) :: C).length = L.length := by rw [hL]; simp
 unfold DRow
 rw [e, ← dcells_set A p C a b, ← hL]
 exact h2
theorem made_decls (n : Nat) : (madeCells #[.string ByteArray.empty, .int .i64 0] (n * 2)).toList = dcells (List.replicate n (ByteArray.empty, 0)) := by
 apply List.ext_getElem?
 intro j
 by_cases hj : j < n * 2
 ·
  have hi : j / 2 < n := by omega
  obtain ⟨e1, e2⟩ := dcells_get (List.replicate n (ByteArray.empty, 0)) (j / 2) (ByteArray.empty, 0) (by simp [hi])
  rcases Nat.mod_two_eq_zero_or_one j with h | h
  ·
   rw [show j = 2 * (j / 2) by omega, e1]
   simp [madeCells, show 2 * (j / 2) < n * 2 by omega]
  rw [show j = 2 * (j / 2) + 1 by omega, e2]
  simp [madeCells, show 2 * (j / 2) + 1 < n * 2 by omega, Nat.add_mod]
 rw [List.getElem?_eq_none (by simp [madeCells]; omega), List.getElem?_eq_none (by rw [dcells_len]; simp; omega)]
def Nms (L : List (ByteArray × Int)) : Prop := ∀ p ∈ L, p.1.size ≤ maxLen
set_option maxHeartbeats 1000000 in
theorem szDecl_any (n : ByteArray) (k left : Int) (w : World) (hn : n.size ≤ maxLen) (h0 : 0 ≤ left) (h1 : left ≤ 1048576) :
  Calls Tryz.prog 48 #[.agg #[.string n, .int .i64 k], .int .i64 left] w fun e w' => (∃ r : Int, e = .returned (.int .i64 r) ∧ (r = -1 ∨ (0 ≤ r ∧ r ≤ left))) ∧ Below w.heap.size w w' := by
 have tw : IntKind.i64.wrap (left - (n.size : Int)) = left - (n.size : Int) := by unfold maxLen at hn; rw [IntKind.wrap_i64]; omega
 by_cases h : (n.size : Int) ≤ left
 ·
  have t1 : decide (left - (n.size : Int) < 0) = false := by simp; omega
  clear hn; go_enter Tryz.func48, Tryz.ntmps48
  go_wp2_with fail; go_ret; refine ⟨⟨_, rfl, Or.inr ⟨by omega, by omega⟩⟩, ?_⟩
  exact blq
 have t1 : decide (left - (n.size : Int) < 0) = true := by simp; omega
 clear hn; go_enter Tryz.func48, Tryz.ntmps48
 go_wp2_with fail; go_ret; refine ⟨⟨_, rfl, Or.inl rfl⟩, ?_⟩
 exact blq
set_option maxHeartbeats 1000000 in
theorem toDecl_any (n : ByteArray) (k : Int) (w : World) :
  Calls Tryz.prog 63 #[.agg #[.string n, .int .i64 k]] w fun e w' => e = .returned (.agg #[.string n, .int .i64 k]) ∧ Below w.heap.size w w' := by
 go_enter Tryz.func63, Tryz.ntmps63
 go_wp2_with fail; refine bodyPost_ret (v := .agg #[.string n, .int .i64 k]) (by simp [results, Tryz.results63, go_sem]) rfl ⟨rfl, ?_⟩
 exact blq
set_option maxHeartbeats 1000000 in
theorem eqDecl_same (n : ByteArray) (k : Int) (w : World) :
  Calls Tryz.prog 81 #[.agg #[.string n, .int .i64 k], .agg #[.string n, .int .i64 k]] w fun e w' => e = .returned (.bool true) ∧ Below w.heap.size w w' := by
 have hal := alloc_old
 have haf := alloc_oldf
 have hq : (n.toList == n.toList) = true := toList_eq' rfl
 go_enter Tryz.func81, Tryz.ntmps81
 go_wp2_with fail; go_ret; refine ⟨rfl, ?_⟩
 exact blq
end
end Go.Proofs.YtbgeobpdojmdaaaGreat
