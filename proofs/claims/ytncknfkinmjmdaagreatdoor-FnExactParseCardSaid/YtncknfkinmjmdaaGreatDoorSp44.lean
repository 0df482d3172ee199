import Derived.Test.YtncknfkinmjmdaaGreatDoorSp42
import Derived.Test.YtncknfkinmjmdaaGreatDoorSp43
import Derived.Laws.BytesString
import Derived.Laws.BytesArg
namespace Go.Proofs.YtncknfkinmjmdaaGreatDoor
open Go.RowKit
set_option linter.unusedVariables false
set_option linter.unusedSimpArgs false
set_option maxRecDepth 100000
theorem one_byte (w : World) (c : Int) : (convert 86 9 (.slice (some ⟨w.heap.size, 0, none⟩) 1 1)).run Tryz.prog (w.alloc (.cells #[.int .u8 c] 5)) = .ok (.string (ByteArray.empty.push (UInt8.ofNat c.toNat))) (w.alloc (.cells #[.int .u8 c] 5)) := by
 rw [run_convert_bytes_string _ _ _ _ _ _ _ Tryz.underlying86 Tryz.underlying5 Tryz.underlying9]
 rw [run_bytesToString _ _ 1 1 [c] (by simp [go_sem])]
 rfl
theorem push_size (x : UInt8) (t : ByteArray) : (ByteArray.empty.push x ++ t).size = 1 + t.size := by
 rw [ByteArray.size_append]; rfl
def mDg (k : Nat) (t : ByteArray) : ByteArray := if h : k = 0 then t else mDg (k / 10) (ByteArray.empty.push (UInt8.ofNat (48 + k % 10)) ++ t)
termination_by k
decreasing_by omega
def mTx (k : Int) : ByteArray := (⟨#[109]⟩ : ByteArray) ++ mDg k.toNat ⟨#[]⟩
set_option maxHeartbeats 1000000 in
theorem markText_is (k : Int) (w : World) (h0 : 1 ≤ k) (h1 : k ≤ 100000000) :
  Calls Tryz.prog 36 #[.int .i64 k] w fun e w' => e = .returned (.string (mTx k)) ∧ Below w.heap.size w w' := by
 have hob := one_byte
 obtain ⟨R, hR⟩ : ∃ R, Hid (mDg k.toNat ⟨#[]⟩ = R) := ⟨_, (rfl : mDg k.toNat ⟨#[]⟩ = _)⟩
 have hX : Hid (mTx k = (⟨#[109]⟩ : ByteArray) ++ R) := by show mTx k = _; unfold mTx; rw [hR.out]
 go_enter Tryz.func36, Tryz.ntmps36
 go_wp2_with fail; go_loopw [0, 3] (fun x s wr => ∃ (k : Int) (t : ByteArray), x = .int .i64 k ∧ s = .string t ∧ 0 ≤ k ∧ k ≤ 100000000 ∧ (t.size : Int) + k ≤ 100000000 ∧ Hid (mDg k.toNat t = R) ∧ Below w.heap.size w wr) (fun x _ _ => (intOf x).toNat)
 case atStart => exact ⟨k, _, rfl, rfl, by omega, by omega, by rw [show ((⟨#[]⟩ : ByteArray).size : Int) = 0 from rfl]; omega, hR, Below.refl _ _⟩
 obtain ⟨k, t, rfl, rfl, k0, k1, kt, hr, hb⟩ := hrel
 have hts : ¬ 9223372036854775807 < 1 + t.size := by omega
 by_cases hk : 0 < k
 ·
  go_wp2_with fail; refine ⟨⟨k / 10, _, rfl, rfl, by omega, by omega, ?_, ?_, bl_alloc hb _⟩, ?_⟩
  ·
   rw [push_size]; omega
  ·
   show _ = R
   rw [← hr.out]
   conv => rhs; unfold mDg
   rw [dif_neg (by omega), show (k / 10).toNat = k.toNat / 10 by omega]
   rw [show (48 + k % 10).toNat = 48 + k.toNat % 10 by omega]
  simp [intOf]; omega
 have hk0 : k = 0 := by omega
 subst hk0
 go_wp2_with fail; go_ret; refine ⟨?_, hb⟩
 have := hr.out
 unfold mDg at this
 simp at this
 rw [hX.out, ← this]
 rfl
def wI (k : Int) (n : Nat) : List Int := (List.range n).map fun (i : Nat) => k + (i : Int)
theorem wI_len (k : Int) (n : Nat) : (wI k n).length = n := by simp [wI]
theorem wI_succ (k : Int) (n : Nat) : wI k (n + 1) = wI k n ++ [k + (n : Int)] := by simp [wI, List.range_succ]
theorem wI_at (k : Int) (n j : Nat) (h : j < n) : (wI k n)[j]? = some (k + (j : Int)) := by simp [wI, h]
def MkR (w : World) (B : Nat) (v : Value) (r : OR) (w' : World) : Prop := r.on w' B ∧ w.grownBy w' v.ownBlock
theorem drop_get {α : Type} {L : List α} {m : Nat} {p : α} (h : L[m]? = some p) : L.drop m = p :: L.drop (m + 1) := by
 obtain ⟨hlt, rfl⟩ := List.getElem?_eq_some_iff.1 h
 exact List.drop_eq_getElem_cons hlt
theorem grow_set {w w' : World} {g : Nat} (h : w.grownBy w' (some g)) (o : Nat) (u : Value) : w.grownBy (w'.setCell ⟨g, o, none⟩ u) (some g) :=
 grown_trans h ⟨rfl, rfl, rfl, by simp, fun k hk hne => Below.heap_setCell w' ⟨g, o, none⟩ u k (by dsimp only; exact fun e => hne (by rw [e]))⟩
theorem own_put1 {w : World} {B g n cap : Nat} {T : TypeId} {K : Nat} {A C : List Value} {x u : Value} {i : Nat} (h : w.ownsRow B T K (.slice (some ⟨g, 0, none⟩) n cap) n (A ++ x :: C)) (hi : i = A.length) : (w.setCell ⟨g, i, none⟩ u).ownsRow B T K (.slice (some ⟨g, 0, none⟩) n cap) n (A ++ u :: C) := by
 have := (World.ownsRow.stored h i u).1
 rw [hi, List.set_append_right _ _ (Nat.le_refl _), Nat.sub_self, List.set_cons_zero] at this
 rw [hi]; exact this
set_option maxHeartbeats 2000000 in
theorem markI_o (s : Option Addr) (c : Nat) (L : List Int) (B : Nat) (k : Int) (w : World) (h : (rI (.slice s L.length c) L).on w B) (hl : L.length ≤ 1048576) (k0 : 0 ≤ k) (k1 : k ≤ 9000000000000000000) :
  Calls Tryz.prog 21 #[.slice s L.length c, .int .i64 k] w fun e w' => e = .returned (.int .i64 (k + (L.length : Int))) ∧ MkR w B (.slice s L.length c) (rI (.slice s L.length c) (wI k L.length)) w' := by
 have h0 : w.ownsRow B 3 1 (.slice s L.length c) L.length (L.map (Value.int .i64)) := h
 rcases Go.Joins.ownsRow_forms h0 with ⟨e, hz⟩ | ⟨g, cap, e⟩
 ·
  have e0 := List.length_eq_zero_iff.1 hz
  subst e0
  go_enter Tryz.func21, Tryz.ntmps21
  go_wp2_with fail; go_loop [1, 5] (fun x i => x = .int .i64 k ∧ i = .int .i64 0) (fun _ _ => 0)
  case atStart => exact ⟨rfl, rfl⟩
  obtain ⟨rfl, rfl⟩ := hrel
  go_wp2_with fail; go_ret; exact ⟨by simp, h, grown_refl _ _⟩
 cases e
 go_enter Tryz.func21, Tryz.ntmps21
 go_wp2_with fail; go_loopw [1, 5] (fun x i wr => ∃ m : Nat, m ≤ L.length ∧ i = .int .i64 m ∧ x = .int .i64 (k + (m : Int)) ∧ Hid (wr.ownsRow B 3 1 (.slice (some ⟨g, 0, none⟩) L.length c) L.length ((wI k m ++ L.drop m).map (Value.int .i64)) ∧ w.grownBy wr (some g))) (fun _ i _ => L.length - (intOf i).toNat)
 case atStart => exact ⟨0, Nat.zero_le _, rfl, by simp, by simpa [wI] using h0, grown_refl _ _⟩
 obtain ⟨m, hm, rfl, rfl, hrow⟩ := hrel
 by_cases hlt : m < L.length
 ·
  obtain ⟨p, hp⟩ := get_some hlt
  have hr := hrow.out.1
  rw [drop_get hp, List.map_append, List.map_cons] at hr
  have hc := World.ownsRow.cellAt hr m (by omega)
  rw [List.getElem?_append_right (by simp [wI_len])] at hc
  simp [wI_len] at hc
  have hf := World.ownsRow.frozenAt hr m
  have hput := own_put1 (i := m) (u := .int .i64 (k + (m : Int))) hr (by simp [wI_len])
  have HP : Hid ((wr.setCell ⟨g, m, none⟩ (.int .i64 (k + (m : Int)))).ownsRow B 3 1 (.slice (some ⟨g, 0, none⟩) L.length c) L.length ((wI k (m + 1) ++ L.drop (m + 1)).map (Value.int .i64)) ∧ w.grownBy (wr.setCell ⟨g, m, none⟩ (.int .i64 (k + (m : Int)))) (some g)) := by
   refine ⟨?_, grow_set hrow.out.2 _ _⟩
   rw [wI_succ]; simpa using hput
  clear hput hr hrow hp h h0; go_wp2_with fail; go_roundw
  case rel => exact ⟨m + 1, by omega, by go_num, by congr 1; simp; omega, HP⟩
  case measure => simp [intOf]; omega
 have hm' : m = L.length := by omega
 subst hm'
 have hr := hrow.out
 rw [List.drop_length, List.append_nil] at hr
 go_wp2_with fail; go_ret; refine ⟨rfl, ?_, hr.2⟩
 show World.ownsRow _ _ _ _ _ (wI k L.length).length _
 rw [wI_len]; exact hr.1
set_option maxHeartbeats 2000000 in
theorem heldI_o (s : Option Addr) (c n : Nat) (B : Nat) (k : Int) (w : World) (h : Els 1 cInt w B s (wI k n)) (hl : n ≤ 1048576) (k0 : 0 ≤ k) (k1 : k ≤ 9000000000000000000) :
  Calls Tryz.prog 23 #[.slice s n c, .int .i64 k] w fun e w' => e = .returned (.int .i64 (k + (n : Int))) ∧ w' = w := by
 go_enter Tryz.func23, Tryz.ntmps23
 go_wp2_with fail; go_loop [1, 5] (fun x i => ∃ m : Nat, m ≤ n ∧ i = .int .i64 m ∧ x = .int .i64 (k + (m : Int))) (fun _ i => n - (intOf i).toNat)
 case atStart => exact ⟨0, Nat.zero_le _, rfl, by simp⟩
 obtain ⟨m, hm, rfl, rfl⟩ := hrel
 by_cases hlt : m < n
 ·
  obtain ⟨b, o, rfl, _, hp, e1⟩ := eInt_cells h (wI_at k n m hlt)
  clear h; go_wp2_with fail; refine ⟨⟨m + 1, by omega, by go_num, ?_⟩, by simp [intOf]; omega⟩
  congr 1; simp; omega
 have hm' : m = n := by omega
 subst hm'
 go_wp2_with fail; go_ret; exact ⟨rfl, rfl⟩
def mN1 (k : Int) (q : NK) : NK := (⟨k, mTx (k + 1), k + 2, wI (k + 3) q.1.kids.length⟩, q.2)
def cQ (Q : List NK) : Nat → Int
 | 0 => 0
 | j + 1 => cQ Q j + (match Q[j]? with | some q => 3 + (q.1.kids.length : Int) | none => 0)
theorem cQ_succ {Q : List NK} {j : Nat} {q : NK} (h : Q[j]? = some q) : cQ Q (j + 1) = cQ Q j + (3 + (q.1.kids.length : Int)) := by simp [cQ, h]
theorem cQ_le {Q : List NK} (hk : ∀ q ∈ Q, q.1.kids.length ≤ 4002) : ∀ j, 0 ≤ cQ Q j ∧ cQ Q j ≤ 4005 * (j : Int)
 | 0 => by simp [cQ]
 | j + 1 => by
  obtain ⟨h1, h2⟩ := cQ_le hk j
  cases h : Q[j]? with
  | none => simp only [cQ, h]; omega
  | some q =>
   have := hk q (List.mem_of_getElem? h)
   rw [cQ_succ h]; omega
def MQ (k : Int) (Q Q' : List NK) (m : Nat) : Prop := Q'.length = Q.length ∧ (∀ j q, j < m → Q[j]? = some q → Q'[j]? = some (mN1 (k + cQ Q j) q)) ∧ ∀ j, m ≤ j → Q'[j]? = Q[j]?
theorem flat_setQ : ∀ (Q : List NK) (i j : Nat) (q q' : NK) (u : Value), Q[i]? = some q → j < 4 → nc q' = (nc q).set j u → (Q.flatMap nc).set (i * 4 + j) u = (Q.set i q').flatMap nc
 | p :: Q, 0, j, q, q', u, h, hj, hc => by
  simp at h; subst h
  rw [List.flatMap_cons, List.set_cons_zero, List.flatMap_cons, hc, List.set_append_left _ _ (by rw [nc_len]; omega)]
  congr 2; omega
 | p :: Q, i + 1, j, q, q', u, h, hj, hc => by
  have := flat_setQ Q i j q q' u (by simpa using h) hj hc
  rw [List.flatMap_cons, List.set_cons_succ, List.flatMap_cons, List.set_append_right _ _ (by rw [nc_len]; omega), ← this, nc_len]
  congr 2; omega
theorem rK_same {Q : List NK} {i : Nat} {q q' : NK} (h : Q[i]? = some q) (h1 : q'.2 = q.2) (h2 : q'.1.kids = q.1.kids) : rK (Q.set i q') = rK Q := by
 unfold rK
 rw [List.map_set]
 apply List.ext_getElem?
 intro j
 rw [List.getElem?_set]
 split
 ·
  rename_i e
  subst e
  split
  ·
   rw [List.getElem?_map, h]; simp [h1, h2]
  rename_i hl
  rw [List.getElem?_eq_none (by omega)]
 rfl
theorem rK_split {Q : List NK} {i : Nat} {q : NK} (h : Q[i]? = some q) : rK Q = rK (Q.take i) ++ rI q.2 q.1.kids :: rK (Q.drop (i + 1)) := by
 unfold rK
 have e : Q = Q.take i ++ q :: Q.drop (i + 1) := by
  rw [← drop_get h, List.take_append_drop]
 conv => lhs; rw [e]
 rw [List.map_append, List.map_cons]
theorem rK_set {Q : List NK} {i : Nat} {q q' : NK} (h : Q[i]? = some q) : rK (Q.set i q') = rK (Q.take i) ++ rI q'.2 q'.1.kids :: rK (Q.drop (i + 1)) := by
 have hi : i < Q.length := (List.getElem?_eq_some_iff.1 h).1
 rw [rK_split (Q := Q.set i q') (i := i) (q := q') (by simp [hi]), List.take_set_of_le (Nat.le_refl _), List.drop_set_of_lt (by omega)]
theorem rs_setN {X W : World} {B g n cv : Nat} (P S : List OR) {Q : List NK} {i : Nat} {q : NK} (q' : NK) {j : Nat} {u : Value} (hn : n = Q.length) (h : Rs X B W (P ++ rN (.slice (some ⟨g, 0, none⟩) n cv) Q :: S)) (hq : Q[i]? = some q) (hj : j < 4) (hc : nc q' = (nc q).set j u) {a : Nat} (ha : a = i * 4 + j) : Rs X B (W.setCell ⟨g, a, none⟩ u) (P ++ rN (.slice (some ⟨g, 0, none⟩) n cv) (Q.set i q') :: S) := by
 subst ha hn
 refine h.turn P S (grow_set (grown_refl _ _) _ _) ?_ (fun _ hh => Or.inl hh)
 have h1 : W.ownsRow B 42 4 (.slice (some ⟨g, 0, none⟩) Q.length cv) Q.length (Q.flatMap nc) := h.at P S
 have h2 := (World.ownsRow.stored h1 (i * 4 + j) u).1
 rw [flat_setQ Q i j q q' u hq hj hc] at h2
 show (W.setCell ⟨g, i * 4 + j, none⟩ u).ownsRow B 42 4 (.slice (some ⟨g, 0, none⟩) Q.length cv) (Q.set i q').length ((Q.set i q').flatMap nc)
 rw [List.length_set]
 exact h2
theorem rs_nodeAt {X W : World} {B g n cv : Nat} {P S : List OR} {Q : List NK} {i : Nat} {q : NK} (hn : n = Q.length) (h : Rs X B W (P ++ rN (.slice (some ⟨g, 0, none⟩) n cv) Q :: S)) (hq : Q[i]? = some q) :
  W.cell? ⟨g, i * 4, none⟩ = some (.int .i64 q.1.kind) ∧ W.cell? ⟨g, i * 4 + 1, none⟩ = some (.string q.1.text) ∧ W.cell? ⟨g, i * 4 + 2, none⟩ = some (.int .i64 q.1.num) ∧ W.cell? ⟨g, i * 4 + 3, none⟩ = some q.2 ∧ ∀ o, W.frozen? ⟨g, o, none⟩ = false := by
 subst hn
 have h1 : W.ownsRow B 42 4 (.slice (some ⟨g, 0, none⟩) Q.length cv) Q.length (Q.flatMap nc) := h.at P S
 have hi : i < Q.length := (List.getElem?_eq_some_iff.1 hq).1
 have hx : ∀ j, j < 4 → W.cell? ⟨g, i * 4 + j, none⟩ = (nc q)[j]? := fun j hj => by
  rw [World.ownsRow.cellAt h1 (i * 4 + j) (by omega), flat_get nc_len Q i q hq j hj]
 exact ⟨hx 0 (by omega), hx 1 (by omega), hx 2 (by omega), hx 3 (by omega), fun o => World.ownsRow.frozenAt h1 o⟩
theorem rN_congr {v : Value} {Q : List NK} {i : Nat} {a b : NK} (h : nc a = nc b) : rN v (Q.set i a) = rN v (Q.set i b) := by
 simp only [rN, List.flatMap, List.map_set, h, List.length_set]
theorem rI_form {w : World} {B : Nat} {v : Value} {L : List Int} (h : (rI v L).on w B) : ∃ s c, v = .slice s L.length c := by
 have h0 : w.ownsRow B 3 1 v L.length (L.map (Value.int .i64)) := h
 rcases h0.2 with ⟨e1, e2⟩ | ⟨gg, cap, cur, e1, _⟩
 ·
  exact ⟨none, 0, by rw [e1, e2]⟩
 exact ⟨_, cap, e1⟩
set_option maxHeartbeats 4000000 in
theorem markNodeS_row (X : World) (B g cv n : Nat) (P S : List OR) (Q : List NK) (k : Int) (w : World) (hn : n = Q.length) (hR : Rs X B w (P ++ rN (.slice (some ⟨g, 0, none⟩) n cv) Q :: (rK Q ++ S))) (hl : Q.length ≤ 8000) (hk : ∀ q ∈ Q, q.1.kids.length ≤ 4002) (k0 : 1 ≤ k) (k1 : k ≤ 1000) :
  Calls Tryz.prog 20 #[.slice (some ⟨g, 0, none⟩) n cv, .int .i64 k] w fun e w' => e = .returned (.int .i64 (k + cQ Q Q.length)) ∧ ∃ Q', MQ k Q Q' Q.length ∧ Rs X B w' (P ++ rN (.slice (some ⟨g, 0, none⟩) n cv) Q' :: (rK Q' ++ S)) := by
 have HK : Hid (∀ q ∈ Q, q.1.kids.length ≤ 4002) := hk
 have h0 := hid hR
 have Hn : Hid (n = Q.length) := hn
 have hn8 : n ≤ 8000 := by omega
 clear hR hk hn; go_enter Tryz.func20, Tryz.ntmps20
 go_wp2_with fail; go_loopw [1, 5] (fun kv iv wr => ∃ (m : Nat) (r : Int) (Q' : List NK), m ≤ n ∧ iv = .int .i64 m ∧ kv = .int .i64 r ∧ Hid (r = k + cQ Q m) ∧ Hid (MQ k Q Q' m) ∧ Hid (Rs X B wr (P ++ rN (.slice (some ⟨g, 0, none⟩) n cv) Q' :: (rK Q' ++ S)))) (fun _ iv _ => n - (intOf iv).toNat)
 case atStart => exact ⟨0, k, Q, by omega, rfl, rfl, (show k = k + cQ Q 0 by simp [cQ]), ⟨rfl, fun j q hj => by omega, fun _ _ => rfl⟩, h0⟩
 obtain ⟨m, r, Q', hm, rfl, rfl, hr, hq, hR'⟩ := hrel
 clear h0; have hb := hid (cQ_le HK.out m)
 have r0 : 1 ≤ r := by have h1 := hr.out; have h2 := hb.out; omega
 have r1 : r ≤ 40000000 := by have h1 := hr.out; have h2 := hb.out; omega
 by_cases hlt : m < n
 ·
  obtain ⟨q, hqm⟩ := get_some (L := Q) (by have := Hn.out; omega : m < Q.length)
  have hqm' : Q'[m]? = some q := by rw [hq.out.2.2 m (Nat.le_refl _)]; exact hqm
  have hn' : n = Q'.length := by rw [hq.out.1]; exact Hn.out
  have hkq := HK.out q (List.mem_of_getElem? hqm)
  obtain ⟨c0, c1, c2, c3, cf⟩ := rs_nodeAt hn' hR'.out hqm'
  have t1 : IntKind.i64.wrap (r + 1) = r + 1 := by rw [IntKind.wrap_i64]; omega
  have t2 : IntKind.i64.wrap (r + 1 + 1) = r + 1 + 1 := by rw [IntKind.wrap_i64]; omega
  have t3 : IntKind.i64.wrap (r + 1 + 1 + 1) = r + 1 + 1 + 1 := by rw [IntKind.wrap_i64]; omega
  have mi : (m : Int) < (n : Int) := by omega
  have a1 := rs_setN P (rK Q' ++ S) (q' := (⟨r, q.1.text, q.1.num, q.1.kids⟩, q.2)) (j := 0) (u := .int .i64 r) hn' hR'.out hqm' (by omega) rfl (a := m * 4) rfl
  obtain ⟨Q1, e1⟩ : ∃ Q1, Hid (Q'.set m (⟨r, q.1.text, q.1.num, q.1.kids⟩, q.2) = Q1) := ⟨_, rfl⟩
  rw [e1.out] at a1
  have hq1 : Hid (Q1[m]? = some (⟨r, q.1.text, q.1.num, q.1.kids⟩, q.2)) := by show _ = _; rw [← e1.out]; exact List.getElem?_set_self (by omega)
  have hn1 : Hid (n = Q1.length) := by show _ = _; rw [← e1.out, List.length_set]; exact hn'
  have hk1 : Hid (rK Q1 = rK Q') := by show _ = _; rw [← e1.out]; exact rK_same hqm' rfl rfl
  have A1 := hid a1
  have Hqm := hid hqm
  have Hqm' := hid hqm'
  have Hn' := hid hn'
  clear a1 hqm hqm' hn' hR'; go_wp2_with fail; generalize hW : wr.setCell ⟨g, m * 4, none⟩ (.int .i64 r) = W1 at A1 ⊢
  clear hW c0 c1 c2 c3 cf; refine (markText_is (r + 1) W1 (by omega) (by omega)).mono ?_
  rintro e w2 ⟨rfl, b2⟩
  have A2 := A1.out.later b2
  obtain ⟨c0, c1, c2, c3, cf⟩ := rs_nodeAt hn1.out A2 hq1.out
  have a3 := rs_setN P (rK Q' ++ S) (q' := (⟨r, mTx (r + 1), q.1.num, q.1.kids⟩, q.2)) (j := 1) (u := .string (mTx (r + 1))) hn1.out A2 hq1.out (by omega) rfl (a := m * 4 + 1) rfl
  have hq3 : (Q1.set m (⟨r, mTx (r + 1), q.1.num, q.1.kids⟩, q.2))[m]? = some (⟨r, mTx (r + 1), q.1.num, q.1.kids⟩, q.2) := List.getElem?_set_self (by have := hn1.out; omega)
  have a4 := rs_setN P (rK Q' ++ S) (q' := (⟨r, mTx (r + 1), r + 1 + 1, q.1.kids⟩, q.2)) (j := 2) (u := .int .i64 (r + 1 + 1)) (by rw [List.length_set]; exact hn1.out) a3 hq3 (by omega) rfl (a := m * 4 + 2) rfl
  rw [List.set_set, ← e1.out, List.set_set] at a4
  have hon : (rI q.2 q.1.kids).on w2 B := by
   rw [rK_split Hqm'.out] at A2
   have A3 : Rs X B w2 ((P ++ rN (.slice (some ⟨g, 0, none⟩) n cv) Q1 :: rK (Q'.take m)) ++ rI q.2 q.1.kids :: (rK (Q'.drop (m + 1)) ++ S)) := by simpa using A2
   exact A3.at _ _
  obtain ⟨ks, kc, ek⟩ := rI_form hon
  dsimp only at c0 c1 c2 c3
  rw [ek] at c3
  have A4 := hid a4
  clear a3 a4 A2 hq3 hon A1 b2 e1 hq1 hn1 hk1; obtain ⟨tt, htt⟩ : ∃ t, Hid (mTx (r + 1) = t) := ⟨_, rfl⟩
  rw [htt.out] at A4 ⊢
  go_wp2_with fail; generalize hW : (w2.setCell ⟨g, m * 4 + 1, none⟩ (.string tt)).setCell ⟨g, m * 4 + 2, none⟩ (.int .i64 (r + 1 + 1)) = W3 at A4 ⊢
  clear hW c0 c1 c2 c3 cf; have A5 : Hid (Rs X B W3 ((P ++ rN (.slice (some ⟨g, 0, none⟩) n cv) (Q'.set m (⟨r, tt, r + 1 + 1, q.1.kids⟩, q.2)) :: rK (Q'.take m)) ++ rI q.2 q.1.kids :: (rK (Q'.drop (m + 1)) ++ S))) := by
   have := A4.out
   rw [rK_split Hqm'.out] at this
   show Rs _ _ _ _
   simpa using this
  have h5 := A5.out.at _ _
  rw [ek] at h5
  refine (markI_o ks kc q.1.kids B (r + 1 + 1 + 1) W3 h5 (by omega) (by omega) (by omega)).mono ?_
  rintro e w4 ⟨rfl, h6, h7⟩
  have A6 := A5.out.turn _ _ (r' := rI q.2 (wI (r + 1 + 1 + 1) q.1.kids.length)) (by rw [ek]; exact h7) (by rw [ek]; show (rI (.slice ks q.1.kids.length kc) (wI (r + 1 + 1 + 1) q.1.kids.length)).on w4 B; exact h6) (fun _ hh => Or.inl hh)
  have A7 : Hid (Rs X B w4 (P ++ rN (.slice (some ⟨g, 0, none⟩) n cv) (Q'.set m (mN1 r q)) :: (rK (Q'.set m (mN1 r q)) ++ S))) := by
   show Rs _ _ _ _
   rw [rK_set Hqm'.out]
   have e2 : rN (.slice (some ⟨g, 0, none⟩) n cv) (Q'.set m (⟨r, tt, r + 1 + 1, q.1.kids⟩, q.2)) = rN (.slice (some ⟨g, 0, none⟩) n cv) (Q'.set m (mN1 r q)) := by
    refine rN_congr ?_
    rw [← htt.out]
    simp only [nc, mN1]
    rw [show r + 1 + 1 = r + 2 by omega]
   rw [← e2]
   have e3 : (mN1 r q).1.kids = wI (r + 1 + 1 + 1) q.1.kids.length := by rw [show r + 1 + 1 + 1 = r + 3 by omega]; rfl
   have e4 : (mN1 r q).2 = q.2 := rfl
   rw [e3, e4]
   simpa using A6
  have hMQ : Hid (MQ k Q (Q'.set m (mN1 r q)) (m + 1)) := by
   obtain ⟨g1, g2, g3⟩ := hq.out
   refine ⟨by rw [List.length_set]; exact g1, fun j p hj hp => ?_, fun j hj => ?_⟩
   ·
    by_cases e : j = m
    ·
     subst e
     rw [Hqm.out] at hp
     cases hp
     rw [← hr.out]
     exact List.getElem?_set_self (by have := Hn'.out; omega)
    rw [List.getElem?_set_ne (fun h => e h.symm)]
    exact g2 j p (by omega) hp
   rw [List.getElem?_set_ne (by omega)]
   exact g3 j (by omega)
  have hr2 : Hid (r + 1 + 1 + 1 + (q.1.kids.length : Int) = k + cQ Q (m + 1)) := by
   show _ = _
   rw [cQ_succ Hqm.out, hr.out]
   omega
  clear A5 A6 h5 h6 h7 A4; go_wp2_with fail; go_roundw
  case rel => exact ⟨m + 1, _, _, by omega, by go_num, rfl, hr2, hMQ, A7⟩
  case measure => simp [intOf]; omega
 have hmn : m = n := by omega
 subst hmn
 go_wp2_with fail; go_ret; refine ⟨by rw [← Hn.out, ← hr.out]; rfl, Q', by rw [← Hn.out]; exact hq.out, hR'.out⟩
end Go.Proofs.YtncknfkinmjmdaaGreatDoor
