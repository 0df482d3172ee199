import Derived.Test.YtkkofminndboaaaGreatDoorSb25
namespace Go.Proofs.YtkkofminndboaaaGreatDoor
open Go.RowKit
set_option linter.unusedVariables false
set_option linter.unusedSimpArgs false
set_option maxRecDepth 100000
theorem drop_get {α : Type} {L : List α} {m : Nat} {p : α} (h : L[m]? = some p) : L.drop m = p :: L.drop (m + 1) := by
 obtain ⟨hlt, rfl⟩ := List.getElem?_eq_some_iff.1 h
 exact List.drop_eq_getElem_cons hlt
theorem rK_split {Q : List NK} {i : Nat} {q : NK} (h : Q[i]? = some q) : rK Q = rK (Q.take i) ++ rI q.2 q.1.kids :: rK (Q.drop (i + 1)) := by
 unfold rK
 have e : Q = Q.take i ++ q :: Q.drop (i + 1) := by
  rw [← drop_get h, List.take_append_drop]
 conv => lhs; rw [e]
 rw [List.map_append, List.map_cons]
theorem rI_form {w : World} {B : Nat} {v : Value} {L : List Int} (h : (rI v L).on w B) : ∃ s c, v = .slice s L.length c := by
 have h0 : w.ownsRow B 3 1 v L.length (L.map (Value.int .i64)) := h
 rcases h0.2 with ⟨e1, e2⟩ | ⟨gg, cap, cur, e1, _⟩
 ·
  exact ⟨none, 0, by rw [e1, e2]⟩
 exact ⟨_, cap, e1⟩
theorem rows_inT {X W : World} {B cv ct : Nat} {sv st : Option Addr} {Q : List NK} {x : List Int} {S : List OR} (h : Rs X B W (rN (.slice sv Q.length cv) Q :: (rK Q ++ rI (.slice st x.length ct) x :: S))) : InT W B sv st ⟨Q.map (·.1), x⟩ := by
 refine ⟨?_, ?_⟩
 ·
  have h1 : W.ownsRow B 42 4 (.slice sv Q.length cv) Q.length (Q.flatMap nc) := h.at [] _
  rcases h1.2 with ⟨e1, e2⟩ | ⟨g, cap, cur, e1, _⟩
  ·
   exact Or.inl (by have : Q = [] := List.length_eq_zero_iff.1 e2; rw [this]; rfl)
  simp only [Value.slice.injEq] at e1
  obtain ⟨rfl, _, _⟩ := e1
  have hlt := World.ownsRow.lt h1 g rfl
  refine Or.inr ⟨g, 0, rfl, hlt.1, hlt.2, fun j a ha => ?_, fun _ o => World.ownsRow.frozenAt h1 o⟩
  dsimp only at ha
  rw [List.getElem?_map] at ha
  cases hq : Q[j]? with
  | none => rw [hq] at ha; cases ha
  | some q =>
   rw [hq] at ha
   simp only [Option.map_some, Option.some.injEq] at ha
   subst ha
   have hj : j < Q.length := (List.getElem?_eq_some_iff.1 hq).1
   have hon : (rI q.2 q.1.kids).on W B := by
    have h2 := h
    rw [rK_split hq] at h2
    have h3 : Rs X B W ((rN (.slice (some ⟨g, 0, none⟩) Q.length cv) Q :: rK (Q.take j)) ++ rI q.2 q.1.kids :: (rK (Q.drop (j + 1)) ++ rI (.slice st x.length ct) x :: S)) := by simpa using h2
    exact h3.at _ _
   obtain ⟨ks, kc, ek⟩ := rI_form hon
   refine ⟨nc q, nc_len q, fun i u hu => ?_, ks, kc, by simp [nc, ek], by rw [ek] at hon; exact rI_els hon⟩
   have hi : i < 4 := by rw [← nc_len q]; exact (List.getElem?_eq_some_iff.1 hu).1
   rw [Nat.zero_add, World.ownsRow.cellAt h1 (j * 4 + i) (by omega), flat_get nc_len Q j q hq i hi, hu]
 exact rI_els (h.at (rN (.slice sv Q.length cv) Q :: rK Q) S)
def trR (r : PRes) : Tre × Int × Int :=
 match r with
 | .ok (x, _, M) => (⟨M, x⟩, 0, 0)
 | .error (c, a) => (⟨[], []⟩, c, a)
theorem OkT.rows {X w' : World} {r : PRes} {e : Ending} (h : OkT X r e w') : ∃ (sv : Option Addr) (cv : Nat) (st : Option Addr) (ct : Nat) (Q : List NK) (x : List Int) (c a : Int), e = .returned (.tuple #[.agg #[.slice sv Q.length cv, .slice st x.length ct], .int .i64 c, .int .i64 a]) ∧ trR r = (⟨Q.map (·.1), x⟩, c, a) ∧ Rs X X.heap.size w' (rN (.slice sv Q.length cv) Q :: (rK Q ++ rI (.slice st x.length ct) x :: [])) := by
 rcases r with ⟨c, a⟩ | ⟨x, j, M⟩
 ·
  obtain ⟨rfl, hb⟩ := h
  have r0 : Rs X X.heap.size w' [] := ⟨hb, Owns.nil _ _, hb.size⟩
  have r1 : Rs X X.heap.size w' ([] ++ rI (.slice none 0 0) [] :: []) := Rs.ins [] [] r0 (Below.refl _ _) (World.ownsRow_nil _ _ _ _)
  have r2 : Rs X X.heap.size w' ([] ++ rN (.slice none 0 0) [] :: [rI (.slice none 0 0) []]) := Rs.ins [] [rI (.slice none 0 0) []] r1 (Below.refl _ _) (World.ownsRow_nil _ _ _ _)
  exact ⟨none, 0, none, 0, [], [], c, a, rfl, rfl, r2⟩
 obtain ⟨v, Q, s, cc, rfl, rfl, hR⟩ := h
 obtain ⟨sv, cv, rfl⟩ : ∃ sv cv, v = .slice sv Q.length cv := by
  have hon : w'.ownsRow X.heap.size 42 4 v Q.length (Q.flatMap nc) := hR.at [] _
  rcases hon.2 with ⟨e1, e2⟩ | ⟨gg, cap, cur, e1, _⟩
  ·
   exact ⟨none, 0, by rw [e1, e2]⟩
  exact ⟨_, cap, e1⟩
 exact ⟨sv, cv, s, cc, Q, x, 0, 0, rfl, rfl, hR⟩
def Code (w : World) (sl : Option Addr) (len : Nat) : Prop :=
 len = 0 ∨ ∃ pb po, sl = some ⟨pb, po, none⟩ ∧ pb < w.heap.size ∧ ∀ j, j < len → ∃ c : Int, 0 ≤ c ∧ c ≤ 255 ∧ w.cell? ⟨pb, po + j, none⟩ = some (.int .u8 c)
set_option maxHeartbeats 1000000 in
theorem big_any (sl : Option Addr) (len cap : Nat) (w : World) :
  Calls Tryz.prog 4 #[.slice sl len cap] w fun e w' => e = .returned (.bool (decide (1048576 < (len : Int)))) ∧ w' = w := by
 go_enter Tryz.func4, Tryz.ntmps4
 go_wp2
 go_ret; exact ⟨rfl, rfl⟩
set_option maxHeartbeats 1000000 in
theorem at_any (sl : Option Addr) (len cap : Nat) (i : Nat) (w : World) (hi : i ≤ 100) (hl : len ≤ 1048576) (hC : Code w sl len) :
  Calls Tryz.prog 5 #[.slice sl len cap, .int .i64 i] w fun e w' => ∃ r : Int, e = .returned (.int .i64 r) ∧ 0 ≤ r ∧ r ≤ 255 ∧ w' = w := by
 by_cases hlt : i < len
 ·
  obtain ⟨pb, po, rfl, hp, hby⟩ : ∃ pb po, sl = some ⟨pb, po, none⟩ ∧ pb < w.heap.size ∧ ∀ j, j < len → ∃ c : Int, 0 ≤ c ∧ c ≤ 255 ∧ w.cell? ⟨pb, po + j, none⟩ = some (.int .u8 c) := by
   rcases hC with h0 | h0
   ·
    omega
   exact h0
  obtain ⟨c, c1, c2, hc⟩ := hby i hlt
  clear hby hC; have hlt' : (i : Int) < (len : Int) := by omega
  go_enter Tryz.func5, Tryz.ntmps5
  go_wp2
  go_ret; exact ⟨_, rfl, c1, c2, rfl⟩
 have hlt' : ¬ (i : Int) < (len : Int) := by omega
 go_enter Tryz.func5, Tryz.ntmps5
 go_wp2
 go_ret; exact ⟨_, rfl, Int.emod_nonneg _ (by omega), by omega, rfl⟩
theorem Laid.kept {w w' : World} (h : Laid w) (hb : Below w.heap.size w w') : Laid w' := h.later hb
theorem parse_in (s : ByteArray) (w : World) (hL : Laid w) (h9 : 9 ≤ w.heap.size) :
  Calls Tryz.prog 6 #[.string s] w fun e w' => ∃ (sv : Option Addr) (cv : Nat) (st : Option Addr) (ct : Nat), e = .returned (.tuple #[.agg #[.slice sv (trR (pAll s)).1.nodes.length cv, .slice st (trR (pAll s)).1.tops.length ct], .int .i64 (trR (pAll s)).2.1, .int .i64 (trR (pAll s)).2.2]) ∧ InT w' w.heap.size sv st (trR (pAll s)).1 ∧ Below w.heap.size w w' := by
 refine (implParse_any s w hL h9).mono ?_
 intro e w' hO
 obtain ⟨sv, cv, st, ct, Q, x, c, a, rfl, ht, r⟩ := hO.rows
 rw [ht]
 exact ⟨sv, cv, st, ct, by simp, rows_inT r, r.l⟩
def kT (t : Tre) : Bool := decide (t.nodes.length ≤ 1048576) && (t.nodes.all fun n => decide (n.text.size ≤ 1048576) && decide (n.kids.length ≤ 1048576)) && decide (t.tops.length ≤ 1048576)
theorem kT_is {t : Tre} (h : kT t = true) : kTre t := by
 simp only [kT, Bool.and_eq_true, decide_eq_true_eq, List.all_eq_true] at h
 exact ⟨⟨h.1.1, fun n hn => ⟨(h.1.2 n hn).1, (h.1.2 n hn).2⟩⟩, h.2⟩
abbrev txu0 : ByteArray := (⟨#[115, 121, 115, 116, 101, 109, 32, 115, 32, 123, 32, 36, 88, 32, 61, 32]⟩ : ByteArray) ++ (⟨#[112, 32, 43, 32, 113, 32, 42, 32, 114, 32, 45, 32, 115]⟩ : ByteArray) ++ (⟨#[59, 32, 125]⟩ : ByteArray)
theorem cdu0 : (trR (pAll txu0)).2.1 = 0 := by kernel_rfl
theorem ku0 : kT (trR (pAll txu0)).1 = true := by kernel_rfl
theorem nu0 : (decide (5 < (trR (pAll txu0)).1.nodes.length)) = true := by kernel_rfl
abbrev txv0 : ByteArray := (⟨#[115, 121, 115, 116, 101, 109, 32, 115, 32, 123, 32, 36, 88, 32, 61, 32]⟩ : ByteArray) ++ (⟨#[40, 40, 112, 32, 43, 32, 40, 113, 32, 42, 32, 114, 41, 41, 32, 45, 32, 115, 41]⟩ : ByteArray) ++ (⟨#[59, 32, 125]⟩ : ByteArray)
theorem cdv0 : (trR (pAll txv0)).2.1 = 0 := by kernel_rfl
theorem kv0 : kT (trR (pAll txv0)).1 = true := by kernel_rfl
theorem e0 : sTre (trR (pAll txu0)).1 (trR (pAll txv0)).1 = true := by kernel_rfl
abbrev txu1 : ByteArray := (⟨#[115, 121, 115, 116, 101, 109, 32, 115, 32, 123, 32, 36, 88, 32, 61, 32]⟩ : ByteArray) ++ (⟨#[112, 32, 111, 114, 32, 113, 32, 97, 110, 100, 32, 114, 32, 60, 32, 115, 32, 43, 32, 49]⟩ : ByteArray) ++ (⟨#[59, 32, 125]⟩ : ByteArray)
theorem cdu1 : (trR (pAll txu1)).2.1 = 0 := by kernel_rfl
theorem ku1 : kT (trR (pAll txu1)).1 = true := by kernel_rfl
theorem nu1 : (decide (5 < (trR (pAll txu1)).1.nodes.length)) = true := by kernel_rfl
abbrev txv1 : ByteArray := (⟨#[115, 121, 115, 116, 101, 109, 32, 115, 32, 123, 32, 36, 88, 32, 61, 32]⟩ : ByteArray) ++ (⟨#[40, 112, 32, 111, 114, 32, 40, 113, 32, 97, 110, 100, 32, 40, 114, 32, 60, 32, 40, 115, 32, 43, 32, 49, 41, 41, 41, 41]⟩ : ByteArray) ++ (⟨#[59, 32, 125]⟩ : ByteArray)
theorem cdv1 : (trR (pAll txv1)).2.1 = 0 := by kernel_rfl
theorem kv1 : kT (trR (pAll txv1)).1 = true := by kernel_rfl
theorem e1 : sTre (trR (pAll txu1)).1 (trR (pAll txv1)).1 = true := by kernel_rfl
abbrev txu2 : ByteArray := (⟨#[115, 121, 115, 116, 101, 109, 32, 115, 32, 123, 32, 36, 88, 32, 61, 32]⟩ : ByteArray) ++ (⟨#[45, 32, 112, 32, 42, 32, 113, 32, 61, 61, 32, 110, 111, 116, 32, 114]⟩ : ByteArray) ++ (⟨#[59, 32, 125]⟩ : ByteArray)
theorem cdu2 : (trR (pAll txu2)).2.1 = 0 := by kernel_rfl
theorem ku2 : kT (trR (pAll txu2)).1 = true := by kernel_rfl
theorem nu2 : (decide (5 < (trR (pAll txu2)).1.nodes.length)) = true := by kernel_rfl
abbrev txv2 : ByteArray := (⟨#[115, 121, 115, 116, 101, 109, 32, 115, 32, 123, 32, 36, 88, 32, 61, 32]⟩ : ByteArray) ++ (⟨#[40, 40, 45, 112, 32, 42, 32, 113, 41, 32, 61, 61, 32, 40, 110, 111, 116, 32, 114, 41, 41]⟩ : ByteArray) ++ (⟨#[59, 32, 125]⟩ : ByteArray)
theorem cdv2 : (trR (pAll txv2)).2.1 = 0 := by kernel_rfl
theorem kv2 : kT (trR (pAll txv2)).1 = true := by kernel_rfl
theorem e2 : sTre (trR (pAll txu2)).1 (trR (pAll txv2)).1 = true := by kernel_rfl
abbrev txu3 : ByteArray := (⟨#[115, 121, 115, 116, 101, 109, 32, 115, 32, 123, 32, 36, 88, 32, 61, 32]⟩ : ByteArray) ++ (⟨#[112, 32, 47, 32, 113, 32, 37, 32, 114, 32, 42, 32, 115]⟩ : ByteArray) ++ (⟨#[59, 32, 125]⟩ : ByteArray)
theorem cdu3 : (trR (pAll txu3)).2.1 = 0 := by kernel_rfl
theorem ku3 : kT (trR (pAll txu3)).1 = true := by kernel_rfl
theorem nu3 : (decide (5 < (trR (pAll txu3)).1.nodes.length)) = true := by kernel_rfl
abbrev txv3 : ByteArray := (⟨#[115, 121, 115, 116, 101, 109, 32, 115, 32, 123, 32, 36, 88, 32, 61, 32]⟩ : ByteArray) ++ (⟨#[40, 40, 40, 112, 32, 47, 32, 113, 41, 32, 37, 32, 114, 41, 32, 42, 32, 115, 41]⟩ : ByteArray) ++ (⟨#[59, 32, 125]⟩ : ByteArray)
theorem cdv3 : (trR (pAll txv3)).2.1 = 0 := by kernel_rfl
theorem kv3 : kT (trR (pAll txv3)).1 = true := by kernel_rfl
theorem e3 : sTre (trR (pAll txu3)).1 (trR (pAll txv3)).1 = true := by kernel_rfl
abbrev txu4 : ByteArray := (⟨#[115, 121, 115, 116, 101, 109, 32, 115, 32, 123, 32, 36, 88, 32, 61, 32]⟩ : ByteArray) ++ (⟨#[112, 32, 60, 32, 113, 32, 60, 32, 114]⟩ : ByteArray) ++ (⟨#[59, 32, 125]⟩ : ByteArray)
theorem cdu4 : (trR (pAll txu4)).2.1 = 2 := by kernel_rfl
theorem nu4 : (trR (pAll txu4)).1.nodes.length = 0 := by kernel_rfl
abbrev txv4 : ByteArray := (⟨#[115, 121, 115, 116, 101, 109, 32, 115, 32, 123, 32, 36, 88, 32, 61, 32]⟩ : ByteArray) ++ (⟨#[40, 112, 32, 60, 32, 113, 41, 32, 60, 32, 114]⟩ : ByteArray) ++ (⟨#[59, 32, 125]⟩ : ByteArray)
theorem cdv4 : (trR (pAll txv4)).2.1 = 0 := by kernel_rfl
theorem nv4 : (decide (5 < (trR (pAll txv4)).1.nodes.length)) = true := by kernel_rfl
set_option maxHeartbeats 8000000 in
theorem binds_any (sl : Option Addr) (len cap : Nat) (w : World) (hC : Code w sl len) (hL : Laid w) (h9 : 9 ≤ w.heap.size) :
  Calls Tryz.prog 3 #[.slice sl len cap] w fun e w' => e = .returned (.bool true) ∧ Below w.heap.size w w' := by
 by_cases hbig : 1048576 < (len : Int)
 ·
  go_enter Tryz.func3, Tryz.ntmps3
  go_wp2_with fail; refine (big_any sl len cap w).mono ?_
  rintro e w1 ⟨rfl, rfl⟩
  rw [decide_eq_true hbig]
  go_wp2_with fail; go_ret; exact ⟨rfl, Below.refl _ _⟩
 have HL := hid hL
 have HC := hid hC
 obtain ⟨K6, K7, L0⟩ := blkTwo w #[.slice none 0 0, .slice none 0 0] #[.slice none 0 0, .slice none 0 0] 27 27
 clear hL hC; go_enter Tryz.func3, Tryz.ntmps3
 go_wp2_with fail; refine (big_any sl len cap w).mono ?_
 rintro e w1 ⟨rfl, rfl⟩
 rw [decide_eq_false (by omega : ¬ (1048576 : Int) < (len : Int))]
 go_wp2_with fail; generalize hW : (w1.alloc (.cells #[.slice none 0 0, .slice none 0 0] 27)).alloc (.cells #[.slice none 0 0, .slice none 0 0] 27) = W at K6 K7 L0 ⊢
 clear hW; have HC2 : Hid (Code W sl len) := by
  rcases HC.out with h | ⟨pb, po, h1, h2, h3⟩
  ·
   exact Or.inl h
  refine Or.inr ⟨pb, po, h1, Nat.lt_of_lt_of_le h2 L0.size, fun j hj => ?_⟩
  obtain ⟨c, c1, c2, c3⟩ := h3 j hj
  exact ⟨c, c1, c2, (L0.cell (p := ⟨pb, po + j, none⟩) h2).trans c3⟩
 refine (at_any sl len cap 0 W (by omega) (by omega) HC2.out).mono ?_
 rintro e w2 ⟨r, rfl, r0, r1, rfl⟩
 have hr : r % 5 = 0 ∨ r % 5 = 1 ∨ r % 5 = 2 ∨ r % 5 = 3 ∨ r % 5 = 4 := by omega
 have tm : Int.tmod r 5 = r % 5 := Int.tmod_eq_emod_of_nonneg r0
 have s0 := L0.size
 have n6 : w1.heap.size < w2.heap.size := K6.lt
 have n7 : w1.heap.size + 1 < w2.heap.size := K7.lt
 rcases hr with hr | hr | hr | hr | hr
 ·
  rw [hr] at tm
  clear hr r0 r1; go_wp2_with fail; refine (parse_in txu0 w2 (HL.out.later L0) (by omega)).mono ?_
  rintro e w3 ⟨sv, cv, st, ct, rfl, I3, b3⟩
  rw [cdu0]
  obtain ⟨t0, ht0⟩ : ∃ t, Hid ((trR (pAll txu0)).1 = t) := ⟨_, rfl⟩
  rw [ht0.out] at I3 ⊢
  generalize (trR (pAll txu0)).2.2 = a0
  have K6b := K6.later b3
  have K7b := K7.later b3
  obtain ⟨x0, x1, xf⟩ := K6b.two
  have K6c := (K6b.set 0 (.slice sv t0.nodes.length cv)).set 1 (.slice st t0.tops.length ct)
  have K7c := (K7b.other (m := w1.heap.size) (by omega) 0 (.slice sv t0.nodes.length cv)).other (m := w1.heap.size) (by omega) 1 (.slice st t0.tops.length ct)
  have I4 := (I3.kept (Kept.set w3 (p := ⟨w1.heap.size, 0, none⟩) n6 (.slice sv t0.nodes.length cv))).kept (Kept.set _ (p := ⟨w1.heap.size, 1, none⟩) n6 (.slice st t0.tops.length ct))
  have L4 := ((bl_trans L0 b3).setCell (p := ⟨w1.heap.size, 0, none⟩) (Nat.le_refl _) (.slice sv t0.nodes.length cv)).setCell (p := ⟨w1.heap.size, 1, none⟩) (Nat.le_refl _) (.slice st t0.tops.length ct)
  clear K6b K7b I3 b3; go_wp2_with fail; generalize hW : (w3.setCell ⟨w1.heap.size, 0, none⟩ (.slice sv t0.nodes.length cv)).setCell ⟨w1.heap.size, 1, none⟩ (.slice st t0.tops.length ct) = W4 at K6c K7c I4 L4 ⊢
  clear hW x0 x1 xf; have K6c : Blk W4 w1.heap.size #[.slice sv t0.nodes.length cv, .slice st t0.tops.length ct] 27 := K6c
  have s4 := L4.size
  refine (parse_in txv0 W4 (HL.out.later L4) (by omega)).mono ?_
  rintro e w5 ⟨sv2, cv2, st2, ct2, rfl, I5, b5⟩
  rw [cdv0]
  obtain ⟨t1, ht1⟩ : ∃ t, Hid ((trR (pAll txv0)).1 = t) := ⟨_, rfl⟩
  rw [ht1.out] at I5 ⊢
  generalize (trR (pAll txv0)).2.2 = a1
  have n7b : w1.heap.size + 1 < W4.heap.size := K7c.lt
  have K6d := K6c.later b5
  have K7d := K7c.later b5
  obtain ⟨x0, x1, xf⟩ := K7d.two
  have K7e := (K7d.set 0 (.slice sv2 t1.nodes.length cv2)).set 1 (.slice st2 t1.tops.length ct2)
  have K6e := (K6d.other (m := w1.heap.size + 1) (by omega) 0 (.slice sv2 t1.nodes.length cv2)).other (m := w1.heap.size + 1) (by omega) 1 (.slice st2 t1.tops.length ct2)
  have I6 := (I5.kept (Kept.set w5 (p := ⟨w1.heap.size + 1, 0, none⟩) n7b (.slice sv2 t1.nodes.length cv2))).kept (Kept.set _ (p := ⟨w1.heap.size + 1, 1, none⟩) n7b (.slice st2 t1.tops.length ct2))
  have I7 := ((I4.later b5).kept (Kept.set w5 (p := ⟨w1.heap.size + 1, 0, none⟩) n7 (.slice sv2 t1.nodes.length cv2))).kept (Kept.set _ (p := ⟨w1.heap.size + 1, 1, none⟩) n7 (.slice st2 t1.tops.length ct2))
  have L6 := ((bl_trans L4 b5).setCell (p := ⟨w1.heap.size + 1, 0, none⟩) (by simp) (.slice sv2 t1.nodes.length cv2)).setCell (p := ⟨w1.heap.size + 1, 1, none⟩) (by simp) (.slice st2 t1.tops.length ct2)
  clear K6c K7c K6d K7d I4 I5 b5 L4; have hn : Hid (5 < t0.nodes.length) := by have := nu0; rw [ht0.out] at this; exact hid (of_decide_eq_true this)
  have hs : Hid (sTre t0 t1 = true) := by have := e0; rw [ht0.out, ht1.out] at this; exact this
  have hk0 : Hid (kTre t0) := by have := ku0; rw [ht0.out] at this; exact kT_is this
  have hk1 : Hid (kTre t1) := by have := kv0; rw [ht1.out] at this; exact kT_is this
  obtain ⟨y0, y1, yf⟩ := K6e.two
  have K7e : Blk _ (w1.heap.size + 1) #[.slice sv2 t1.nodes.length cv2, .slice st2 t1.tops.length ct2] 27 := K7e
  obtain ⟨z0, z1, zf⟩ := K7e.two
  go_wp2_with fail; generalize hW : (w5.setCell ⟨w1.heap.size + 1, 0, none⟩ (.slice sv2 t1.nodes.length cv2)).setCell ⟨w1.heap.size + 1, 1, none⟩ (.slice st2 t1.tops.length ct2) = W6 at K6e K7e I6 I7 L6 y0 y1 yf z0 z1 zf ⊢
  clear hW x0 x1 xf; refine (implTreeSame_any sv st sv2 st2 cv ct cv2 ct2 t0 t1 _ _ W6 I7 I6 hk0.out hk1.out).mono ?_
  rintro e w7 ⟨rfl, b7⟩
  rw [hs.out]
  have K6f := K6e.later b7
  have L7 := bl_trans L6 b7
  clear y0 y1 yf z0 z1 zf K6e K7e I6 I7 b7; obtain ⟨y0, y1, yf⟩ := K6f.two
  have hn2 : (5 : Int) < (t0.nodes.length : Int) := by have := hn.out; omega
  go_wp2_with fail; go_ret; exact ⟨rfl, L7⟩
 ·
  rw [hr] at tm
  clear hr r0 r1; go_wp2_with fail; refine (parse_in txu1 w2 (HL.out.later L0) (by omega)).mono ?_
  rintro e w3 ⟨sv, cv, st, ct, rfl, I3, b3⟩
  rw [cdu1]
  obtain ⟨t0, ht0⟩ : ∃ t, Hid ((trR (pAll txu1)).1 = t) := ⟨_, rfl⟩
  rw [ht0.out] at I3 ⊢
  generalize (trR (pAll txu1)).2.2 = a0
  have K6b := K6.later b3
  have K7b := K7.later b3
  obtain ⟨x0, x1, xf⟩ := K6b.two
  have K6c := (K6b.set 0 (.slice sv t0.nodes.length cv)).set 1 (.slice st t0.tops.length ct)
  have K7c := (K7b.other (m := w1.heap.size) (by omega) 0 (.slice sv t0.nodes.length cv)).other (m := w1.heap.size) (by omega) 1 (.slice st t0.tops.length ct)
  have I4 := (I3.kept (Kept.set w3 (p := ⟨w1.heap.size, 0, none⟩) n6 (.slice sv t0.nodes.length cv))).kept (Kept.set _ (p := ⟨w1.heap.size, 1, none⟩) n6 (.slice st t0.tops.length ct))
  have L4 := ((bl_trans L0 b3).setCell (p := ⟨w1.heap.size, 0, none⟩) (Nat.le_refl _) (.slice sv t0.nodes.length cv)).setCell (p := ⟨w1.heap.size, 1, none⟩) (Nat.le_refl _) (.slice st t0.tops.length ct)
  clear K6b K7b I3 b3; go_wp2_with fail; generalize hW : (w3.setCell ⟨w1.heap.size, 0, none⟩ (.slice sv t0.nodes.length cv)).setCell ⟨w1.heap.size, 1, none⟩ (.slice st t0.tops.length ct) = W4 at K6c K7c I4 L4 ⊢
  clear hW x0 x1 xf; have K6c : Blk W4 w1.heap.size #[.slice sv t0.nodes.length cv, .slice st t0.tops.length ct] 27 := K6c
  have s4 := L4.size
  refine (parse_in txv1 W4 (HL.out.later L4) (by omega)).mono ?_
  rintro e w5 ⟨sv2, cv2, st2, ct2, rfl, I5, b5⟩
  rw [cdv1]
  obtain ⟨t1, ht1⟩ : ∃ t, Hid ((trR (pAll txv1)).1 = t) := ⟨_, rfl⟩
  rw [ht1.out] at I5 ⊢
  generalize (trR (pAll txv1)).2.2 = a1
  have n7b : w1.heap.size + 1 < W4.heap.size := K7c.lt
  have K6d := K6c.later b5
  have K7d := K7c.later b5
  obtain ⟨x0, x1, xf⟩ := K7d.two
  have K7e := (K7d.set 0 (.slice sv2 t1.nodes.length cv2)).set 1 (.slice st2 t1.tops.length ct2)
  have K6e := (K6d.other (m := w1.heap.size + 1) (by omega) 0 (.slice sv2 t1.nodes.length cv2)).other (m := w1.heap.size + 1) (by omega) 1 (.slice st2 t1.tops.length ct2)
  have I6 := (I5.kept (Kept.set w5 (p := ⟨w1.heap.size + 1, 0, none⟩) n7b (.slice sv2 t1.nodes.length cv2))).kept (Kept.set _ (p := ⟨w1.heap.size + 1, 1, none⟩) n7b (.slice st2 t1.tops.length ct2))
  have I7 := ((I4.later b5).kept (Kept.set w5 (p := ⟨w1.heap.size + 1, 0, none⟩) n7 (.slice sv2 t1.nodes.length cv2))).kept (Kept.set _ (p := ⟨w1.heap.size + 1, 1, none⟩) n7 (.slice st2 t1.tops.length ct2))
  have L6 := ((bl_trans L4 b5).setCell (p := ⟨w1.heap.size + 1, 0, none⟩) (by simp) (.slice sv2 t1.nodes.length cv2)).setCell (p := ⟨w1.heap.size + 1, 1, none⟩) (by simp) (.slice st2 t1.tops.length ct2)
  clear K6c K7c K6d K7d I4 I5 b5 L4; have hn : Hid (5 < t0.nodes.length) := by have := nu1; rw [ht0.out] at this; exact hid (of_decide_eq_true this)
  have hs : Hid (sTre t0 t1 = true) := by have := e1; rw [ht0.out, ht1.out] at this; exact this
  have hk0 : Hid (kTre t0) := by have := ku1; rw [ht0.out] at this; exact kT_is this
  have hk1 : Hid (kTre t1) := by have := kv1; rw [ht1.out] at this; exact kT_is this
  obtain ⟨y0, y1, yf⟩ := K6e.two
  have K7e : Blk _ (w1.heap.size + 1) #[.slice sv2 t1.nodes.length cv2, .slice st2 t1.tops.length ct2] 27 := K7e
  obtain ⟨z0, z1, zf⟩ := K7e.two
  go_wp2_with fail; generalize hW : (w5.setCell ⟨w1.heap.size + 1, 0, none⟩ (.slice sv2 t1.nodes.length cv2)).setCell ⟨w1.heap.size + 1, 1, none⟩ (.slice st2 t1.tops.length ct2) = W6 at K6e K7e I6 I7 L6 y0 y1 yf z0 z1 zf ⊢
  clear hW x0 x1 xf; refine (implTreeSame_any sv st sv2 st2 cv ct cv2 ct2 t0 t1 _ _ W6 I7 I6 hk0.out hk1.out).mono ?_
  rintro e w7 ⟨rfl, b7⟩
  rw [hs.out]
  have K6f := K6e.later b7
  have L7 := bl_trans L6 b7
  clear y0 y1 yf z0 z1 zf K6e K7e I6 I7 b7; obtain ⟨y0, y1, yf⟩ := K6f.two
  have hn2 : (5 : Int) < (t0.nodes.length : Int) := by have := hn.out; omega
  go_wp2_with fail; go_ret; exact ⟨rfl, L7⟩
 ·
  rw [hr] at tm
  clear hr r0 r1; go_wp2_with fail; refine (parse_in txu2 w2 (HL.out.later L0) (by omega)).mono ?_
  rintro e w3 ⟨sv, cv, st, ct, rfl, I3, b3⟩
  rw [cdu2]
  obtain ⟨t0, ht0⟩ : ∃ t, Hid ((trR (pAll txu2)).1 = t) := ⟨_, rfl⟩
  rw [ht0.out] at I3 ⊢
  generalize (trR (pAll txu2)).2.2 = a0
  have K6b := K6.later b3
  have K7b := K7.later b3
  obtain ⟨x0, x1, xf⟩ := K6b.two
  have K6c := (K6b.set 0 (.slice sv t0.nodes.length cv)).set 1 (.slice st t0.tops.length ct)
  have K7c := (K7b.other (m := w1.heap.size) (by omega) 0 (.slice sv t0.nodes.length cv)).other (m := w1.heap.size) (by omega) 1 (.slice st t0.tops.length ct)
  have I4 := (I3.kept (Kept.set w3 (p := ⟨w1.heap.size, 0, none⟩) n6 (.slice sv t0.nodes.length cv))).kept (Kept.set _ (p := ⟨w1.heap.size, 1, none⟩) n6 (.slice st t0.tops.length ct))
  have L4 := ((bl_trans L0 b3).setCell (p := ⟨w1.heap.size, 0, none⟩) (Nat.le_refl _) (.slice sv t0.nodes.length cv)).setCell (p := ⟨w1.heap.size, 1, none⟩) (Nat.le_refl _) (.slice st t0.tops.length ct)
  clear K6b K7b I3 b3; go_wp2_with fail; generalize hW : (w3.setCell ⟨w1.heap.size, 0, none⟩ (.slice sv t0.nodes.length cv)).setCell ⟨w1.heap.size, 1, none⟩ (.slice st t0.tops.length ct) = W4 at K6c K7c I4 L4 ⊢
  clear hW x0 x1 xf; have K6c : Blk W4 w1.heap.size #[.slice sv t0.nodes.length cv, .slice st t0.tops.length ct] 27 := K6c
  have s4 := L4.size
  refine (parse_in txv2 W4 (HL.out.later L4) (by omega)).mono ?_
  rintro e w5 ⟨sv2, cv2, st2, ct2, rfl, I5, b5⟩
  rw [cdv2]
  obtain ⟨t1, ht1⟩ : ∃ t, Hid ((trR (pAll txv2)).1 = t) := ⟨_, rfl⟩
  rw [ht1.out] at I5 ⊢
  generalize (trR (pAll txv2)).2.2 = a1
  have n7b : w1.heap.size + 1 < W4.heap.size := K7c.lt
  have K6d := K6c.later b5
  have K7d := K7c.later b5
  obtain ⟨x0, x1, xf⟩ := K7d.two
  have K7e := (K7d.set 0 (.slice sv2 t1.nodes.length cv2)).set 1 (.slice st2 t1.tops.length ct2)
  have K6e := (K6d.other (m := w1.heap.size + 1) (by omega) 0 (.slice sv2 t1.nodes.length cv2)).other (m := w1.heap.size + 1) (by omega) 1 (.slice st2 t1.tops.length ct2)
  have I6 := (I5.kept (Kept.set w5 (p := ⟨w1.heap.size + 1, 0, none⟩) n7b (.slice sv2 t1.nodes.length cv2))).kept (Kept.set _ (p := ⟨w1.heap.size + 1, 1, none⟩) n7b (.slice st2 t1.tops.length ct2))
  have I7 := ((I4.later b5).kept (Kept.set w5 (p := ⟨w1.heap.size + 1, 0, none⟩) n7 (.slice sv2 t1.nodes.length cv2))).kept (Kept.set _ (p := ⟨w1.heap.size + 1, 1, none⟩) n7 (.slice st2 t1.tops.length ct2))
  have L6 := ((bl_trans L4 b5).setCell (p := ⟨w1.heap.size + 1, 0, none⟩) (by simp) (.slice sv2 t1.nodes.length cv2)).setCell (p := ⟨w1.heap.size + 1, 1, none⟩) (by simp) (.slice st2 t1.tops.length ct2)
  clear K6c K7c K6d K7d I4 I5 b5 L4; have hn : Hid (5 < t0.nodes.length) := by have := nu2; rw [ht0.out] at this; exact hid (of_decide_eq_true this)
  have hs : Hid (sTre t0 t1 = true) := by have := e2; rw [ht0.out, ht1.out] at this; exact this
  have hk0 : Hid (kTre t0) := by have := ku2; rw [ht0.out] at this; exact kT_is this
  have hk1 : Hid (kTre t1) := by have := kv2; rw [ht1.out] at this; exact kT_is this
  obtain ⟨y0, y1, yf⟩ := K6e.two
  have K7e : Blk _ (w1.heap.size + 1) #[.slice sv2 t1.nodes.length cv2, .slice st2 t1.tops.length ct2] 27 := K7e
  obtain ⟨z0, z1, zf⟩ := K7e.two
  go_wp2_with fail; generalize hW : (w5.setCell ⟨w1.heap.size + 1, 0, none⟩ (.slice sv2 t1.nodes.length cv2)).setCell ⟨w1.heap.size + 1, 1, none⟩ (.slice st2 t1.tops.length ct2) = W6 at K6e K7e I6 I7 L6 y0 y1 yf z0 z1 zf ⊢
  clear hW x0 x1 xf; refine (implTreeSame_any sv st sv2 st2 cv ct cv2 ct2 t0 t1 _ _ W6 I7 I6 hk0.out hk1.out).mono ?_
  rintro e w7 ⟨rfl, b7⟩
  rw [hs.out]
  have K6f := K6e.later b7
  have L7 := bl_trans L6 b7
  clear y0 y1 yf z0 z1 zf K6e K7e I6 I7 b7; obtain ⟨y0, y1, yf⟩ := K6f.two
  have hn2 : (5 : Int) < (t0.nodes.length : Int) := by have := hn.out; omega
  go_wp2_with fail; go_ret; exact ⟨rfl, L7⟩
 ·
  rw [hr] at tm
  clear hr r0 r1; go_wp2_with fail; refine (parse_in txu3 w2 (HL.out.later L0) (by omega)).mono ?_
  rintro e w3 ⟨sv, cv, st, ct, rfl, I3, b3⟩
  rw [cdu3]
  obtain ⟨t0, ht0⟩ : ∃ t, Hid ((trR (pAll txu3)).1 = t) := ⟨_, rfl⟩
  rw [ht0.out] at I3 ⊢
  generalize (trR (pAll txu3)).2.2 = a0
  have K6b := K6.later b3
  have K7b := K7.later b3
  obtain ⟨x0, x1, xf⟩ := K6b.two
  have K6c := (K6b.set 0 (.slice sv t0.nodes.length cv)).set 1 (.slice st t0.tops.length ct)
  have K7c := (K7b.other (m := w1.heap.size) (by omega) 0 (.slice sv t0.nodes.length cv)).other (m := w1.heap.size) (by omega) 1 (.slice st t0.tops.length ct)
  have I4 := (I3.kept (Kept.set w3 (p := ⟨w1.heap.size, 0, none⟩) n6 (.slice sv t0.nodes.length cv))).kept (Kept.set _ (p := ⟨w1.heap.size, 1, none⟩) n6 (.slice st t0.tops.length ct))
  have L4 := ((bl_trans L0 b3).setCell (p := ⟨w1.heap.size, 0, none⟩) (Nat.le_refl _) (.slice sv t0.nodes.length cv)).setCell (p := ⟨w1.heap.size, 1, none⟩) (Nat.le_refl _) (.slice st t0.tops.length ct)
  clear K6b K7b I3 b3; go_wp2_with fail; generalize hW : (w3.setCell ⟨w1.heap.size, 0, none⟩ (.slice sv t0.nodes.length cv)).setCell ⟨w1.heap.size, 1, none⟩ (.slice st t0.tops.length ct) = W4 at K6c K7c I4 L4 ⊢
  clear hW x0 x1 xf; have K6c : Blk W4 w1.heap.size #[.slice sv t0.nodes.length cv, .slice st t0.tops.length ct] 27 := K6c
  have s4 := L4.size
  refine (parse_in txv3 W4 (HL.out.later L4) (by omega)).mono ?_
  rintro e w5 ⟨sv2, cv2, st2, ct2, rfl, I5, b5⟩
  rw [cdv3]
  obtain ⟨t1, ht1⟩ : ∃ t, Hid ((trR (pAll txv3)).1 = t) := ⟨_, rfl⟩
  rw [ht1.out] at I5 ⊢
  generalize (trR (pAll txv3)).2.2 = a1
  have n7b : w1.heap.size + 1 < W4.heap.size := K7c.lt
  have K6d := K6c.later b5
  have K7d := K7c.later b5
  obtain ⟨x0, x1, xf⟩ := K7d.two
  have K7e := (K7d.set 0 (.slice sv2 t1.nodes.length cv2)).set 1 (.slice st2 t1.tops.length ct2)
  have K6e := (K6d.other (m := w1.heap.size + 1) (by omega) 0 (.slice sv2 t1.nodes.length cv2)).other (m := w1.heap.size + 1) (by omega) 1 (.slice st2 t1.tops.length ct2)
  have I6 := (I5.kept (Kept.set w5 (p := ⟨w1.heap.size + 1, 0, none⟩) n7b (.slice sv2 t1.nodes.length cv2))).kept (Kept.set _ (p := ⟨w1.heap.size + 1, 1, none⟩) n7b (.slice st2 t1.tops.length ct2))
  have I7 := ((I4.later b5).kept (Kept.set w5 (p := ⟨w1.heap.size + 1, 0, none⟩) n7 (.slice sv2 t1.nodes.length cv2))).kept (Kept.set _ (p := ⟨w1.heap.size + 1, 1, none⟩) n7 (.slice st2 t1.tops.length ct2))
  have L6 := ((bl_trans L4 b5).setCell (p := ⟨w1.heap.size + 1, 0, none⟩) (by simp) (.slice sv2 t1.nodes.length cv2)).setCell (p := ⟨w1.heap.size + 1, 1, none⟩) (by simp) (.slice st2 t1.tops.length ct2)
  clear K6c K7c K6d K7d I4 I5 b5 L4; have hn : Hid (5 < t0.nodes.length) := by have := nu3; rw [ht0.out] at this; exact hid (of_decide_eq_true this)
  have hs : Hid (sTre t0 t1 = true) := by have := e3; rw [ht0.out, ht1.out] at this; exact this
  have hk0 : Hid (kTre t0) := by have := ku3; rw [ht0.out] at this; exact kT_is this
  have hk1 : Hid (kTre t1) := by have := kv3; rw [ht1.out] at this; exact kT_is this
  obtain ⟨y0, y1, yf⟩ := K6e.two
  have K7e : Blk _ (w1.heap.size + 1) #[.slice sv2 t1.nodes.length cv2, .slice st2 t1.tops.length ct2] 27 := K7e
  obtain ⟨z0, z1, zf⟩ := K7e.two
  go_wp2_with fail; generalize hW : (w5.setCell ⟨w1.heap.size + 1, 0, none⟩ (.slice sv2 t1.nodes.length cv2)).setCell ⟨w1.heap.size + 1, 1, none⟩ (.slice st2 t1.tops.length ct2) = W6 at K6e K7e I6 I7 L6 y0 y1 yf z0 z1 zf ⊢
  clear hW x0 x1 xf; refine (implTreeSame_any sv st sv2 st2 cv ct cv2 ct2 t0 t1 _ _ W6 I7 I6 hk0.out hk1.out).mono ?_
  rintro e w7 ⟨rfl, b7⟩
  rw [hs.out]
  have K6f := K6e.later b7
  have L7 := bl_trans L6 b7
  clear y0 y1 yf z0 z1 zf K6e K7e I6 I7 b7; obtain ⟨y0, y1, yf⟩ := K6f.two
  have hn2 : (5 : Int) < (t0.nodes.length : Int) := by have := hn.out; omega
  go_wp2_with fail; go_ret; exact ⟨rfl, L7⟩
 rw [hr] at tm
 clear hr r0 r1; go_wp2_with fail; refine (parse_in txu4 w2 (HL.out.later L0) (by omega)).mono ?_
 rintro e w3 ⟨sv, cv, st, ct, rfl, I3, b3⟩
 rw [cdu4]
 obtain ⟨t0, ht0⟩ : ∃ t, Hid ((trR (pAll txu4)).1 = t) := ⟨_, rfl⟩
 rw [ht0.out] at I3 ⊢
 generalize (trR (pAll txu4)).2.2 = a0
 have K6b := K6.later b3
 have K7b := K7.later b3
 obtain ⟨x0, x1, xf⟩ := K6b.two
 have K6c := (K6b.set 0 (.slice sv t0.nodes.length cv)).set 1 (.slice st t0.tops.length ct)
 have K7c := (K7b.other (m := w1.heap.size) (by omega) 0 (.slice sv t0.nodes.length cv)).other (m := w1.heap.size) (by omega) 1 (.slice st t0.tops.length ct)
 have I4 := (I3.kept (Kept.set w3 (p := ⟨w1.heap.size, 0, none⟩) n6 (.slice sv t0.nodes.length cv))).kept (Kept.set _ (p := ⟨w1.heap.size, 1, none⟩) n6 (.slice st t0.tops.length ct))
 have L4 := ((bl_trans L0 b3).setCell (p := ⟨w1.heap.size, 0, none⟩) (Nat.le_refl _) (.slice sv t0.nodes.length cv)).setCell (p := ⟨w1.heap.size, 1, none⟩) (Nat.le_refl _) (.slice st t0.tops.length ct)
 clear K6b K7b I3 b3; go_wp2_with fail; generalize hW : (w3.setCell ⟨w1.heap.size, 0, none⟩ (.slice sv t0.nodes.length cv)).setCell ⟨w1.heap.size, 1, none⟩ (.slice st t0.tops.length ct) = W4 at K6c K7c I4 L4 ⊢
 clear hW x0 x1 xf; have K6c : Blk W4 w1.heap.size #[.slice sv t0.nodes.length cv, .slice st t0.tops.length ct] 27 := K6c
 have s4 := L4.size
 refine (parse_in txv4 W4 (HL.out.later L4) (by omega)).mono ?_
 rintro e w5 ⟨sv2, cv2, st2, ct2, rfl, I5, b5⟩
 rw [cdv4]
 obtain ⟨t1, ht1⟩ : ∃ t, Hid ((trR (pAll txv4)).1 = t) := ⟨_, rfl⟩
 rw [ht1.out] at I5 ⊢
 generalize (trR (pAll txv4)).2.2 = a1
 have n7b : w1.heap.size + 1 < W4.heap.size := K7c.lt
 have K6d := K6c.later b5
 have K7d := K7c.later b5
 obtain ⟨x0, x1, xf⟩ := K7d.two
 have K7e := (K7d.set 0 (.slice sv2 t1.nodes.length cv2)).set 1 (.slice st2 t1.tops.length ct2)
 have K6e := (K6d.other (m := w1.heap.size + 1) (by omega) 0 (.slice sv2 t1.nodes.length cv2)).other (m := w1.heap.size + 1) (by omega) 1 (.slice st2 t1.tops.length ct2)
 have I6 := (I5.kept (Kept.set w5 (p := ⟨w1.heap.size + 1, 0, none⟩) n7b (.slice sv2 t1.nodes.length cv2))).kept (Kept.set _ (p := ⟨w1.heap.size + 1, 1, none⟩) n7b (.slice st2 t1.tops.length ct2))
 have I7 := ((I4.later b5).kept (Kept.set w5 (p := ⟨w1.heap.size + 1, 0, none⟩) n7 (.slice sv2 t1.nodes.length cv2))).kept (Kept.set _ (p := ⟨w1.heap.size + 1, 1, none⟩) n7 (.slice st2 t1.tops.length ct2))
 have L6 := ((bl_trans L4 b5).setCell (p := ⟨w1.heap.size + 1, 0, none⟩) (by simp) (.slice sv2 t1.nodes.length cv2)).setCell (p := ⟨w1.heap.size + 1, 1, none⟩) (by simp) (.slice st2 t1.tops.length ct2)
 clear K6c K7c K6d K7d I4 I5 b5 L4; have hn : Hid (t0.nodes.length = 0) := by have := nu4; rw [ht0.out] at this; exact this
 have hn3 : Hid (5 < t1.nodes.length) := by have := nv4; rw [ht1.out] at this; exact hid (of_decide_eq_true this)
 obtain ⟨y0, y1, yf⟩ := K6e.two
 have K7e : Blk _ (w1.heap.size + 1) #[.slice sv2 t1.nodes.length cv2, .slice st2 t1.tops.length ct2] 27 := K7e
 obtain ⟨z0, z1, zf⟩ := K7e.two
 rw [hn.out] at y0
 have hn2 : (5 : Int) < (t1.nodes.length : Int) := by have := hn3.out; omega
 go_wp2_with fail; go_ret; exact ⟨rfl, L6⟩
end Go.Proofs.YtkkofminndboaaaGreatDoor
