import Derived.Test.YtkihhadcoclnaaaGreatSl24
import Derived.Test.YtkihhadcoclnaaaGreatSl18
namespace Go.Proofs.YtkihhadcoclnaaaGreat
section
open Go.RowKit
set_option linter.unusedVariables false
set_option linter.unusedSimpArgs false
set_option maxRecDepth 100000
set_option maxHeartbeats 2000000 in
theorem heldI_o (s : Option Addr) (c n : Nat) (B : Nat) (k : Int) (w : World) (h : Els 1 cInt w B s (wI k n)) (hl : n ≤ 1048576) (k0 : 0 ≤ k) (k1 : k ≤ 9000000000000000000) :
  Calls Tryz.prog 97 #[.slice s n c, .int .i64 k] w fun e w' => e = .returned (.int .i64 (k + (n : Int))) ∧ w' = w := by
 go_enter Tryz.func97, Tryz.ntmps97
 go_wp2_with fail
 go_loop [1, 5] (fun x i => ∃ m : Nat, m ≤ n ∧ i = .int .i64 m ∧ x = .int .i64 (k + (m : Int))) (fun _ i => n - (intOf i).toNat)
 case atStart => exact ⟨0, Nat.zero_le _, rfl, by simp⟩
 case round =>
  obtain ⟨m, hm, rfl, rfl⟩ := hrel
  by_cases hlt : m < n
  ·
   obtain ⟨b, o, rfl, _, hp, e1⟩ := eInt_cells h (wI_at k n m hlt)
   clear h
   go_wp2_with fail
   refine ⟨⟨m + 1, by omega, by go_num, ?_⟩, by simp [intOf]; omega⟩
   congr 1; simp; omega
  ·
   have hm' : m = n := by omega
   subst hm'
   go_wp2_with fail
   go_ret
   exact ⟨rfl, rfl⟩
set_option maxHeartbeats 2000000 in
theorem heldE_o (s : Option Addr) (c n : Nat) (B : Nat) (k : Int) (w : World) (h : Els 2 cEnt w B s (wE k n)) (hl : n ≤ 1048576) (k0 : 0 ≤ k) (k1 : k ≤ 9000000000000000000) :
  Calls Tryz.prog 98 #[.slice s n c, .int .i64 k] w fun e w' => e = .returned (.int .i64 (k + 2 * (n : Int))) ∧ w' = w := by
 go_enter Tryz.func98, Tryz.ntmps98
 go_wp2_with fail
 go_loop [1, 5] (fun x i => ∃ m : Nat, m ≤ n ∧ i = .int .i64 m ∧ x = .int .i64 (k + 2 * (m : Int))) (fun _ i => n - (intOf i).toNat)
 case atStart => exact ⟨0, Nat.zero_le _, rfl, by simp⟩
 case round =>
  obtain ⟨m, hm, rfl, rfl⟩ := hrel
  by_cases hlt : m < n
  ·
   obtain ⟨b, o, rfl, _, hp, e1, e2⟩ := eEnt_cells h (wE_at k n m hlt)
   clear h
   go_wp2_with fail
   refine ⟨⟨m + 1, by omega, by go_num, ?_⟩, by simp [intOf]; omega⟩
   congr 1; simp; omega
  ·
   have hm' : m = n := by omega
   subst hm'
   go_wp2_with fail
   go_ret
   exact ⟨rfl, rfl⟩
set_option maxHeartbeats 2000000 in
theorem heldV_o (s : Option Addr) (c n : Nat) (B : Nat) (k : Int) (w : World) (h : Els 4 cVal w B s (wV k n)) (hl : n ≤ 1048576) (k0 : 0 ≤ k) (k1 : k ≤ 9000000000000000000) :
  Calls Tryz.prog 53 #[.slice s n c, .int .i64 k] w fun e w' => e = .returned (.int .i64 (k + 4 * (n : Int))) ∧ w' = w := by
 go_enter Tryz.func53, Tryz.ntmps53
 go_wp2_with fail
 go_loop [1, 5] (fun x i => ∃ m : Nat, m ≤ n ∧ i = .int .i64 m ∧ x = .int .i64 (k + 4 * (m : Int))) (fun _ i => n - (intOf i).toNat)
 case atStart => exact ⟨0, Nat.zero_le _, rfl, by simp⟩
 case round =>
  obtain ⟨m, hm, rfl, rfl⟩ := hrel
  by_cases hlt : m < n
  ·
   obtain ⟨b, o, rfl, _, hp, hok, e1, e2, e3, e4⟩ := eVal_cells h (wV_at k n m hlt)
   simp only [wV1] at e1 e2 e3 e4
   have g3 := neq_self (floatOfInt .f64 (k + 4 * (m : Int) + 1 + 1))
   have g4 := neq_self (floatOfInt .f64 (k + 4 * (m : Int) + 1 + 1 + 1))
   rw [ofInt_numW] at g3 g4
   clear h hok
   go_wp2_with fail
   refine ⟨⟨m + 1, by omega, by go_num, ?_⟩, by simp [intOf]; omega⟩
   congr 1; simp; omega
  ·
   have hm' : m = n := by omega
   subst hm'
   go_wp2_with fail
   go_ret
   exact ⟨rfl, rfl⟩
def cC : List (List V4) → Int
 | [] => 0
 | L :: C => 4 * (L.length : Int) + cC C
def wC : Int → List (List V4) → List (List V4)
 | _, [] => []
 | k, L :: C => wV k L.length :: wC (k + 4 * (L.length : Int)) C
def cT (T : Tab) : Int := (T.cols.length : Int) + 2 * (T.rows.length : Int) + cC T.cells
def wT (k : Int) (T : Tab) : Tab := ⟨wI k T.cols.length, wE (k + (T.cols.length : Int)) T.rows.length, wC (k + (T.cols.length : Int) + 2 * (T.rows.length : Int)) T.cells⟩
def cTs : List Tab → Int
 | [] => 0
 | T :: Ts => cT T + cTs Ts
def wTs : Int → List Tab → List Tab
 | _, [] => []
 | k, T :: Ts => wT k T :: wTs (k + cT T) Ts
theorem wC_len : ∀ (k : Int) (C : List (List V4)), (wC k C).length = C.length
 | _, [] => rfl
 | k, L :: C => by simp [wC, wC_len _ C]
theorem wTs_len : ∀ (k : Int) (C : List Tab), (wTs k C).length = C.length
 | _, [] => rfl
 | k, L :: C => by simp [wTs, wTs_len _ C]
theorem cC_nn : ∀ C : List (List V4), 0 ≤ cC C
 | [] => by simp [cC]
 | L :: C => by have := cC_nn C; simp only [cC]; omega
theorem cC_le : ∀ {C : List (List V4)}, (∀ L ∈ C, L.length ≤ 1048576) → cC C ≤ 4194304 * (C.length : Int)
 | [], _ => by simp [cC]
 | L :: C, h => by
  have h1 := h L (by simp)
  have h2 := cC_le (C := C) (fun l hl => h l (by simp [hl]))
  simp only [cC, List.length_cons]
  omega
theorem cT_nn (T : Tab) : 0 ≤ cT T := by have := cC_nn T.cells; unfold cT; omega
theorem cT_le {T : Tab} (h : kTab T) : cT T ≤ 4398049656832 := by
 obtain ⟨h1, h2, h3, h4⟩ := h
 have := cC_le h4
 unfold cT; omega
theorem cTs_nn : ∀ C : List Tab, 0 ≤ cTs C
 | [] => by simp [cTs]
 | L :: C => by have := cTs_nn C; have := cT_nn L; simp only [cTs]; omega
theorem cTs_le : ∀ {C : List Tab}, (∀ T ∈ C, kTab T) → cTs C ≤ 4398049656832 * (C.length : Int)
 | [], _ => by simp [cTs]
 | L :: C, h => by
  have h1 := cT_le (h L (by simp))
  have h2 := cTs_le (C := C) (fun l hl => h l (by simp [hl]))
  simp only [cTs, List.length_cons]
  omega
theorem cC_take : ∀ (C : List (List V4)) (m : Nat) (L : List V4), C[m]? = some L → cC (C.take (m + 1)) = cC (C.take m) + 4 * (L.length : Int)
 | L' :: C, 0, L, h => by simp at h; subst h; simp [cC]
 | L' :: C, m + 1, L, h => by
  have := cC_take C m L (by simpa using h)
  simp only [List.take_succ_cons, cC, this]; omega
theorem wC_get : ∀ (k : Int) (C : List (List V4)) (m : Nat) (L : List V4), C[m]? = some L → (wC k C)[m]? = some (wV (k + cC (C.take m)) L.length)
 | k, L' :: C, 0, L, h => by simp at h; subst h; simp [wC, cC]
 | k, L' :: C, m + 1, L, h => by
  have := wC_get (k + 4 * (L'.length : Int)) C m L (by simpa using h)
  simp only [wC, List.getElem?_cons_succ, this, List.take_succ_cons, cC]
  rw [Int.add_assoc]
theorem cTs_take : ∀ (C : List Tab) (m : Nat) (L : Tab), C[m]? = some L → cTs (C.take (m + 1)) = cTs (C.take m) + cT L
 | L' :: C, 0, L, h => by simp at h; subst h; simp [cTs]
 | L' :: C, m + 1, L, h => by
  have := cTs_take C m L (by simpa using h)
  simp only [List.take_succ_cons, cTs, this]; omega
theorem wTs_get : ∀ (k : Int) (C : List Tab) (m : Nat) (L : Tab), C[m]? = some L → (wTs k C)[m]? = some (wT (k + cTs (C.take m)) L)
 | k, L' :: C, 0, L, h => by simp at h; subst h; simp [wTs, cTs]
 | k, L' :: C, m + 1, L, h => by
  have := wTs_get (k + cT L') C m L (by simpa using h)
  simp only [wTs, List.getElem?_cons_succ, this, List.take_succ_cons, cTs]
  rw [Int.add_assoc]
theorem cC_takeLe (C : List (List V4)) (m : Nat) : cC (C.take m) ≤ cC C := by
 induction C generalizing m with
 | nil => simp [cC]
 | cons L C ih =>
  cases m with
  | zero => simp only [List.take_zero, cC]; have := cC_nn C; omega
  | succ m => simp only [List.take_succ_cons, cC]; have := ih m; omega
theorem cTs_takeLe (C : List Tab) (m : Nat) : cTs (C.take m) ≤ cTs C := by
 induction C generalizing m with
 | nil => simp [cTs]
 | cons L C ih =>
  cases m with
  | zero => simp only [List.take_zero, cTs]; have := cTs_nn C; have := cT_nn L; omega
  | succ m => simp only [List.take_succ_cons, cTs]; have := ih m; omega
theorem rVs_split {xs : List Value} {C : List (List V4)} {m : Nat} {v : Value} {L : List V4} (h1 : xs[m]? = some v) (h2 : C[m]? = some L) : rVs xs C = rVs (xs.take m) (C.take m) ++ (rV v L :: rVs (xs.drop (m + 1)) (C.drop (m + 1))) := by
 have l1 := (List.getElem?_eq_some_iff.1 h1).1
 have l2 := (List.getElem?_eq_some_iff.1 h2).1
 have e1 : xs = xs.take m ++ v :: xs.drop (m + 1) := by rw [← drop_get h1, List.take_append_drop]
 have e2 : C = C.take m ++ L :: C.drop (m + 1) := by rw [← drop_get h2, List.take_append_drop]
 conv => lhs; rw [e1, e2]
 unfold rVs
 rw [List.zipWith_append (by simp; omega), List.zipWith_cons_cons]
theorem rVs_set {xs : List Value} {C : List (List V4)} {m : Nat} {v : Value} {L L' : List V4} (h1 : xs[m]? = some v) (h2 : C[m]? = some L) : rVs xs (C.set m L') = rVs (xs.take m) (C.take m) ++ (rV v L' :: rVs (xs.drop (m + 1)) (C.drop (m + 1))) := by
 have l2 := (List.getElem?_eq_some_iff.1 h2).1
 have := rVs_split (C := C.set m L') (m := m) (L := L') h1 (by rw [List.getElem?_set_self l2])
 rw [this, List.take_set_of_le (Nat.le_refl _), List.drop_set_of_lt (by omega)]
theorem Rs.turnV {X W W' : World} {B : Nat} (P S : List OR) {xs : List Value} {C : List (List V4)} {m : Nat} {v : Value} {L L' : List V4} (hR : Rs X B W (P ++ (rVs xs C ++ S))) (h1 : xs[m]? = some v) (h2 : C[m]? = some L) (hg : W.grownBy W' v.ownBlock) (hr : (rV v L').on W' B) : Rs X B W' (P ++ (rVs xs (C.set m L') ++ S)) := by
 rw [rVs_split h1 h2] at hR
 rw [rVs_set h1 h2]
 have := Rs.turn (P ++ rVs (xs.take m) (C.take m)) (rVs (xs.drop (m + 1)) (C.drop (m + 1)) ++ S) (r := rV v L) (r' := rV v L') (by simpa using hR) hg hr (fun g h => Or.inl h)
 simpa using this
theorem Rs.rowV {X W : World} {B : Nat} {P S : List OR} {xs : List Value} {C : List (List V4)} {m : Nat} {v : Value} {L : List V4} (hR : Rs X B W (P ++ (rVs xs C ++ S))) (h1 : xs[m]? = some v) (h2 : C[m]? = some L) : (rV v L).on W B :=
 hR.o.on _ (by simp only [List.mem_append]; exact Or.inr (Or.inl (mem_zipWith h1 h2)))
theorem take_drop_set {α : Type} {A C : List α} {m : Nat} {a : α} (hl : A.length = C.length) (h : A[m]? = some a) : (A.take m ++ C.drop m).set m a = A.take (m + 1) ++ C.drop (m + 1) := by
 obtain ⟨hlt, rfl⟩ := List.getElem?_eq_some_iff.1 h
 have hc : m < C.length := by omega
 rw [List.set_append_right _ _ (by simp; omega), List.length_take, Nat.min_eq_left (by omega), Nat.sub_self, List.drop_eq_getElem_cons hc, List.set_cons_zero]
 rw [show A.take (m + 1) = A.take m ++ [A[m]] by rw [List.take_add_one, h]; rfl, List.append_assoc]
 rfl
theorem take_drop_get {α : Type} {A C : List α} {m : Nat} (hl : A.length = C.length) (hm : m < C.length) : (A.take m ++ C.drop m)[m]? = C[m]? := by
 rw [List.getElem?_append_right (by simp; omega), List.length_take, Nat.min_eq_left (by omega), Nat.sub_self, List.getElem?_drop, Nat.add_zero]
set_option maxHeartbeats 4000000 in
theorem markVV_o (X : World) (B : Nat) (P S : List OR) (sx : Option Addr) (cx : Nat) (xs : List Value) (C : List (List V4)) (k : Int) (w : World) (hx : xs.length = C.length) (hR : Rs X B w ((P ++ [(⟨38, 1, .slice sx C.length cx, C.length, xs⟩ : OR)]) ++ (rVs xs C ++ S))) (hk : kLL C) (k0 : 0 ≤ k) (k1 : k + cC C ≤ 9000000000000000000) :
  Calls Tryz.prog 96 #[.slice sx C.length cx, .int .i64 k] w fun e w' => e = .returned (.int .i64 (k + cC C)) ∧ Rs X B w' ((P ++ [(⟨38, 1, .slice sx C.length cx, C.length, xs⟩ : OR)]) ++ (rVs xs (wC k C) ++ S)) := by
 obtain ⟨hl, hls⟩ := hk
 have HLS := Hid.mk' hls
 have HX := Hid.mk' hx
 have K1 := Hid.mk' k1
 clear hls hx k1
 go_enter Tryz.func96, Tryz.ntmps96
 go_wp2_with fail
 go_loopw [1, 5] (fun x i wr => ∃ (m : Nat) (q : Int), m ≤ C.length ∧ i = .int .i64 m ∧ x = .int .i64 q ∧ Hid (q = k + cC (C.take m)) ∧ Hid (Rs X B wr ((P ++ [(⟨38, 1, .slice sx C.length cx, C.length, xs⟩ : OR)]) ++ (rVs xs ((wC k C).take m ++ C.drop m) ++ S)))) (fun _ i _ => C.length - (intOf i).toNat)
 case atStart => exact ⟨0, k, Nat.zero_le _, rfl, rfl, by show _ = _; simp [cC], by show Rs _ _ _ _; simpa using hR⟩
 case round =>
  clear hR
  obtain ⟨m, q, hm, rfl, rfl, hq, hR⟩ := hrel
  by_cases hlt : m < C.length
  ·
   obtain ⟨L, hL⟩ := get_some hlt
   obtain ⟨v, hv⟩ := get_some (L := xs) (k := m) (by have := HX.out; omega)
   have hon := hR.out.rowV hv (by rw [take_drop_get (wC_len _ _) hlt]; exact hL)
   obtain ⟨s', c', e'⟩ := hon.shape
   have e' : v = .slice s' L.length c' := e'
   subst e'
   have hrow : World.ownsRow wr B 38 1 (.slice sx C.length cx) C.length xs := hR.out.o.on (⟨38, 1, .slice sx C.length cx, C.length, xs⟩ : OR) (by simp)
   have hcap : sx = none ∨ ∃ g, sx = some ⟨g, 0, none⟩ := by
    rcases Go.Joins.ownsRow_forms hrow with ⟨e, _⟩ | ⟨g, cap, e⟩
    ·
     simp only [Value.slice.injEq] at e; exact Or.inl e.1
    ·
     simp only [Value.slice.injEq] at e; exact Or.inr ⟨g, e.1⟩
   rcases hcap with rfl | ⟨g, rfl⟩
   ·
    exfalso
    rcases hrow.2 with ⟨e, h0⟩ | ⟨g, cap, cur, e, _⟩
    ·
     omega
    ·
     cases e
   have hc := World.ownsRow.cellAt hrow m (by omega)
   rw [hv] at hc
   have hLl := HLS.out L (List.mem_of_getElem? hL)
   have q0 : 0 ≤ q := by rw [hq.out]; have := cC_nn (C.take m); omega
   have q1 : q ≤ 9000000000000000000 := by rw [hq.out]; have := cC_takeLe C m; have := K1.out; omega
   have HL := Hid.mk' hL
   have HV := Hid.mk' hv
   clear hL hv hrow
   go_wp2_with fail
   refine (markV_o s' c' L B q _ hon hLl q0 q1).mono ?_
   rintro e w2 ⟨rfl, hr2, hg2⟩
   have hR := Hid.mk' (hR.out.turnV _ _ HV.out (by rw [take_drop_get (wC_len _ _) hlt]; exact HL.out) hg2 hr2)
   have hR : Hid (Rs X B w2 ((P ++ [(⟨38, 1, .slice (some ⟨g, 0, none⟩) C.length cx, C.length, xs⟩ : OR)]) ++ (rVs xs ((wC k C).take (m + 1) ++ C.drop (m + 1)) ++ S))) := by
    have h := hR.out
    rw [hq.out, take_drop_set (wC_len _ _) (wC_get k C m L HL.out)] at h
    exact h
   clear hr2 hg2 hon hc
   go_wp2_with fail
   go_roundw
   case rel => exact ⟨m + 1, _, by omega, by go_num, rfl, by show _ = _; rw [hq.out, cC_take C m L HL.out]; omega, hR⟩
   case measure => simp [intOf]; omega
  ·
   have hm' : m = C.length := by omega
   subst hm'
   have h := hR.out
   rw [List.drop_length, List.append_nil, List.take_of_length_le (by rw [wC_len]; exact Nat.le_refl _)] at h
   have e := hq.out
   rw [List.take_length] at e
   subst e
   go_wp2_with fail
   go_ret
   exact ⟨rfl, h⟩
end
section
open Go.RowKit
set_option linter.unusedVariables false
set_option linter.unusedSimpArgs false
set_option maxRecDepth 100000
theorem rTabs_set {ts : List TV} {Ts : List Tab} {m : Nat} {t : TV} {T T' : Tab} (h1 : ts[m]? = some t) (h2 : Ts[m]? = some T) : rTabs ts (Ts.set m T') = rTabs (ts.take m) (Ts.take m) ++ (rTab t T' ++ rTabs (ts.drop (m + 1)) (Ts.drop (m + 1))) := by
 have l2 := (List.getElem?_eq_some_iff.1 h2).1
 have := rTabs_split (Ts := Ts.set m T') (j := m) (T := T') h1 (by rw [List.getElem?_set_self l2])
 rw [this, List.take_set_of_le (Nat.le_refl _), List.drop_set_of_lt (by omega)]
theorem rT_cells {w : World} {B : Nat} {g n cv : Nat} {ts : List TV} (h : w.ownsRow B 134 3 (.slice (some ⟨g, 0, none⟩) n cv) n (ts.flatMap tc)) {m : Nat} {t : TV} (hm : m < n) (ht : ts[m]? = some t) : w.cell? ⟨g, m * 3, none⟩ = some t.c ∧ w.cell? ⟨g, m * 3 + 1, none⟩ = some t.r ∧ w.cell? ⟨g, m * 3 + 2, none⟩ = some t.x := by
 have e : ∀ i u, (tc t)[i]? = some u → w.cell? ⟨g, m * 3 + i, none⟩ = some u := by
  intro i u hu
  have hi : i < 3 := (List.getElem?_eq_some_iff.1 hu).1
  rw [World.ownsRow.cellAt h (m * 3 + i) (by omega), flat_get (k := 3) (f := tc) (fun _ => rfl) ts m t ht i hi, hu]
 exact ⟨e 0 _ rfl, e 1 _ rfl, e 2 _ rfl⟩
theorem own_some {w : World} {B n c : Nat} {T : TypeId} {K : Nat} {s : Option Addr} {xs : List Value} (h : w.ownsRow B T K (.slice s n c) n xs) (hn : 0 < n) : ∃ g, s = some ⟨g, 0, none⟩ := by
 rcases Go.Joins.ownsRow_forms h with ⟨_, h0⟩ | ⟨g, cap, e⟩
 ·
  omega
 ·
  simp only [Value.slice.injEq] at e; exact ⟨g, e.1⟩
set_option maxHeartbeats 8000000 in
theorem markTs_o (X : World) (B : Nat) (P S : List OR) (sv : Option Addr) (cv : Nat) (ts : List TV) (Ts : List Tab) (k : Int) (w : World) (hx : ts.length = Ts.length) (hle : ∀ (j : Nat) t T, ts[j]? = some t → Ts[j]? = some T → t.xs.length = T.cells.length) (hR : Rs X B w ((P ++ [(⟨134, 3, .slice sv Ts.length cv, Ts.length, ts.flatMap tc⟩ : OR)]) ++ (rTabs ts Ts ++ S))) (hk : kTabs Ts) (k0 : 0 ≤ k) (k1 : k + cTs Ts ≤ 9000000000000000000) :
  Calls Tryz.prog 49 #[.slice sv Ts.length cv, .int .i64 k] w fun e w' => e = .returned (.int .i64 (k + cTs Ts)) ∧ Rs X B w' ((P ++ [(⟨134, 3, .slice sv Ts.length cv, Ts.length, ts.flatMap tc⟩ : OR)]) ++ (rTabs ts (wTs k Ts) ++ S)) := by
 obtain ⟨hl, hls⟩ := hk
 have HLS := Hid.mk' hls
 have HX := Hid.mk' hx
 have HLE := Hid.mk' hle
 have K1 := Hid.mk' k1
 clear hls hx k1 hle
 go_enter Tryz.func49, Tryz.ntmps49
 go_wp2_with fail
 go_loopw [1, 5] (fun x i wr => ∃ (m : Nat) (q : Int), m ≤ Ts.length ∧ i = .int .i64 m ∧ x = .int .i64 q ∧ Hid (q = k + cTs (Ts.take m)) ∧ Hid (Rs X B wr ((P ++ [(⟨134, 3, .slice sv Ts.length cv, Ts.length, ts.flatMap tc⟩ : OR)]) ++ (rTabs ts ((wTs k Ts).take m ++ Ts.drop m) ++ S)))) (fun _ i _ => Ts.length - (intOf i).toNat)
 case atStart => exact ⟨0, k, Nat.zero_le _, rfl, rfl, by show _ = _; simp [cTs], by show Rs _ _ _ _; simpa using hR⟩
 case round =>
  clear hR
  obtain ⟨m, q, hm, rfl, rfl, hq, hR⟩ := hrel
  by_cases hlt : m < Ts.length
  ·
   obtain ⟨T, hT⟩ := get_some hlt
   obtain ⟨t, ht⟩ := get_some (L := ts) (k := m) (by have := HX.out; omega)
   have hM : ((wTs k Ts).take m ++ Ts.drop m)[m]? = some T := by rw [take_drop_get (wTs_len _ _) hlt]; exact hT
   have hlx := HLE.out m t T ht hT
   have hkT := HLS.out T (List.mem_of_getElem? hT)
   have hnn := cT_nn T
   have hq1 : Hid (q + cT T ≤ 9000000000000000000) := by
    show _ ≤ _
    have e := cTs_take Ts m T hT
    have := cTs_takeLe Ts (m + 1)
    have := hq.out
    have := K1.out
    omega
   have q0 : 0 ≤ q := by rw [hq.out]; have := cTs_nn (Ts.take m); omega
   have HB := Hid.mk' (cC_nn T.cells)
   obtain ⟨Q, hQ⟩ : ∃ Q, Q = (P ++ [(⟨134, 3, .slice sv Ts.length cv, Ts.length, ts.flatMap tc⟩ : OR)]) ++ rTabs (ts.take m) (((wTs k Ts).take m ++ Ts.drop m).take m) := ⟨_, rfl⟩
   obtain ⟨D, hD⟩ : ∃ D, D = rTabs (ts.drop (m + 1)) (((wTs k Ts).take m ++ Ts.drop m).drop (m + 1)) ++ S := ⟨_, rfl⟩
   have h1 : Rs X B wr (Q ++ rI t.c T.cols :: (rE t.r T.rows :: rS t.x t.xs :: (rVs t.xs T.cells ++ D))) := by
    have h := hR.out
    rw [rTabs_split ht hM] at h
    rw [hQ, hD]
    simpa [rTab] using h
   have hQD : Hid (Q = (P ++ [(⟨134, 3, .slice sv Ts.length cv, Ts.length, ts.flatMap tc⟩ : OR)]) ++ rTabs (ts.take m) (((wTs k Ts).take m ++ Ts.drop m).take m) ∧ D = rTabs (ts.drop (m + 1)) (((wTs k Ts).take m ++ Ts.drop m).drop (m + 1)) ++ S) := ⟨hQ, hD⟩
   have hmem : (⟨134, 3, .slice sv Ts.length cv, Ts.length, ts.flatMap tc⟩ : OR) ∈ Q := by rw [hQ]; simp
   have HT := Hid.mk' hT
   have HTv := Hid.mk' ht
   have HM := Hid.mk' hM
   obtain ⟨s1, c1, e1⟩ := (h1.o.on (rI t.c T.cols) (by simp)).shape
   obtain ⟨s2, c2, e2⟩ := (h1.o.on (rE t.r T.rows) (by simp)).shape
   obtain ⟨s3, c3, e3⟩ := (h1.o.on (rS t.x t.xs) (by simp)).shape
   obtain ⟨tcv, trv, txv, txs⟩ := t
   dsimp only [rI, rE, rS] at e1 e2 e3 hlx
   rw [hlx] at e3
   subst e1 e2 e3
   have hrow : World.ownsRow wr B 134 3 (.slice sv Ts.length cv) Ts.length (ts.flatMap tc) := h1.o.on (⟨134, 3, .slice sv Ts.length cv, Ts.length, ts.flatMap tc⟩ : OR) (by simp [hmem])
   obtain ⟨g, rfl⟩ := own_some hrow (by omega)
   obtain ⟨x0, x1, x2⟩ := rT_cells hrow hlt ht
   dsimp only at x0 x1 x2
   have HX1 := Hid.mk' h1
   have hcI : (0 : Int) ≤ (m : Int) := by omega
   have hcJ : (m : Int) < (Ts.length : Int) := by omega
   have ktc := hkT.1
   have ktr := hkT.2.1
   have HK2 := Hid.mk' hkT.2.2
   have HLX := Hid.mk' hlx
   have q1 : q ≤ 9000000000000000000 := by have := hq1.out; omega
   clear hT ht hM hrow h1 hQ hD hkT hlx hR
   go_wp2_with fail
   refine (markI_o s1 c1 T.cols B q _ (HX1.out.at _ _) ktc q0 q1).mono ?_
   rintro e w2 ⟨rfl, hr2, hg2⟩
   have HX2 := Hid.mk' (Rs.turn Q _ HX1.out hg2 hr2 (fun g h => Or.inl h))
   clear hr2 hg2 HX1 x0 x1 x2
   have hrow : World.ownsRow w2 B 134 3 (.slice (some ⟨g, 0, none⟩) Ts.length cv) Ts.length (ts.flatMap tc) := HX2.out.o.on (⟨134, 3, .slice (some ⟨g, 0, none⟩) Ts.length cv, Ts.length, ts.flatMap tc⟩ : OR) (by simp [hmem])
   obtain ⟨x0, x1, x2⟩ := rT_cells hrow hlt HTv.out
   dsimp only at x0 x1 x2
   clear hrow
   have q2 : 0 ≤ q + (T.cols.length : Int) := by omega
   have q3 : q + (T.cols.length : Int) ≤ 9000000000000000000 := by have hh := hq1.out; have := HB.out; unfold cT at hh; omega
   go_wp2_with fail
   refine (markE_o s2 c2 T.rows B (q + (T.cols.length : Int)) _ (HX2.out.o.on _ (by simp)) ktr q2 q3).mono ?_
   rintro e w3 ⟨rfl, hr3, hg3⟩
   have HX3 : Hid (Rs X B w3 ((Q ++ [rI (.slice s1 T.cols.length c1) (wI q T.cols.length)]) ++ rE (.slice s2 T.rows.length c2) (wE (q + (T.cols.length : Int)) T.rows.length) :: (rS (.slice s3 T.cells.length c3) txs :: (rVs txs T.cells ++ D)))) := by
    have h := HX2.out
    rw [List.append_cons] at h
    exact Rs.turn _ _ h hg3 hr3 (fun g h => Or.inl h)
   clear hr3 hg3 HX2 x0 x1 x2
   have hrow : World.ownsRow w3 B 134 3 (.slice (some ⟨g, 0, none⟩) Ts.length cv) Ts.length (ts.flatMap tc) := HX3.out.o.on (⟨134, 3, .slice (some ⟨g, 0, none⟩) Ts.length cv, Ts.length, ts.flatMap tc⟩ : OR) (by simp [hmem])
   obtain ⟨x0, x1, x2⟩ := rT_cells hrow hlt HTv.out
   dsimp only at x0 x1 x2
   clear hrow
   have q4 : 0 ≤ q + (T.cols.length : Int) + 2 * (T.rows.length : Int) := by omega
   have q5 : q + (T.cols.length : Int) + 2 * (T.rows.length : Int) + cC T.cells ≤ 9000000000000000000 := by have := hq1.out; unfold cT at this; omega
   have HX3' : Hid (Rs X B w3 (((Q ++ [rI (.slice s1 T.cols.length c1) (wI q T.cols.length), rE (.slice s2 T.rows.length c2) (wE (q + (T.cols.length : Int)) T.rows.length)]) ++ [(⟨38, 1, .slice s3 T.cells.length c3, T.cells.length, txs⟩ : OR)]) ++ (rVs txs T.cells ++ D))) := by
    have h := HX3.out
    unfold rS at h
    rw [HLX.out] at h
    show Rs _ _ _ _
    simpa using h
   clear HX3
   go_wp2_with fail
   refine (markVV_o X B _ _ s3 c3 txs T.cells _ _ HLX.out HX3'.out HK2.out q4 q5).mono ?_
   rintro e w4 ⟨rfl, hR4⟩
   clear HX3' x0 x1 x2
   have hR : Hid (Rs X B w4 ((P ++ [(⟨134, 3, .slice (some ⟨g, 0, none⟩) Ts.length cv, Ts.length, ts.flatMap tc⟩ : OR)]) ++ (rTabs ts ((wTs k Ts).take (m + 1) ++ Ts.drop (m + 1)) ++ S))) := by
    show Rs _ _ _ _
    rw [← take_drop_set (wTs_len _ _) (wTs_get k Ts m T HT.out), rTabs_set HTv.out HM.out, ← hq.out]
    rw [hQD.out.1, hQD.out.2] at hR4
    unfold rTab rS wT
    dsimp only
    rw [HLX.out]
    simpa using hR4
   have hq' : Hid (q + (T.cols.length : Int) + 2 * (T.rows.length : Int) + cC T.cells = k + cTs (Ts.take (m + 1))) := by show _ = _; rw [cTs_take Ts m T HT.out, hq.out]; unfold cT; omega
   clear hR4
   go_wp2_with fail
   go_roundw
   case rel => exact ⟨m + 1, _, by omega, by go_num, rfl, hq', hR⟩
   case measure => simp [intOf]; omega
  ·
   have hm' : m = Ts.length := by omega
   subst hm'
   have h := hR.out
   rw [List.drop_length, List.append_nil, List.take_of_length_le (by rw [wTs_len]; exact Nat.le_refl _)] at h
   have e := hq.out
   rw [List.take_length] at e
   subst e
   go_wp2_with fail
   go_ret
   exact ⟨rfl, h⟩
set_option maxHeartbeats 4000000 in
theorem markEnts_o (X : World) (B : Nat) (P S : List OR) (s1 : Option Addr) (c1 : Nat) (s2 : Option Addr) (c2 : Nat) (G F : List Int) (k : Int) (w : World) (hR : Rs X B w (P ++ rI (.slice s1 G.length c1) G :: (rI (.slice s2 F.length c2) F :: S))) (l1 : G.length ≤ 1048576) (l2 : F.length ≤ 1048576) (k0 : 0 ≤ k) (k1 : k ≤ 8000000000000000000) :
  Calls Tryz.prog 48 #[.agg #[.slice s1 G.length c1, .slice s2 F.length c2], .int .i64 k] w fun e w' => e = .returned (.int .i64 (k + (G.length : Int) + (F.length : Int))) ∧ Rs X B w' (P ++ rI (.slice s1 G.length c1) (wI k G.length) :: (rI (.slice s2 F.length c2) (wI (k + (G.length : Int)) F.length) :: S)) := by
 have k2 : k + (G.length : Int) ≤ 9000000000000000000 := by omega
 have k3 : 0 ≤ k + (G.length : Int) := by omega
 have h1 : Hid (Rs X B (w.alloc (.cells #[.slice s1 G.length c1, .slice s2 F.length c2] 36)) (P ++ rI (.slice s1 G.length c1) G :: (rI (.slice s2 F.length c2) F :: (rB w.heap.size 36 [.slice s1 G.length c1, .slice s2 F.length c2] :: S)))) := by
  have := Rs.ins (P ++ [rI (.slice s1 G.length c1) G, rI (.slice s2 F.length c2) F]) S (r := rB w.heap.size 36 [.slice s1 G.length c1, .slice s2 F.length c2]) (by simpa using hR) (bl_alloc (Below.refl _ w) (.cells #[.slice s1 G.length c1, .slice s2 F.length c2] 36)) (blk_rB (Blk.new w _ _) (Nat.le_refl _))
  show Rs _ _ _ _
  simpa using this
 clear hR
 go_enter Tryz.func48, Tryz.ntmps48
 go_wp2_with fail
 generalize hY : w.alloc (.cells #[.slice s1 G.length c1, .slice s2 F.length c2] 36) = Y at h1 ⊢
 generalize hkt : w.heap.size = kt at h1 ⊢
 clear hY hkt
 have KB : Blk Y kt #[.slice s1 G.length c1, .slice s2 F.length c2] 36 := by
  have := h1.out.o.on (rB kt 36 [.slice s1 G.length c1, .slice s2 F.length c2]) (by simp)
  exact rB_blk this
 refine (markI_o s1 c1 G B k _ (h1.out.at _ _) l1 k0 (by omega)).mono ?_
 rintro e w2 ⟨rfl, hr2, hg2⟩
 have h2 := Hid.mk' (Rs.turn P _ h1.out hg2 hr2 (fun g h => Or.inl h))
 clear hr2 hg2 h1 KB
 have KB : Blk w2 kt #[.slice s1 G.length c1, .slice s2 F.length c2] 36 := by
  have := h2.out.o.on (rB kt 36 [.slice s1 G.length c1, .slice s2 F.length c2]) (by simp)
  exact rB_blk this
 obtain ⟨x0, x1, x2⟩ := KB.two
 go_wp2_with fail
 refine (markI_o s2 c2 F B (k + (G.length : Int)) _ (h2.out.o.on _ (by simp)) l2 k3 k2).mono ?_
 rintro e w3 ⟨rfl, hr3, hg3⟩
 have h3 : Hid (Rs X B w3 (P ++ rI (.slice s1 G.length c1) (wI k G.length) :: (rI (.slice s2 F.length c2) (wI (k + (G.length : Int)) F.length) :: S))) := by
  have h := h2.out
  rw [List.append_cons] at h
  have h := Rs.turn _ _ h hg3 hr3 (fun g h => Or.inl h)
  rw [List.append_cons] at h
  have h := Rs.less _ _ h
  show Rs _ _ _ _
  simpa using h
 clear hr3 hg3 h2 x0 x1 x2 KB
 go_wp2_with fail
 go_ret
 exact ⟨rfl, h3.out⟩
def cW (W : Wd) : Int := (W.gens.length : Int) + (W.free.length : Int) + cTs W.tabs + 4 * (W.res.length : Int)
def wW (k : Int) (W : Wd) : Wd := ⟨wI k W.gens.length, wI (k + (W.gens.length : Int)) W.free.length, wTs (k + (W.gens.length : Int) + (W.free.length : Int)) W.tabs, wV (k + (W.gens.length : Int) + (W.free.length : Int) + cTs W.tabs) W.res.length⟩
theorem okc_wC : ∀ (k : Int) (C : List (List V4)), 0 ≤ k → k + cC C ≤ 9000000000000000000 → ∀ L ∈ wC k C, okVs L
 | _, [], _, _, L, h => by simp [wC] at h
 | k, L' :: C, h0, h1, L, h => by
  simp only [wC, List.mem_cons] at h
  simp only [cC] at h1
  have := cC_nn C
  rcases h with rfl | h
  ·
   exact okVs_wV h0 (by omega)
  ·
   exact okc_wC _ C (by omega) (by omega) L h
theorem okc_wTs : ∀ (k : Int) (C : List Tab), 0 ≤ k → k + cTs C ≤ 9000000000000000000 → ∀ T ∈ wTs k C, ∀ L ∈ T.cells, okVs L
 | _, [], _, _, L, h => by simp [wTs] at h
 | k, T' :: C, h0, h1, T, h => by
  simp only [wTs, List.mem_cons] at h
  simp only [cTs] at h1
  have := cTs_nn C
  have := cC_nn T'.cells
  rcases h with rfl | h
  ·
   exact okc_wC _ T'.cells (by omega) (by unfold cT at h1; omega)
  ·
   exact okc_wTs _ C (by have := cT_nn T'; omega) (by omega) T h
theorem cW_le {W : Wd} (h : kW W) : cW W ≤ 4700000000000000000 := by
 obtain ⟨h1, h2, ⟨h3, h4⟩, h5⟩ := h
 have := cTs_le h4
 unfold cW; omega
end
end Go.Proofs.YtkihhadcoclnaaaGreat
