import Derived.Test.YtbgeobpdojmdaaaGreatSq17
namespace Go.Proofs.YtbgeobpdojmdaaaGreat
set_option linter.unusedVariables false
set_option linter.unusedSimpArgs false
section
open Go.RowKit
set_option maxRecDepth 100000
def wI (k : Int) (n : Nat) : List Int := (List.range n).map fun (i : Nat) => k + (i : Int)
def wE (k : Int) (n : Nat) : List E2 := (List.range n).map fun (i : Nat) => (k + 2 * (i : Int), k + 2 * (i : Int) + 1)
def wV1 (k : Int) : V4 := (k, k + 1, floatOfInt .f64 (k + 1 + 1), floatOfInt .f64 (k + 1 + 1 + 1))
def wV (k : Int) (n : Nat) : List V4 := (List.range n).map fun (i : Nat) => wV1 (k + 4 * (i : Int))
theorem wI_len (k : Int) (n : Nat) : (wI k n).length = n := by simp [wI]
theorem wE_len (k : Int) (n : Nat) : (wE k n).length = n := by simp [wE]
theorem wV_len (k : Int) (n : Nat) : (wV k n).length = n := by simp [wV]
theorem wI_succ (k : Int) (n : Nat) : wI k (n + 1) = wI k n ++ [k + (n : Int)] := by simp [wI, List.range_succ]
theorem wE_succ (k : Int) (n : Nat) : wE k (n + 1) = wE k n ++ [(k + 2 * (n : Int), k + 2 * (n : Int) + 1)] := by simp [wE, List.range_succ]
theorem wV_succ (k : Int) (n : Nat) : wV k (n + 1) = wV k n ++ [wV1 (k + 4 * (n : Int))] := by simp [wV, List.range_succ]
theorem wI_at (k : Int) (n j : Nat) (h : j < n) : (wI k n)[j]? = some (k + (j : Int)) := by simp [wI, h]
theorem wE_at (k : Int) (n j : Nat) (h : j < n) : (wE k n)[j]? = some (k + 2 * (j : Int), k + 2 * (j : Int) + 1) := by simp [wE, h]
theorem wV_at (k : Int) (n j : Nat) (h : j < n) : (wV k n)[j]? = some (wV1 (k + 4 * (j : Int))) := by simp [wV, h]
theorem ofInt_numW (n : Int) : nanB (floatOfInt .f64 n) = false := by
 rw [nanB_def, decide_eq_false_iff_not]
 have h : ∃ neg r, floatOfInt .f64 n = Ieee.double.word neg r ∧ r ≤ 9218868437227405312 := by
  unfold floatOfInt FloatKind.nearest FloatKind.encode
  show ∃ neg r, Ieee.Format.write Ieee.double _ = _ ∧ _
  unfold Ieee.Format.write Ieee.Format.nearest
  dsimp only
  split
  ·
   exact ⟨_, 0, rfl, by omega⟩
  refine ⟨_, _, rfl, ?_⟩
  have := ir
  rw [← ir]
  exact Nat.min_le_right _ _
 obtain ⟨neg, r, e, hr⟩ := h
 rw [e]
 unfold Ieee.Format.word
 rw [sw]
 split <;> omega
theorem ofInt_ltW (n : Int) : floatOfInt .f64 n < 18446744073709551616 := by
 have h : ∃ neg r, floatOfInt .f64 n = Ieee.double.word neg r ∧ r ≤ 9218868437227405312 := by
  unfold floatOfInt FloatKind.nearest FloatKind.encode
  show ∃ neg r, Ieee.Format.write Ieee.double _ = _ ∧ _
  unfold Ieee.Format.write Ieee.Format.nearest
  dsimp only
  split
  ·
   exact ⟨_, 0, rfl, by omega⟩
  refine ⟨_, _, rfl, ?_⟩
  have := ir
  rw [← ir]
  exact Nat.min_le_right _ _
 obtain ⟨neg, r, e, hr⟩ := h
 rw [e]
 unfold Ieee.Format.word
 rw [sw]
 split <;> omega
theorem okVs_wV {k : Int} {n : Nat} (h0 : 0 ≤ k) (h1 : k + 4 * (n : Int) ≤ 9223372036854775807) : okVs (wV k n) := by
 intro v hv
 simp only [wV, List.mem_map, List.mem_range] at hv
 obtain ⟨i, hi, rfl⟩ := hv
 exact ⟨⟨by show _ ≤ k + 4 * (i : Int) + 1; omega, by show k + 4 * (i : Int) + 1 ≤ _; omega⟩, ofInt_ltW _, ofInt_ltW _⟩
def MkR (w : World) (B : Nat) (v : Value) (r : OR) (w' : World) : Prop := r.on w' B ∧ w.grownBy w' v.ownBlock
theorem drop_get {α : Type} {L : List α} {m : Nat} {p : α} (h : L[m]? = some p) : L.drop m = p :: L.drop (m + 1) := by
 obtain ⟨hlt, rfl⟩ := List.getElem?_eq_some_iff.1 h
 exact List.drop_eq_getElem_cons hlt
theorem grow_set {w w' : World} {g : Nat} (h : w.grownBy w' (some g)) (o : Nat) (u : Value) : w.grownBy (w'.setCell ⟨g, o, none⟩ u) (some g) :=
 grown_trans h ⟨rfl, rfl, rfl, by simp, fun k hk hne => Below.heap_setCell w' ⟨g, o, none⟩ u k (by dsimp only; exact fun e => hne (by rw [e]))⟩
theorem own_put1 {w : World} {B g n cap : Nat} {T : TypeId} {K : Nat} {A C : List Value} {x u : Value} {i : Nat} (h : w.ownsRow B T K (.slice (some ⟨g, 0, none⟩) n cap) n (A ++ x :: C)) (hi : i = A.length) : (w.setCell ⟨g, i, none⟩ u).ownsRow B T K (.slice (some ⟨g, 0, none⟩) n cap) n (A ++ u :: C) := by
 have := (World.ownsRow.stored h i u).1
 rw [hi, List.set_append_right _ _ (Nat.le_refl _), Nat.sub_self, List.set_cons_zero] at this
 rw [hi]; exact this
set_option maxHeartbeats 2000000 in
theorem markI_o (s : Option Addr) (c : Nat) (L : List Int) (B : Nat) (k : Int) (w : World) (h : (rI (.slice s L.length c) L).on w B) (hl : L.length ≤ 1048576) (k0 : 0 ≤ k) (k1 : k ≤ 9000000000000000000) :
  Calls Tryz.prog 83 #[.slice s L.length c, .int .i64 k] w fun e w' => e = .returned (.int .i64 (k + (L.length : Int))) ∧ MkR w B (.slice s L.length c) (rI (.slice s L.length c) (wI k L.length)) w' := by
 have h0 : w.ownsRow B 3 1 (.slice s L.length c) L.length (L.map (Value.int .i64)) := h
 rcases Go.Joins.ownsRow_forms h0 with ⟨e, hz⟩ | ⟨g, cap, e⟩
 ·
  have e0 := List.length_eq_zero_iff.1 hz
  subst e0
  go_enter Tryz.func83, Tryz.ntmps83
  go_wp2_with fail; go_loop [1, 5] (fun x i => x = .int .i64 k ∧ i = .int .i64 0) (fun _ _ => 0)
  case atStart => exact ⟨rfl, rfl⟩
  obtain ⟨rfl, rfl⟩ := hrel
  go_wp2_with fail; go_ret; exact ⟨by simp, h, grown_refl _ _⟩
 cases e
 go_enter Tryz.func83, Tryz.ntmps83
 go_wp2_with fail; go_loopw [1, 5] (fun x i wr => ∃ m : Nat, m ≤ L.length ∧ i = .int .i64 m ∧ x = .int .i64 (k + (m : Int)) ∧ Hid (wr.ownsRow B 3 1 (.slice (some ⟨g, 0, none⟩) L.length c) L.length ((wI k m ++ L.drop m).map (Value.int .i64)) ∧ w.grownBy wr (some g))) (fun _ i _ => L.length - (intOf i).toNat)
 case atStart => exact ⟨0, Nat.zero_le _, rfl, by simp, by simpa [wI] using h0, grown_refl _ _⟩
 obtain ⟨m, hm, rfl, rfl, hrow⟩ := hrel
 by_cases hlt : m < L.length
 ·
  obtain ⟨p, hp⟩ := get_some hlt
  have hr := hrow.out.1
  rw [drop_get hp, List.map_append, List.map_cons] at hr
  have hc := World.ownsRow.cellAt hr m (by omega)
  rw [List.getElem?_append_right (by simp [wI_len])] at hc
  simp [wI_len] at hc
  have hf := World.ownsRow.frozenAt hr m
  have hput := own_put1 (i := m) (u := .int .i64 (k + (m : Int))) hr (by simp [wI_len])
  have HP : Hid ((wr.setCell ⟨g, m, none⟩ (.int .i64 (k + (m : Int)))).ownsRow B 3 1 (.slice (some ⟨g, 0, none⟩) L.length c) L.length ((wI k (m + 1) ++ L.drop (m + 1)).map (Value.int .i64)) ∧ w.grownBy (wr.setCell ⟨g, m, none⟩ (.int .i64 (k + (m : Int)))) (some g)) := by
   refine ⟨?_, grow_set hrow.out.2 _ _⟩
   rw [wI_succ]; simpa using hput
  clear hput hr hrow hp h h0; go_wp2_with fail; go_roundw
  case rel => exact ⟨m + 1, by omega, by go_num, by congr 1; simp; omega, HP⟩
  case measure => simp [intOf]; omega
 have hm' : m = L.length := by omega
 subst hm'
 have hr := hrow.out
 rw [List.drop_length, List.append_nil] at hr
 go_wp2_with fail; go_ret; refine ⟨rfl, ?_, hr.2⟩
 show World.ownsRow _ _ _ _ _ (wI k L.length).length _
 rw [wI_len]; exact hr.1
set_option maxHeartbeats 2000000 in
theorem markE_o (s : Option Addr) (c : Nat) (L : List E2) (B : Nat) (k : Int) (w : World) (h : (rE (.slice s L.length c) L).on w B) (hl : L.length ≤ 1048576) (k0 : 0 ≤ k) (k1 : k ≤ 9000000000000000000) :
  Calls Tryz.prog 84 #[.slice s L.length c, .int .i64 k] w fun e w' => e = .returned (.int .i64 (k + 2 * (L.length : Int))) ∧ MkR w B (.slice s L.length c) (rE (.slice s L.length c) (wE k L.length)) w' := by
 have h0 : w.ownsRow B 42 2 (.slice s L.length c) L.length (ecells L) := h
 rcases Go.Joins.ownsRow_forms h0 with ⟨e, hz⟩ | ⟨g, cap, e⟩
 ·
  have e0 := List.length_eq_zero_iff.1 hz
  subst e0
  go_enter Tryz.func84, Tryz.ntmps84
  go_wp2_with fail; go_loop [1, 5] (fun x i => x = .int .i64 k ∧ i = .int .i64 0) (fun _ _ => 0)
  case atStart => exact ⟨rfl, rfl⟩
  obtain ⟨rfl, rfl⟩ := hrel
  go_wp2_with fail; go_ret; exact ⟨by simp, h, grown_refl _ _⟩
 cases e
 go_enter Tryz.func84, Tryz.ntmps84
 go_wp2_with fail; go_loopw [1, 5] (fun x i wr => ∃ m : Nat, m ≤ L.length ∧ i = .int .i64 m ∧ x = .int .i64 (k + 2 * (m : Int)) ∧ Hid (wr.ownsRow B 42 2 (.slice (some ⟨g, 0, none⟩) L.length c) L.length (ecells (wE k m ++ L.drop m)) ∧ w.grownBy wr (some g))) (fun _ i _ => L.length - (intOf i).toNat)
 case atStart => exact ⟨0, Nat.zero_le _, rfl, by simp, by simpa [wE] using h0, grown_refl _ _⟩
 obtain ⟨m, hm, rfl, rfl, hrow⟩ := hrel
 by_cases hlt : m < L.length
 ·
  obtain ⟨p, hp⟩ := get_some hlt
  have hr := hrow.out.1
  have ea : (ecells (wE k m)).length = m * 2 := by rw [ecells_len, wE_len]
  rw [drop_get hp, ecells_app, show ecells (p :: L.drop (m + 1)) = .int .i64 p.1 :: .int .i64 p.2 :: ecells (L.drop (m + 1)) from rfl] at hr
  have hc := World.ownsRow.cellAt hr (m * 2) (by omega)
  have hc2 := World.ownsRow.cellAt hr (m * 2 + 1) (by omega)
  rw [List.getElem?_append_right (by omega), ea] at hc hc2
  simp at hc hc2
  have hf := World.ownsRow.frozenAt hr (m * 2)
  have hf2 := World.ownsRow.frozenAt hr (m * 2 + 1)
  have hput := own_put1 (i := m * 2) (u := .int .i64 (k + 2 * (m : Int))) hr ea.symm
  rw [show ecells (wE k m) ++ .int .i64 (k + 2 * (m : Int)) :: .int .i64 p.2 :: ecells (L.drop (m + 1)) = (ecells (wE k m) ++ [.int .i64 (k + 2 * (m : Int))]) ++ .int .i64 p.2 :: ecells (L.drop (m + 1)) by simp] at hput
  have hput := own_put1 (i := m * 2 + 1) (u := .int .i64 (k + 2 * (m : Int) + 1)) hput (by simp [ea])
  have HP : Hid (((wr.setCell ⟨g, m * 2, none⟩ (.int .i64 (k + 2 * (m : Int)))).setCell ⟨g, m * 2 + 1, none⟩ (.int .i64 (k + 2 * (m : Int) + 1))).ownsRow B 42 2 (.slice (some ⟨g, 0, none⟩) L.length c) L.length (ecells (wE k (m + 1) ++ L.drop (m + 1))) ∧ w.grownBy ((wr.setCell ⟨g, m * 2, none⟩ (.int .i64 (k + 2 * (m : Int)))).setCell ⟨g, m * 2 + 1, none⟩ (.int .i64 (k + 2 * (m : Int) + 1))) (some g)) := by
   refine ⟨?_, grow_set (grow_set hrow.out.2 _ _) _ _⟩
   rw [wE_succ, List.append_assoc, ecells_app]
   rw [List.append_assoc] at hput
   exact hput
  clear hput hr hrow hp h h0 ea; obtain ⟨p1, p2⟩ := p
  go_wp2_with fail; go_roundw
  case rel => exact ⟨m + 1, by omega, by go_num, by congr 1; simp; omega, HP⟩
  case measure => simp [intOf]; omega
 have hm' : m = L.length := by omega
 subst hm'
 have hr := hrow.out
 rw [List.drop_length, List.append_nil] at hr
 go_wp2_with fail; go_ret; refine ⟨rfl, ?_, hr.2⟩
 show World.ownsRow _ _ _ _ _ (wE k L.length).length _
 rw [wE_len]; exact hr.1
set_option maxHeartbeats 4000000 in
theorem markV_o (s : Option Addr) (c : Nat) (L : List V4) (B : Nat) (k : Int) (w : World) (h : (rV (.slice s L.length c) L).on w B) (hl : L.length ≤ 1048576) (k0 : 0 ≤ k) (k1 : k ≤ 9000000000000000000) :
  Calls Tryz.prog 44 #[.slice s L.length c, .int .i64 k] w fun e w' => e = .returned (.int .i64 (k + 4 * (L.length : Int))) ∧ MkR w B (.slice s L.length c) (rV (.slice s L.length c) (wV k L.length)) w' := by
 have h0 : w.ownsRow B 75 4 (.slice s L.length c) L.length (L.flatMap vcells) := h
 rcases Go.Joins.ownsRow_forms h0 with ⟨e, hz⟩ | ⟨g, cap, e⟩
 ·
  have e0 := List.length_eq_zero_iff.1 hz
  subst e0
  go_enter Tryz.func44, Tryz.ntmps44
  go_wp2_with fail; go_loop [1, 5] (fun x i => x = .int .i64 k ∧ i = .int .i64 0) (fun _ _ => 0)
  case atStart => exact ⟨rfl, rfl⟩
  obtain ⟨rfl, rfl⟩ := hrel
  go_wp2_with fail; go_ret; exact ⟨by simp, h, grown_refl _ _⟩
 cases e
 go_enter Tryz.func44, Tryz.ntmps44
 go_wp2_with fail; go_loopw [1, 5] (fun x i wr => ∃ m : Nat, m ≤ L.length ∧ i = .int .i64 m ∧ x = .int .i64 (k + 4 * (m : Int)) ∧ Hid (wr.ownsRow B 75 4 (.slice (some ⟨g, 0, none⟩) L.length c) L.length ((wV k m ++ L.drop m).flatMap vcells) ∧ w.grownBy wr (some g))) (fun _ i _ => L.length - (intOf i).toNat)
 case atStart => exact ⟨0, Nat.zero_le _, rfl, by simp, by simpa [wV] using h0, grown_refl _ _⟩
 obtain ⟨m, hm, rfl, rfl, hrow⟩ := hrel
 by_cases hlt : m < L.length
 ·
  obtain ⟨p, hp⟩ := get_some hlt
  have hr := hrow.out.1
  have ea : ((wV k m).flatMap vcells).length = m * 4 := by rw [flat_len (k := 4) (f := vcells) (fun _ => rfl), wV_len]
  rw [drop_get hp, List.flatMap_append, List.flatMap_cons, show vcells p = [.int .i64 p.1, .int .i64 p.2.1, .float .f64 p.2.2.1, .float .f64 p.2.2.2] from rfl] at hr
  simp only [List.cons_append, List.nil_append] at hr
  have hc0 := World.ownsRow.cellAt hr (m * 4) (by omega)
  have hc1 := World.ownsRow.cellAt hr (m * 4 + 1) (by omega)
  have hc2 := World.ownsRow.cellAt hr (m * 4 + 2) (by omega)
  have hc3 := World.ownsRow.cellAt hr (m * 4 + 3) (by omega)
  rw [List.getElem?_append_right (by omega), ea] at hc0 hc1 hc2 hc3
  simp at hc0 hc1 hc2 hc3
  have hf0 := World.ownsRow.frozenAt hr (m * 4)
  have hf1 := World.ownsRow.frozenAt hr (m * 4 + 1)
  have hf2 := World.ownsRow.frozenAt hr (m * 4 + 2)
  have hf3 := World.ownsRow.frozenAt hr (m * 4 + 3)
  have hput := own_put1 (i := m * 4) (u := .int .i64 (k + 4 * (m : Int))) hr ea.symm
  rw [List.append_cons] at hput
  have hput := own_put1 (i := m * 4 + 1) (u := .int .i64 (k + 4 * (m : Int) + 1)) hput (by simp [ea])
  rw [List.append_cons] at hput
  have hput := own_put1 (i := m * 4 + 2) (u := .float .f64 (floatOfInt .f64 (k + 4 * (m : Int) + 1 + 1))) hput (by simp [ea])
  rw [List.append_cons] at hput
  have hput := own_put1 (i := m * 4 + 3) (u := .float .f64 (floatOfInt .f64 (k + 4 * (m : Int) + 1 + 1 + 1))) hput (by simp [ea])
  have HP : Hid (((((wr.setCell ⟨g, m * 4, none⟩ (.int .i64 (k + 4 * (m : Int)))).setCell ⟨g, m * 4 + 1, none⟩ (.int .i64 (k + 4 * (m : Int) + 1))).setCell ⟨g, m * 4 + 2, none⟩ (.float .f64 (floatOfInt .f64 (k + 4 * (m : Int) + 1 + 1)))).setCell ⟨g, m * 4 + 3, none⟩ (.float .f64 (floatOfInt .f64 (k + 4 * (m : Int) + 1 + 1 + 1)))).ownsRow B 75 4 (.slice (some ⟨g, 0, none⟩) L.length c) L.length ((wV k (m + 1) ++ L.drop (m + 1)).flatMap vcells) ∧ w.grownBy ((((wr.setCell ⟨g, m * 4, none⟩ (.int .i64 (k + 4 * (m : Int)))).setCell ⟨g, m * 4 + 1, none⟩ (.int .i64 (k + 4 * (m : Int) + 1))).setCell ⟨g, m * 4 + 2, none⟩ (.float .f64 (floatOfInt .f64 (k + 4 * (m : Int) + 1 + 1)))).setCell ⟨g, m * 4 + 3, none⟩ (.float .f64 (floatOfInt .f64 (k + 4 * (m : Int) + 1 + 1 + 1)))) (some g)) := by
   refine ⟨?_, grow_set (grow_set (grow_set (grow_set hrow.out.2 _ _) _ _) _ _) _ _⟩
   rw [wV_succ, List.append_assoc, List.flatMap_append]
   simp only [List.append_assoc, List.singleton_append] at hput
   exact hput
  clear hput hr hrow hp h h0 ea; obtain ⟨p1, p2, p3, p4⟩ := p
  go_wp2_with fail; go_roundw
  case rel => exact ⟨m + 1, by omega, by go_num, by congr 1; simp; omega, HP⟩
  case measure => simp [intOf]; omega
 have hm' : m = L.length := by omega
 subst hm'
 have hr := hrow.out
 rw [List.drop_length, List.append_nil] at hr
 go_wp2_with fail; go_ret; refine ⟨rfl, ?_, hr.2⟩
 show World.ownsRow _ _ _ _ _ (wV k L.length).length _
 rw [wV_len]; exact hr.1
end
section
open Go.RowKit
set_option maxRecDepth 100000
set_option maxHeartbeats 2000000 in
theorem heldI_o (s : Option Addr) (c n : Nat) (B : Nat) (k : Int) (w : World) (h : Els 1 cInt w B s (wI k n)) (hl : n ≤ 1048576) (k0 : 0 ≤ k) (k1 : k ≤ 9000000000000000000) :
  Calls Tryz.prog 86 #[.slice s n c, .int .i64 k] w fun e w' => e = .returned (.int .i64 (k + (n : Int))) ∧ w' = w := by
 go_enter Tryz.func86, Tryz.ntmps86
 go_wp2_with fail; go_loop [1, 5] (fun x i => ∃ m : Nat, m ≤ n ∧ i = .int .i64 m ∧ x = .int .i64 (k + (m : Int))) (fun _ i => n - (intOf i).toNat)
 case atStart => exact ⟨0, Nat.zero_le _, rfl, by simp⟩
 obtain ⟨m, hm, rfl, rfl⟩ := hrel
 by_cases hlt : m < n
 ·
  obtain ⟨b, o, rfl, _, hp, e1⟩ := eInt_cells h (wI_at k n m hlt)
  clear h; go_wp2_with fail; refine ⟨⟨m + 1, by omega, by go_num, ?_⟩, by simp [intOf]; omega⟩
  congr 1; simp; omega
 have hm' : m = n := by omega
 subst hm'
 go_wp2_with fail; go_ret; exact ⟨rfl, rfl⟩
set_option maxHeartbeats 2000000 in
theorem heldE_o (s : Option Addr) (c n : Nat) (B : Nat) (k : Int) (w : World) (h : Els 2 cEnt w B s (wE k n)) (hl : n ≤ 1048576) (k0 : 0 ≤ k) (k1 : k ≤ 9000000000000000000) :
  Calls Tryz.prog 87 #[.slice s n c, .int .i64 k] w fun e w' => e = .returned (.int .i64 (k + 2 * (n : Int))) ∧ w' = w := by
 go_enter Tryz.func87, Tryz.ntmps87
 go_wp2_with fail; go_loop [1, 5] (fun x i => ∃ m : Nat, m ≤ n ∧ i = .int .i64 m ∧ x = .int .i64 (k + 2 * (m : Int))) (fun _ i => n - (intOf i).toNat)
 case atStart => exact ⟨0, Nat.zero_le _, rfl, by simp⟩
 obtain ⟨m, hm, rfl, rfl⟩ := hrel
 by_cases hlt : m < n
 ·
  obtain ⟨b, o, rfl, _, hp, e1, e2⟩ := eEnt_cells h (wE_at k n m hlt)
  clear h; go_wp2_with fail; refine ⟨⟨m + 1, by omega, by go_num, ?_⟩, by simp [intOf]; omega⟩
  congr 1; simp; omega
 have hm' : m = n := by omega
 subst hm'
 go_wp2_with fail; go_ret; exact ⟨rfl, rfl⟩
set_option maxHeartbeats 2000000 in
theorem heldV_o (s : Option Addr) (c n : Nat) (B : Nat) (k : Int) (w : World) (h : Els 4 cVal w B s (wV k n)) (hl : n ≤ 1048576) (k0 : 0 ≤ k) (k1 : k ≤ 9000000000000000000) :
  Calls Tryz.prog 47 #[.slice s n c, .int .i64 k] w fun e w' => e = .returned (.int .i64 (k + 4 * (n : Int))) ∧ w' = w := by
 go_enter Tryz.func47, Tryz.ntmps47
 go_wp2_with fail; go_loop [1, 5] (fun x i => ∃ m : Nat, m ≤ n ∧ i = .int .i64 m ∧ x = .int .i64 (k + 4 * (m : Int))) (fun _ i => n - (intOf i).toNat)
 case atStart => exact ⟨0, Nat.zero_le _, rfl, by simp⟩
 obtain ⟨m, hm, rfl, rfl⟩ := hrel
 by_cases hlt : m < n
 ·
  obtain ⟨b, o, rfl, _, hp, hok, e1, e2, e3, e4⟩ := eVal_cells h (wV_at k n m hlt)
  simp only [wV1] at e1 e2 e3 e4
  have g3 := neq_self (floatOfInt .f64 (k + 4 * (m : Int) + 1 + 1))
  have g4 := neq_self (floatOfInt .f64 (k + 4 * (m : Int) + 1 + 1 + 1))
  rw [ofInt_numW] at g3 g4
  clear h hok; go_wp2_with fail; refine ⟨⟨m + 1, by omega, by go_num, ?_⟩, by simp [intOf]; omega⟩
  congr 1; simp; omega
 have hm' : m = n := by omega
 subst hm'
 go_wp2_with fail; go_ret; exact ⟨rfl, rfl⟩
def cC : List (List V4) → Int
 | [] => 0
 | L :: C => 4 * (L.length : Int) + cC C
def wC : Int → List (List V4) → List (List V4)
 | _, [] => []
 | k, L :: C => wV k L.length :: wC (k + 4 * (L.length : Int)) C
def cT (T : Tab) : Int := (T.cols.length : Int) + 2 * (T.rows.length : Int) + cC T.cells
def wT (k : Int) (T : Tab) : Tab := ⟨wI k T.cols.length, wE (k + (T.cols.length : Int)) T.rows.length, wC (k + (T.cols.length : Int) + 2 * (T.rows.length : Int)) T.cells⟩
def cTs : List Tab → Int
 | [] => 0
 | T :: Ts => cT T + cTs Ts
def wTs : Int → List Tab → List Tab
 | _, [] => []
 | k, T :: Ts => wT k T :: wTs (k + cT T) Ts
theorem wC_len : ∀ (k : Int) (C : List (List V4)), (wC k C).length = C.length
 | _, [] => rfl
 | k, L :: C => by simp [wC, wC_len _ C]
theorem wTs_len : ∀ (k : Int) (C : List Tab), (wTs k C).length = C.length
 | _, [] => rfl
 | k, L :: C => by simp [wTs, wTs_len _ C]
theorem cC_nn : ∀ C : List (List V4), 0 ≤ cC C
 | [] => by simp [cC]
 | L :: C => by have := cC_nn C; simp only [cC]; omega
theorem cC_le : ∀ {C : List (List V4)}, (∀ L ∈ C, L.length ≤ 1048576) → cC C ≤ 4194304 * (C.length : Int)
 | [], _ => by simp [cC]
 | L :: C, h => by
  have h1 := h L (by simp)
  have h2 := cC_le (C := C) (fun l hl => h l (by simp [hl]))
  simp only [cC, List.length_cons]
  omega
theorem cT_nn (T : Tab) : 0 ≤ cT T := by have := cC_nn T.cells; unfold cT; omega
theorem cT_le {T : Tab} (h : kTab T) : cT T ≤ 4398049656832 := by
 obtain ⟨h1, h2, h3, h4⟩ := h
 have := cC_le h4
 unfold cT; omega
theorem cTs_nn : ∀ C : List Tab, 0 ≤ cTs C
 | [] => by simp [cTs]
 | L :: C => by have := cTs_nn C; have := cT_nn L; simp only [cTs]; omega
theorem cTs_le : ∀ {C : List Tab}, (∀ T ∈ C, kTab T) → cTs C ≤ 4398049656832 * (C.length : Int)
 | [], _ => by simp [cTs]
 | L :: C, h => by
  have h1 := cT_le (h L (by simp))
  have h2 := cTs_le (C := C) (fun l hl => h l (by simp [hl]))
  simp only [cTs, List.length_cons]
  omega
theorem cC_take : ∀ (C : List (List V4)) (m : Nat) (L : List V4), C[m]? = some L → cC (C.take (m + 1)) = cC (C.take m) + 4 * (L.length : Int)
 | L' :: C, 0, L, h => by simp at h; subst h; simp [cC]
 | L' :: C, m + 1, L, h => by
  have := cC_take C m L (by simpa using h)
  simp only [List.take_succ_cons, cC, this]; omega
theorem wC_get : ∀ (k : Int) (C : List (List V4)) (m : Nat) (L : List V4), C[m]? = some L → (wC k C)[m]? = some (wV (k + cC (C.take m)) L.length)
 | k, L' :: C, 0, L, h => by simp at h; subst h; simp [wC, cC]
 | k, L' :: C, m + 1, L, h => by
  have := wC_get (k + 4 * (L'.length : Int)) C m L (by simpa using h)
  simp only [wC, List.getElem?_cons_succ, this, List.take_succ_cons, cC]
  rw [Int.add_assoc]
theorem cTs_take : ∀ (C : List Tab) (m : Nat) (L : Tab), C[m]? = some L → cTs (C.take (m + 1)) = cTs (C.take m) + cT L
 | L' :: C, 0, L, h => by simp at h; subst h; simp [cTs]
 | L' :: C, m + 1, L, h => by
  have := cTs_take C m L (by simpa using h)
  simp only [List.take_succ_cons, cTs, this]; omega
theorem wTs_get : ∀ (k : Int) (C : List Tab) (m : Nat) (L : Tab), C[m]? = some L → (wTs k C)[m]? = some (wT (k + cTs (C.take m)) L)
 | k, L' :: C, 0, L, h => by simp at h; subst h; simp [wTs, cTs]
 | k, L' :: C, m + 1, L, h => by
  have := wTs_get (k + cT L') C m L (by simpa using h)
  simp only [wTs, List.getElem?_cons_succ, this, List.take_succ_cons, cTs]
  rw [Int.add_assoc]
theorem cC_takeLe (C : List (List V4)) (m : Nat) : cC (C.take m) ≤ cC C := by
 induction C generalizing m with
 | nil => simp [cC]
 | cons L C ih =>
  cases m with
  | zero => simp only [List.take_zero, cC]; have := cC_nn C; omega
  | succ m => simp only [List.take_succ_cons, cC]; have := ih m; omega
theorem cTs_takeLe (C : List Tab) (m : Nat) : cTs (C.take m) ≤ cTs C := by
 induction C generalizing m with
 | nil => simp [cTs]
 | cons L C ih =>
  cases m with
  | zero => simp only [List.take_zero, cTs]; have := cTs_nn C; have := cT_nn L; omega
  | succ m => simp only [List.take_succ_cons, cTs]; have := ih m; omega
theorem rVs_split {xs : List Value} {C : List (List V4)} {m : Nat} {v : Value} {L : List V4} (h1 : xs[m]? = some v) (h2 : C[m]? = some L) : rVs xs C = rVs (xs.take m) (C.take m) ++ (rV v L :: rVs (xs.drop (m + 1)) (C.drop (m + 1))) := by
 have l1 := (List.getElem?_eq_some_iff.1 h1).1
 have l2 := (List.getElem?_eq_some_iff.1 h2).1
 have e1 : xs = xs.take m ++ v :: xs.drop (m + 1) := by rw [← drop_get h1, List.take_append_drop]
 have e2 : C = C.take m ++ L :: C.drop (m + 1) := by rw [← drop_get h2, List.take_append_drop]
 conv => lhs; rw [e1, e2]
 unfold rVs
 rw [List.zipWith_append (by simp; omega), List.zipWith_cons_cons]
theorem rVs_set {xs : List Value} {C : List (List V4)} {m : Nat} {v : Value} {L L' : List V4} (h1 : xs[m]? = some v) (h2 : C[m]? = some L) : rVs xs (C.set m L') = rVs (xs.take m) (C.take m) ++ (rV v L' :: rVs (xs.drop (m + 1)) (C.drop (m + 1))) := by
 have l2 := (List.getElem?_eq_some_iff.1 h2).1
 have := rVs_split (C := C.set m L') (m := m) (L := L') h1 (by rw [List.getElem?_set_self l2])
 rw [this, List.take_set_of_le (Nat.le_refl _), List.drop_set_of_lt (by omega)]
theorem Rs.turnV {X W W' : World} {B : Nat} (P S : List OR) {xs : List Value} {C : List (List V4)} {m : Nat} {v : Value} {L L' : List V4} (hR : Rs X B W (P ++ (rVs xs C ++ S))) (h1 : xs[m]? = some v) (h2 : C[m]? = some L) (hg : W.grownBy W' v.ownBlock) (hr : (rV v L').on W' B) : Rs X B W' (P ++ (rVs xs (C.set m L') ++ S)) := by
 rw [rVs_split h1 h2] at hR
 rw [rVs_set h1 h2]
 have := Rs.turn (P ++ rVs (xs.take m) (C.take m)) (rVs (xs.drop (m + 1)) (C.drop (m + 1)) ++ S) (r := rV v L) (r' := rV v L') (by simpa using hR) hg hr (fun g h => Or.inl h)
 simpa using this
theorem Rs.rowV {X W : World} {B : Nat} {P S : List OR} {xs : List Value} {C : List (List V4)} {m : Nat} {v : Value} {L : List V4} (hR : Rs X B W (P ++ (rVs xs C ++ S))) (h1 : xs[m]? = some v) (h2 : C[m]? = some L) : (rV v L).on W B :=
 hR.o.on _ (by simp only [List.mem_append]; exact Or.inr (Or.inl (mem_zipWith h1 h2)))
theorem take_drop_set {α : Type} {A C : List α} {m : Nat} {a : α} (hl : A.length = C.length) (h : A[m]? = some a) : (A.take m ++ C.drop m).set m a = A.take (m + 1) ++ C.drop (m + 1) := by
 obtain ⟨hlt, rfl⟩ := List.getElem?_eq_some_iff.1 h
 have hc : m < C.length := by omega
 rw [List.set_append_right _ _ (by simp; omega), List.length_take, Nat.min_eq_left (by omega), Nat.sub_self, List.drop_eq_getElem_cons hc, List.set_cons_zero]
 rw [show A.take (m + 1) = A.take m ++ [A[m]] by rw [List.take_add_one, h]; rfl, List.append_assoc]
 rfl
theorem take_drop_get {α : Type} {A C : List α} {m : Nat} (hl : A.length = C.length) (hm : m < C.length) : (A.take m ++ C.drop m)[m]? = C[m]? := by
 rw [List.getElem?_append_right (by simp; omega), List.length_take, Nat.min_eq_left (by omega), Nat.sub_self, List.getElem?_drop, Nat.add_zero]
set_option maxHeartbeats 4000000 in
theorem markVV_o (X : World) (B : Nat) (P S : List OR) (sx : Option Addr) (cx : Nat) (xs : List Value) (C : List (List V4)) (k : Int) (w : World) (hx : xs.length = C.length) (hR : Rs X B w ((P ++ [(⟨38, 1, .slice sx C.length cx, C.length, xs⟩ : OR)]) ++ (rVs xs C ++ S))) (hk : kLL C) (k0 : 0 ≤ k) (k1 : k + cC C ≤ 9000000000000000000) :
  Calls Tryz.prog 85 #[.slice sx C.length cx, .int .i64 k] w fun e w' => e = .returned (.int .i64 (k + cC C)) ∧ Rs X B w' ((P ++ [(⟨38, 1, .slice sx C.length cx, C.length, xs⟩ : OR)]) ++ (rVs xs (wC k C) ++ S)) := by
 obtain ⟨hl, hls⟩ := hk
 have HLS := Hid.mk' hls
 have HX := Hid.mk' hx
 have K1 := Hid.mk' k1
 clear hls hx k1; go_enter Tryz.func85, Tryz.ntmps85
 go_wp2_with fail; go_loopw [1, 5] (fun x i wr => ∃ (m : Nat) (q : Int), m ≤ C.length ∧ i = .int .i64 m ∧ x = .int .i64 q ∧ Hid (q = k + cC (C.take m)) ∧ Hid (Rs X B wr ((P ++ [(⟨38, 1, .slice sx C.length cx, C.length, xs⟩ : OR)]) ++ (rVs xs ((wC k C).take m ++ C.drop m) ++ S)))) (fun _ i _ => C.length - (intOf i).toNat)
 case atStart => exact ⟨0, k, Nat.zero_le _, rfl, rfl, by show _ = _; simp [cC], by show Rs _ _ _ _; simpa using hR⟩
 clear hR; obtain ⟨m, q, hm, rfl, rfl, hq, hR⟩ := hrel
 by_cases hlt : m < C.length
 ·
  obtain ⟨L, hL⟩ := get_some hlt
  obtain ⟨v, hv⟩ := get_some (L := xs) (k := m) (by have := HX.out; omega)
  have hon := hR.out.rowV hv (by rw [take_drop_get (wC_len _ _) hlt]; exact hL)
  obtain ⟨s', c', e'⟩ := hon.shape
  have e' : v = .slice s' L.length c' := e'
  subst e'
  have hrow : World.ownsRow wr B 38 1 (.slice sx C.length cx) C.length xs := hR.out.o.on (⟨38, 1, .slice sx C.length cx, C.length, xs⟩ : OR) (by simp)
  have hcap : sx = none ∨ ∃ g, sx = some ⟨g, 0, none⟩ := by
   rcases Go.Joins.ownsRow_forms hrow with ⟨e, _⟩ | ⟨g, cap, e⟩
   ·
    simp only [Value.slice.injEq] at e; exact Or.inl e.1
   simp only [Value.slice.injEq] at e; exact Or.inr ⟨g, e.1⟩
  rcases hcap with rfl | ⟨g, rfl⟩
  ·
   exfalso
   rcases hrow.2 with ⟨e, h0⟩ | ⟨g, cap, cur, e, _⟩
   ·
    omega
   cases e
  have hc := World.ownsRow.cellAt hrow m (by omega)
  rw [hv] at hc
  have hLl := HLS.out L (List.mem_of_getElem? hL)
  have q0 : 0 ≤ q := by rw [hq.out]; have := cC_nn (C.take m); omega
  have q1 : q ≤ 9000000000000000000 := by rw [hq.out]; have := cC_takeLe C m; have := K1.out; omega
  have HL := Hid.mk' hL
  have HV := Hid.mk' hv
  clear hL hv hrow; go_wp2_with fail; refine (markV_o s' c' L B q _ hon hLl q0 q1).mono ?_
  rintro e w2 ⟨rfl, hr2, hg2⟩
  have hR := Hid.mk' (hR.out.turnV _ _ HV.out (by rw [take_drop_get (wC_len _ _) hlt]; exact HL.out) hg2 hr2)
  have hR : Hid (Rs X B w2 ((P ++ [(⟨38, 1, .slice (some ⟨g, 0, none⟩) C.length cx, C.length, xs⟩ : OR)]) ++ (rVs xs ((wC k C).take (m + 1) ++ C.drop (m + 1)) ++ S))) := by
   have h := hR.out
   rw [hq.out, take_drop_set (wC_len _ _) (wC_get k C m L HL.out)] at h
   exact h
  clear hr2 hg2 hon hc; go_wp2_with fail; go_roundw
  case rel => exact ⟨m + 1, _, by omega, by go_num, rfl, by show _ = _; rw [hq.out, cC_take C m L HL.out]; omega, hR⟩
  case measure => simp [intOf]; omega
 have hm' : m = C.length := by omega
 subst hm'
 have h := hR.out
 rw [List.drop_length, List.append_nil, List.take_of_length_le (by rw [wC_len]; exact Nat.le_refl _)] at h
 have e := hq.out
 rw [List.take_length] at e
 subst e
 go_wp2_with fail; go_ret; exact ⟨rfl, h⟩
end
end Go.Proofs.YtbgeobpdojmdaaaGreat
