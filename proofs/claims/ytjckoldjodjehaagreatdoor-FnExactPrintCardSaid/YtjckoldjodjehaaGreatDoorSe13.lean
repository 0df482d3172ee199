import Derived.Test.YtjckoldjodjehaaGreatDoorSe10
namespace Go.Proofs.YtjckoldjodjehaaGreatDoor
set_option linter.unusedVariables false
set_option linter.unusedSimpArgs false
section
open Go.RowKit
noncomputable def kidB (kind : Int) (ks : List Int) : Bool := @decide (KidsP kind ks) (Classical.propDecidable _)
theorem kidB_true {kind : Int} {ks : List Int} (h : KidsP kind ks) : kidB kind ks = true := @decide_eq_true _ (Classical.propDecidable _) h
theorem kidB_false {kind : Int} {ks : List Int} (h : ¬ KidsP kind ks) : kidB kind ks = false := @decide_eq_false _ (Classical.propDecidable _) h
theorem kidB_iff {kind : Int} {ks : List Int} {p : Prop} [Decidable p] (h : KidsP kind ks ↔ p) : kidB kind ks = decide p := by
 by_cases g : p
 ·
  rw [kidB_true (h.2 g), decide_eq_true g]
 rw [kidB_false (fun q => g (h.1 q)), decide_eq_false g]
def KidSays (t : Tre) (kind : Int) (kids : List Int) (w : World) (e : Ending) (w' : World) : Prop := e = .returned (.bool (kidB kind (kids.map (kkAt t)))) ∧ Below w.heap.size w w'
theorem roles_ne {R L : List UInt8} (h : ¬ R = L) : (R == L) = false := by simpa using h
set_option maxRecDepth 100000 in
set_option maxHeartbeats 4000000 in
theorem okids_1 (t : Tre) (tx : ByteArray) (q : Int) (s s1 : Option Addr) (c c1 : Nat) (kids : List Int) (B C : Nat) (w : World) (hL : Els 1 cInt w B s kids) (hN : Els 4 cNode w C s1 t.nodes) (hv : ∀ x ∈ kids, ∃ m : Nat, x = m ∧ m < t.nodes.length) (hl : kids.length ≤ 1048576) (hn : t.nodes.length ≤ 1048576) :
  Calls Tryz.prog 37 #[.agg #[.int .i64 1, .string tx, .int .i64 q, .slice s kids.length c], .slice s1 t.nodes.length c1] w (KidSays t 1 kids w) := by
 have k0 := Blk.new w #[.int .i64 1, .string tx, .int .i64 q, .slice s kids.length c] 66
 have L0 := bl_alloc (Below.refl _ w) (.cells #[.int .i64 1, .string tx, .int .i64 q, .slice s kids.length c] 66)
 obtain ⟨x0, x1, x2, x3, x4⟩ := k0.four'
 have hr := rolesOf_any t s s1 c c1 kids B C _ (hL.later cInt_keeps L0) (hN.later cNode_keeps L0) hv hl hn
 go_enter Tryz.func37, Tryz.ntmps37
 go_wp2_with fail; refine hr.mono ?_
 rintro e w1 ⟨rfl, hb1⟩
 have L1 := bl_trans L0 hb1
 obtain ⟨y0, y1, y2, y3, y4⟩ := (k0.later hb1).four'
 have hrl : (((kids.map (kkAt t)).map rl)).length ≤ 1048576 := by simp; exact hl
 have HI : Hid (kidB 1 (kids.map (kkAt t)) = decide ((kids.map (kkAt t)).map rl = [])) := kidB_iff (kids_const [] (fun n => by simp [shp]) (by decide))
 generalize hR : (kids.map (kkAt t)).map rl = R at hrl HI ⊢
 clear hr x0 x1 x2 x3 x4; by_cases h1 : R = []
 ·
  subst h1
  go_wp2_with fail; go_ret; exact ⟨ret_bool' (by rw [HI.out]; rfl), L1⟩
 have q1 := not_empty (not_nil_str h1)
 have H1 : Hid (¬ R = []) := h1
 clear h1; go_wp2_with fail; go_ret; exact ⟨ret_bool' (by rw [HI.out, decide_eq_false H1.out]; have h9 := not_empty (not_nil_str H1.out); simpa using h9), L1⟩
set_option maxRecDepth 100000 in
set_option maxHeartbeats 4000000 in
theorem okids_2 (t : Tre) (tx : ByteArray) (q : Int) (s s1 : Option Addr) (c c1 : Nat) (kids : List Int) (B C : Nat) (w : World) (hL : Els 1 cInt w B s kids) (hN : Els 4 cNode w C s1 t.nodes) (hv : ∀ x ∈ kids, ∃ m : Nat, x = m ∧ m < t.nodes.length) (hl : kids.length ≤ 1048576) (hn : t.nodes.length ≤ 1048576) :
  Calls Tryz.prog 37 #[.agg #[.int .i64 2, .string tx, .int .i64 q, .slice s kids.length c], .slice s1 t.nodes.length c1] w (KidSays t 2 kids w) := by
 have k0 := Blk.new w #[.int .i64 2, .string tx, .int .i64 q, .slice s kids.length c] 66
 have L0 := bl_alloc (Below.refl _ w) (.cells #[.int .i64 2, .string tx, .int .i64 q, .slice s kids.length c] 66)
 obtain ⟨x0, x1, x2, x3, x4⟩ := k0.four'
 have hr := rolesOf_any t s s1 c c1 kids B C _ (hL.later cInt_keeps L0) (hN.later cNode_keeps L0) hv hl hn
 go_enter Tryz.func37, Tryz.ntmps37
 go_wp2_with fail; refine hr.mono ?_
 rintro e w1 ⟨rfl, hb1⟩
 have L1 := bl_trans L0 hb1
 obtain ⟨y0, y1, y2, y3, y4⟩ := (k0.later hb1).four'
 have hrl : (((kids.map (kkAt t)).map rl)).length ≤ 1048576 := by simp; exact hl
 have HI : Hid (kidB 2 (kids.map (kkAt t)) = decide ((kids.map (kkAt t)).map rl = [])) := kidB_iff (kids_const [] (fun n => by simp [shp]) (by decide))
 generalize hR : (kids.map (kkAt t)).map rl = R at hrl HI ⊢
 clear hr x0 x1 x2 x3 x4; by_cases h1 : R = []
 ·
  subst h1
  go_wp2_with fail; go_ret; exact ⟨ret_bool' (by rw [HI.out]; rfl), L1⟩
 have q1 := not_empty (not_nil_str h1)
 have H1 : Hid (¬ R = []) := h1
 clear h1; go_wp2_with fail; go_ret; exact ⟨ret_bool' (by rw [HI.out, decide_eq_false H1.out]; have h9 := not_empty (not_nil_str H1.out); simpa using h9), L1⟩
set_option maxRecDepth 100000 in
set_option maxHeartbeats 4000000 in
theorem okids_3 (t : Tre) (tx : ByteArray) (q : Int) (s s1 : Option Addr) (c c1 : Nat) (kids : List Int) (B C : Nat) (w : World) (hL : Els 1 cInt w B s kids) (hN : Els 4 cNode w C s1 t.nodes) (hv : ∀ x ∈ kids, ∃ m : Nat, x = m ∧ m < t.nodes.length) (hl : kids.length ≤ 1048576) (hn : t.nodes.length ≤ 1048576) :
  Calls Tryz.prog 37 #[.agg #[.int .i64 3, .string tx, .int .i64 q, .slice s kids.length c], .slice s1 t.nodes.length c1] w (KidSays t 3 kids w) := by
 have k0 := Blk.new w #[.int .i64 3, .string tx, .int .i64 q, .slice s kids.length c] 66
 have L0 := bl_alloc (Below.refl _ w) (.cells #[.int .i64 3, .string tx, .int .i64 q, .slice s kids.length c] 66)
 obtain ⟨x0, x1, x2, x3, x4⟩ := k0.four'
 have hr := rolesOf_any t s s1 c c1 kids B C _ (hL.later cInt_keeps L0) (hN.later cNode_keeps L0) hv hl hn
 go_enter Tryz.func37, Tryz.ntmps37
 go_wp2_with fail; refine hr.mono ?_
 rintro e w1 ⟨rfl, hb1⟩
 have L1 := bl_trans L0 hb1
 obtain ⟨y0, y1, y2, y3, y4⟩ := (k0.later hb1).four'
 have hrl : (((kids.map (kkAt t)).map rl)).length ≤ 1048576 := by simp; exact hl
 have HI : Hid (kidB 3 (kids.map (kkAt t)) = decide ((kids.map (kkAt t)).map rl = [])) := kidB_iff (kids_const [] (fun n => by simp [shp]) (by decide))
 generalize hR : (kids.map (kkAt t)).map rl = R at hrl HI ⊢
 clear hr x0 x1 x2 x3 x4; by_cases h1 : R = []
 ·
  subst h1
  go_wp2_with fail; go_ret; exact ⟨ret_bool' (by rw [HI.out]; rfl), L1⟩
 have q1 := not_empty (not_nil_str h1)
 have H1 : Hid (¬ R = []) := h1
 clear h1; go_wp2_with fail; go_ret; exact ⟨ret_bool' (by rw [HI.out, decide_eq_false H1.out]; have h9 := not_empty (not_nil_str H1.out); simpa using h9), L1⟩
set_option maxRecDepth 100000 in
set_option maxHeartbeats 4000000 in
theorem okids_4 (t : Tre) (tx : ByteArray) (q : Int) (s s1 : Option Addr) (c c1 : Nat) (kids : List Int) (B C : Nat) (w : World) (hL : Els 1 cInt w B s kids) (hN : Els 4 cNode w C s1 t.nodes) (hv : ∀ x ∈ kids, ∃ m : Nat, x = m ∧ m < t.nodes.length) (hl : kids.length ≤ 1048576) (hn : t.nodes.length ≤ 1048576) :
  Calls Tryz.prog 37 #[.agg #[.int .i64 4, .string tx, .int .i64 q, .slice s kids.length c], .slice s1 t.nodes.length c1] w (KidSays t 4 kids w) := by
 have k0 := Blk.new w #[.int .i64 4, .string tx, .int .i64 q, .slice s kids.length c] 66
 have L0 := bl_alloc (Below.refl _ w) (.cells #[.int .i64 4, .string tx, .int .i64 q, .slice s kids.length c] 66)
 obtain ⟨x0, x1, x2, x3, x4⟩ := k0.four'
 have hr := rolesOf_any t s s1 c c1 kids B C _ (hL.later cInt_keeps L0) (hN.later cNode_keeps L0) hv hl hn
 go_enter Tryz.func37, Tryz.ntmps37
 go_wp2_with fail; refine hr.mono ?_
 rintro e w1 ⟨rfl, hb1⟩
 have L1 := bl_trans L0 hb1
 obtain ⟨y0, y1, y2, y3, y4⟩ := (k0.later hb1).four'
 have hrl : (((kids.map (kkAt t)).map rl)).length ≤ 1048576 := by simp; exact hl
 have HI : Hid (kidB 4 (kids.map (kkAt t)) = decide ((kids.map (kkAt t)).map rl = [])) := kidB_iff (kids_const [] (fun n => by simp [shp]) (by decide))
 generalize hR : (kids.map (kkAt t)).map rl = R at hrl HI ⊢
 clear hr x0 x1 x2 x3 x4; by_cases h1 : R = []
 ·
  subst h1
  go_wp2_with fail; go_ret; exact ⟨ret_bool' (by rw [HI.out]; rfl), L1⟩
 have q1 := not_empty (not_nil_str h1)
 have H1 : Hid (¬ R = []) := h1
 clear h1; go_wp2_with fail; go_ret; exact ⟨ret_bool' (by rw [HI.out, decide_eq_false H1.out]; have h9 := not_empty (not_nil_str H1.out); simpa using h9), L1⟩
set_option maxRecDepth 100000 in
set_option maxHeartbeats 4000000 in
theorem okids_5 (t : Tre) (tx : ByteArray) (q : Int) (s s1 : Option Addr) (c c1 : Nat) (kids : List Int) (B C : Nat) (w : World) (hL : Els 1 cInt w B s kids) (hN : Els 4 cNode w C s1 t.nodes) (hv : ∀ x ∈ kids, ∃ m : Nat, x = m ∧ m < t.nodes.length) (hl : kids.length ≤ 1048576) (hn : t.nodes.length ≤ 1048576) :
  Calls Tryz.prog 37 #[.agg #[.int .i64 5, .string tx, .int .i64 q, .slice s kids.length c], .slice s1 t.nodes.length c1] w (KidSays t 5 kids w) := by
 have k0 := Blk.new w #[.int .i64 5, .string tx, .int .i64 q, .slice s kids.length c] 66
 have L0 := bl_alloc (Below.refl _ w) (.cells #[.int .i64 5, .string tx, .int .i64 q, .slice s kids.length c] 66)
 obtain ⟨x0, x1, x2, x3, x4⟩ := k0.four'
 have hr := rolesOf_any t s s1 c c1 kids B C _ (hL.later cInt_keeps L0) (hN.later cNode_keeps L0) hv hl hn
 go_enter Tryz.func37, Tryz.ntmps37
 go_wp2_with fail; refine hr.mono ?_
 rintro e w1 ⟨rfl, hb1⟩
 have L1 := bl_trans L0 hb1
 obtain ⟨y0, y1, y2, y3, y4⟩ := (k0.later hb1).four'
 have hrl : (((kids.map (kkAt t)).map rl)).length ≤ 1048576 := by simp; exact hl
 have HI : Hid (kidB 5 (kids.map (kkAt t)) = decide ((kids.map (kkAt t)).map rl = [])) := kidB_iff (kids_const [] (fun n => by simp [shp]) (by decide))
 generalize hR : (kids.map (kkAt t)).map rl = R at hrl HI ⊢
 clear hr x0 x1 x2 x3 x4; by_cases h1 : R = []
 ·
  subst h1
  go_wp2_with fail; go_ret; exact ⟨ret_bool' (by rw [HI.out]; rfl), L1⟩
 have q1 := not_empty (not_nil_str h1)
 have H1 : Hid (¬ R = []) := h1
 clear h1; go_wp2_with fail; go_ret; exact ⟨ret_bool' (by rw [HI.out, decide_eq_false H1.out]; have h9 := not_empty (not_nil_str H1.out); simpa using h9), L1⟩
set_option maxRecDepth 100000 in
set_option maxHeartbeats 4000000 in
theorem okids_6 (t : Tre) (tx : ByteArray) (q : Int) (s s1 : Option Addr) (c c1 : Nat) (kids : List Int) (B C : Nat) (w : World) (hL : Els 1 cInt w B s kids) (hN : Els 4 cNode w C s1 t.nodes) (hv : ∀ x ∈ kids, ∃ m : Nat, x = m ∧ m < t.nodes.length) (hl : kids.length ≤ 1048576) (hn : t.nodes.length ≤ 1048576) :
  Calls Tryz.prog 37 #[.agg #[.int .i64 6, .string tx, .int .i64 q, .slice s kids.length c], .slice s1 t.nodes.length c1] w (KidSays t 6 kids w) := by
 have k0 := Blk.new w #[.int .i64 6, .string tx, .int .i64 q, .slice s kids.length c] 66
 have L0 := bl_alloc (Below.refl _ w) (.cells #[.int .i64 6, .string tx, .int .i64 q, .slice s kids.length c] 66)
 obtain ⟨x0, x1, x2, x3, x4⟩ := k0.four'
 have hr := rolesOf_any t s s1 c c1 kids B C _ (hL.later cInt_keeps L0) (hN.later cNode_keeps L0) hv hl hn
 go_enter Tryz.func37, Tryz.ntmps37
 go_wp2_with fail; refine hr.mono ?_
 rintro e w1 ⟨rfl, hb1⟩
 have L1 := bl_trans L0 hb1
 obtain ⟨y0, y1, y2, y3, y4⟩ := (k0.later hb1).four'
 have hrl : (((kids.map (kkAt t)).map rl)).length ≤ 1048576 := by simp; exact hl
 have HI : Hid (kidB 6 (kids.map (kkAt t)) = decide ((kids.map (kkAt t)).map rl = [])) := kidB_iff (kids_const [] (fun n => by simp [shp]) (by decide))
 generalize hR : (kids.map (kkAt t)).map rl = R at hrl HI ⊢
 clear hr x0 x1 x2 x3 x4; by_cases h1 : R = []
 ·
  subst h1
  go_wp2_with fail; go_ret; exact ⟨ret_bool' (by rw [HI.out]; rfl), L1⟩
 have q1 := not_empty (not_nil_str h1)
 have H1 : Hid (¬ R = []) := h1
 clear h1; go_wp2_with fail; go_ret; exact ⟨ret_bool' (by rw [HI.out, decide_eq_false H1.out]; have h9 := not_empty (not_nil_str H1.out); simpa using h9), L1⟩
set_option maxRecDepth 100000 in
set_option maxHeartbeats 4000000 in
theorem okids_7 (t : Tre) (tx : ByteArray) (q : Int) (s s1 : Option Addr) (c c1 : Nat) (kids : List Int) (B C : Nat) (w : World) (hL : Els 1 cInt w B s kids) (hN : Els 4 cNode w C s1 t.nodes) (hv : ∀ x ∈ kids, ∃ m : Nat, x = m ∧ m < t.nodes.length) (hl : kids.length ≤ 1048576) (hn : t.nodes.length ≤ 1048576) :
  Calls Tryz.prog 37 #[.agg #[.int .i64 7, .string tx, .int .i64 q, .slice s kids.length c], .slice s1 t.nodes.length c1] w (KidSays t 7 kids w) := by
 have k0 := Blk.new w #[.int .i64 7, .string tx, .int .i64 q, .slice s kids.length c] 66
 have L0 := bl_alloc (Below.refl _ w) (.cells #[.int .i64 7, .string tx, .int .i64 q, .slice s kids.length c] 66)
 obtain ⟨x0, x1, x2, x3, x4⟩ := k0.four'
 have hr := rolesOf_any t s s1 c c1 kids B C _ (hL.later cInt_keeps L0) (hN.later cNode_keeps L0) hv hl hn
 go_enter Tryz.func37, Tryz.ntmps37
 go_wp2_with fail; refine hr.mono ?_
 rintro e w1 ⟨rfl, hb1⟩
 have L1 := bl_trans L0 hb1
 obtain ⟨y0, y1, y2, y3, y4⟩ := (k0.later hb1).four'
 have hrl : (((kids.map (kkAt t)).map rl)).length ≤ 1048576 := by simp; exact hl
 have HI : Hid (kidB 7 (kids.map (kkAt t)) = decide (∀ b ∈ (kids.map (kkAt t)).map rl, b = 101)) := kidB_iff (kids_rep (c := 1) (fun n => by simp [shp]) (by decide))
 generalize hR : (kids.map (kkAt t)).map rl = R at hrl HI ⊢
 clear hr x0 x1 x2 x3 x4; go_wp2_with (go_at_call 38; refine (only_any _ 101 (by decide) hrl _).mono ?_; rintro e w2 ⟨rfl, hb2⟩)
 go_ret; exact ⟨ret_bool' (by rw [HI.out]), bl_trans L1 hb2⟩
set_option maxRecDepth 100000 in
set_option maxHeartbeats 4000000 in
theorem okids_8 (t : Tre) (tx : ByteArray) (q : Int) (s s1 : Option Addr) (c c1 : Nat) (kids : List Int) (B C : Nat) (w : World) (hL : Els 1 cInt w B s kids) (hN : Els 4 cNode w C s1 t.nodes) (hv : ∀ x ∈ kids, ∃ m : Nat, x = m ∧ m < t.nodes.length) (hl : kids.length ≤ 1048576) (hn : t.nodes.length ≤ 1048576) :
  Calls Tryz.prog 37 #[.agg #[.int .i64 8, .string tx, .int .i64 q, .slice s kids.length c], .slice s1 t.nodes.length c1] w (KidSays t 8 kids w) := by
 have k0 := Blk.new w #[.int .i64 8, .string tx, .int .i64 q, .slice s kids.length c] 66
 have L0 := bl_alloc (Below.refl _ w) (.cells #[.int .i64 8, .string tx, .int .i64 q, .slice s kids.length c] 66)
 obtain ⟨x0, x1, x2, x3, x4⟩ := k0.four'
 have hr := rolesOf_any t s s1 c c1 kids B C _ (hL.later cInt_keeps L0) (hN.later cNode_keeps L0) hv hl hn
 go_enter Tryz.func37, Tryz.ntmps37
 go_wp2_with fail; refine hr.mono ?_
 rintro e w1 ⟨rfl, hb1⟩
 have L1 := bl_trans L0 hb1
 obtain ⟨y0, y1, y2, y3, y4⟩ := (k0.later hb1).four'
 have hrl : (((kids.map (kkAt t)).map rl)).length ≤ 1048576 := by simp; exact hl
 have HI : Hid (kidB 8 (kids.map (kkAt t)) = decide ((kids.map (kkAt t)).map rl = [101, 101])) := kidB_iff (kids_const [1, 1] (fun n => by simp [shp]) (by decide))
 generalize hR : (kids.map (kkAt t)).map rl = R at hrl HI ⊢
 clear hr x0 x1 x2 x3 x4; by_cases h1 : R = [101, 101]
 ·
  subst h1
  go_wp2_with fail; go_ret; exact ⟨ret_bool' (by rw [HI.out]; rfl), L1⟩
 have q1 := roles_ne h1
 have H1 : Hid (¬ R = [101, 101]) := h1
 clear h1; go_wp2_with fail; go_ret; exact ⟨ret_bool' (by rw [HI.out, decide_eq_false H1.out]), L1⟩
set_option maxRecDepth 100000 in
set_option maxHeartbeats 4000000 in
theorem okids_9 (t : Tre) (tx : ByteArray) (q : Int) (s s1 : Option Addr) (c c1 : Nat) (kids : List Int) (B C : Nat) (w : World) (hL : Els 1 cInt w B s kids) (hN : Els 4 cNode w C s1 t.nodes) (hv : ∀ x ∈ kids, ∃ m : Nat, x = m ∧ m < t.nodes.length) (hl : kids.length ≤ 1048576) (hn : t.nodes.length ≤ 1048576) :
  Calls Tryz.prog 37 #[.agg #[.int .i64 9, .string tx, .int .i64 q, .slice s kids.length c], .slice s1 t.nodes.length c1] w (KidSays t 9 kids w) := by
 have k0 := Blk.new w #[.int .i64 9, .string tx, .int .i64 q, .slice s kids.length c] 66
 have L0 := bl_alloc (Below.refl _ w) (.cells #[.int .i64 9, .string tx, .int .i64 q, .slice s kids.length c] 66)
 obtain ⟨x0, x1, x2, x3, x4⟩ := k0.four'
 have hr := rolesOf_any t s s1 c c1 kids B C _ (hL.later cInt_keeps L0) (hN.later cNode_keeps L0) hv hl hn
 go_enter Tryz.func37, Tryz.ntmps37
 go_wp2_with fail; refine hr.mono ?_
 rintro e w1 ⟨rfl, hb1⟩
 have L1 := bl_trans L0 hb1
 obtain ⟨y0, y1, y2, y3, y4⟩ := (k0.later hb1).four'
 have hrl : (((kids.map (kkAt t)).map rl)).length ≤ 1048576 := by simp; exact hl
 have HI : Hid (kidB 9 (kids.map (kkAt t)) = decide ((kids.map (kkAt t)).map rl = [101])) := kidB_iff (kids_const [1] (fun n => by simp [shp]) (by decide))
 generalize hR : (kids.map (kkAt t)).map rl = R at hrl HI ⊢
 clear hr x0 x1 x2 x3 x4; by_cases h1 : R = [101]
 ·
  subst h1
  go_wp2_with fail; go_ret; exact ⟨ret_bool' (by rw [HI.out]; rfl), L1⟩
 have q1 := roles_ne h1
 have H1 : Hid (¬ R = [101]) := h1
 clear h1; go_wp2_with fail; go_ret; exact ⟨ret_bool' (by rw [HI.out, decide_eq_false H1.out]), L1⟩
set_option maxRecDepth 100000 in
set_option maxHeartbeats 4000000 in
theorem okids_10 (t : Tre) (tx : ByteArray) (q : Int) (s s1 : Option Addr) (c c1 : Nat) (kids : List Int) (B C : Nat) (w : World) (hL : Els 1 cInt w B s kids) (hN : Els 4 cNode w C s1 t.nodes) (hv : ∀ x ∈ kids, ∃ m : Nat, x = m ∧ m < t.nodes.length) (hl : kids.length ≤ 1048576) (hn : t.nodes.length ≤ 1048576) :
  Calls Tryz.prog 37 #[.agg #[.int .i64 10, .string tx, .int .i64 q, .slice s kids.length c], .slice s1 t.nodes.length c1] w (KidSays t 10 kids w) := by
 have k0 := Blk.new w #[.int .i64 10, .string tx, .int .i64 q, .slice s kids.length c] 66
 have L0 := bl_alloc (Below.refl _ w) (.cells #[.int .i64 10, .string tx, .int .i64 q, .slice s kids.length c] 66)
 obtain ⟨x0, x1, x2, x3, x4⟩ := k0.four'
 have hr := rolesOf_any t s s1 c c1 kids B C _ (hL.later cInt_keeps L0) (hN.later cNode_keeps L0) hv hl hn
 go_enter Tryz.func37, Tryz.ntmps37
 go_wp2_with fail; refine hr.mono ?_
 rintro e w1 ⟨rfl, hb1⟩
 have L1 := bl_trans L0 hb1
 obtain ⟨y0, y1, y2, y3, y4⟩ := (k0.later hb1).four'
 have hrl : (((kids.map (kkAt t)).map rl)).length ≤ 1048576 := by simp; exact hl
 have HI : Hid (kidB 10 (kids.map (kkAt t)) = decide ((kids.map (kkAt t)).map rl = [101, 101])) := kidB_iff (kids_const [1, 1] (fun n => by simp [shp]) (by decide))
 generalize hR : (kids.map (kkAt t)).map rl = R at hrl HI ⊢
 clear hr x0 x1 x2 x3 x4; by_cases h1 : R = [101, 101]
 ·
  subst h1
  go_wp2_with fail; go_ret; exact ⟨ret_bool' (by rw [HI.out]; rfl), L1⟩
 have q1 := roles_ne h1
 have H1 : Hid (¬ R = [101, 101]) := h1
 clear h1; go_wp2_with fail; go_ret; exact ⟨ret_bool' (by rw [HI.out, decide_eq_false H1.out]), L1⟩
set_option maxRecDepth 100000 in
set_option maxHeartbeats 4000000 in
theorem okids_11 (t : Tre) (tx : ByteArray) (q : Int) (s s1 : Option Addr) (c c1 : Nat) (kids : List Int) (B C : Nat) (w : World) (hL : Els 1 cInt w B s kids) (hN : Els 4 cNode w C s1 t.nodes) (hv : ∀ x ∈ kids, ∃ m : Nat, x = m ∧ m < t.nodes.length) (hl : kids.length ≤ 1048576) (hn : t.nodes.length ≤ 1048576) :
  Calls Tryz.prog 37 #[.agg #[.int .i64 11, .string tx, .int .i64 q, .slice s kids.length c], .slice s1 t.nodes.length c1] w (KidSays t 11 kids w) := by
 have k0 := Blk.new w #[.int .i64 11, .string tx, .int .i64 q, .slice s kids.length c] 66
 have L0 := bl_alloc (Below.refl _ w) (.cells #[.int .i64 11, .string tx, .int .i64 q, .slice s kids.length c] 66)
 obtain ⟨x0, x1, x2, x3, x4⟩ := k0.four'
 have hr := rolesOf_any t s s1 c c1 kids B C _ (hL.later cInt_keeps L0) (hN.later cNode_keeps L0) hv hl hn
 go_enter Tryz.func37, Tryz.ntmps37
 go_wp2_with fail; refine hr.mono ?_
 rintro e w1 ⟨rfl, hb1⟩
 have L1 := bl_trans L0 hb1
 obtain ⟨y0, y1, y2, y3, y4⟩ := (k0.later hb1).four'
 have hrl : (((kids.map (kkAt t)).map rl)).length ≤ 1048576 := by simp; exact hl
 have HI : Hid (kidB 11 (kids.map (kkAt t)) = @decide (∃ r, (kids.map (kkAt t)).map rl = 101 :: 110 :: r ∧ ∀ b ∈ r, b = 110) (Classical.propDecidable _)) := by classical exact kidB_iff kids_pick
 generalize hR : (kids.map (kkAt t)).map rl = R at hrl HI ⊢
 clear hr x0 x1 x2 x3 x4; by_cases h1 : ∃ r, R = 101 :: 110 :: r
 ·
  obtain ⟨r, rfl⟩ := h1
  have hp : Lib.hasPrefix (101 :: 110 :: r) [101, 110] = true := by simp [Lib.hasPrefix]
  have hle : (110 :: r).length ≤ 1048576 := by simp at hrl ⊢; omega
  have he : (⟨(101 :: 110 :: r).toArray⟩ : ByteArray).extract 1 (r.length + 1 + 1) = ⟨(110 :: r).toArray⟩ := by apply ByteArray.ext; simp
  go_wp2_with (go_at_call 55; refine (Any.strings_HasPrefix Tryz.laysHasPre _ _ _).mono ?_; rintro e w2 ⟨rfl, rfl⟩; rw [hp])
  refine (only_any (110 :: r) 110 (by decide) hle _).mono ?_
  rintro e w3 ⟨rfl, hb3⟩
  go_wp2_with fail; go_ret; refine ⟨ret_bool' ?_, bl_trans L1 hb3⟩
  rw [HI.out]
  rw [decide_eq_decide]
  constructor
  ·
   intro h
   exact ⟨r, rfl, fun b hb => h b (by simp [hb])⟩
  rintro ⟨r', e, h⟩ b hb
  simp at e
  subst e
  exact h b hb
 have hp : Lib.hasPrefix R [101, 110] = false := by
  cases hh : Lib.hasPrefix R [101, 110] with
  | false => rfl
  | true =>
   exfalso
   apply h1
   unfold Lib.hasPrefix at hh
   rw [List.isPrefixOf_iff_prefix] at hh
   obtain ⟨r, hr⟩ := hh
   exact ⟨r, by rw [← hr]; rfl⟩
 have H1 : Hid (¬ ∃ r, R = 101 :: 110 :: r) := h1
 clear h1; go_wp2_with (go_at_call 55; refine (Any.strings_HasPrefix Tryz.laysHasPre _ _ _).mono ?_; rintro e w2 ⟨rfl, rfl⟩; rw [hp])
 go_ret; exact ⟨ret_bool' (by rw [HI.out]; symm; exact @decide_eq_false _ (Classical.propDecidable _) (fun ⟨r, h, _⟩ => H1.out ⟨r, h⟩)), L1⟩
set_option maxRecDepth 100000 in
set_option maxHeartbeats 4000000 in
theorem okids_12 (t : Tre) (tx : ByteArray) (q : Int) (s s1 : Option Addr) (c c1 : Nat) (kids : List Int) (B C : Nat) (w : World) (hL : Els 1 cInt w B s kids) (hN : Els 4 cNode w C s1 t.nodes) (hv : ∀ x ∈ kids, ∃ m : Nat, x = m ∧ m < t.nodes.length) (hl : kids.length ≤ 1048576) (hn : t.nodes.length ≤ 1048576) :
  Calls Tryz.prog 37 #[.agg #[.int .i64 12, .string tx, .int .i64 q, .slice s kids.length c], .slice s1 t.nodes.length c1] w (KidSays t 12 kids w) := by
 have k0 := Blk.new w #[.int .i64 12, .string tx, .int .i64 q, .slice s kids.length c] 66
 have L0 := bl_alloc (Below.refl _ w) (.cells #[.int .i64 12, .string tx, .int .i64 q, .slice s kids.length c] 66)
 obtain ⟨x0, x1, x2, x3, x4⟩ := k0.four'
 have hr := rolesOf_any t s s1 c c1 kids B C _ (hL.later cInt_keeps L0) (hN.later cNode_keeps L0) hv hl hn
 go_enter Tryz.func37, Tryz.ntmps37
 go_wp2_with fail; refine hr.mono ?_
 rintro e w1 ⟨rfl, hb1⟩
 have L1 := bl_trans L0 hb1
 obtain ⟨y0, y1, y2, y3, y4⟩ := (k0.later hb1).four'
 have hrl : (((kids.map (kkAt t)).map rl)).length ≤ 1048576 := by simp; exact hl
 have HI : Hid (kidB 12 (kids.map (kkAt t)) = decide ((kids.map (kkAt t)).map rl = [101])) := kidB_iff (kids_const [1] (fun n => by simp [shp]) (by decide))
 generalize hR : (kids.map (kkAt t)).map rl = R at hrl HI ⊢
 clear hr x0 x1 x2 x3 x4; by_cases h1 : R = [101]
 ·
  subst h1
  go_wp2_with fail; go_ret; exact ⟨ret_bool' (by rw [HI.out]; rfl), L1⟩
 have q1 := roles_ne h1
 have H1 : Hid (¬ R = [101]) := h1
 clear h1; go_wp2_with fail; go_ret; exact ⟨ret_bool' (by rw [HI.out, decide_eq_false H1.out]), L1⟩
set_option maxRecDepth 100000 in
set_option maxHeartbeats 4000000 in
theorem okids_13 (t : Tre) (tx : ByteArray) (q : Int) (s s1 : Option Addr) (c c1 : Nat) (kids : List Int) (B C : Nat) (w : World) (hL : Els 1 cInt w B s kids) (hN : Els 4 cNode w C s1 t.nodes) (hv : ∀ x ∈ kids, ∃ m : Nat, x = m ∧ m < t.nodes.length) (hl : kids.length ≤ 1048576) (hn : t.nodes.length ≤ 1048576) :
  Calls Tryz.prog 37 #[.agg #[.int .i64 13, .string tx, .int .i64 q, .slice s kids.length c], .slice s1 t.nodes.length c1] w (KidSays t 13 kids w) := by
 have k0 := Blk.new w #[.int .i64 13, .string tx, .int .i64 q, .slice s kids.length c] 66
 have L0 := bl_alloc (Below.refl _ w) (.cells #[.int .i64 13, .string tx, .int .i64 q, .slice s kids.length c] 66)
 obtain ⟨x0, x1, x2, x3, x4⟩ := k0.four'
 have hr := rolesOf_any t s s1 c c1 kids B C _ (hL.later cInt_keeps L0) (hN.later cNode_keeps L0) hv hl hn
 go_enter Tryz.func37, Tryz.ntmps37
 go_wp2_with fail; refine hr.mono ?_
 rintro e w1 ⟨rfl, hb1⟩
 have L1 := bl_trans L0 hb1
 obtain ⟨y0, y1, y2, y3, y4⟩ := (k0.later hb1).four'
 have hrl : (((kids.map (kkAt t)).map rl)).length ≤ 1048576 := by simp; exact hl
 have HI : Hid (kidB 13 (kids.map (kkAt t)) = decide ((kids.map (kkAt t)).map rl = [101])) := kidB_iff (kids_const [1] (fun n => by simp [shp]) (by decide))
 generalize hR : (kids.map (kkAt t)).map rl = R at hrl HI ⊢
 clear hr x0 x1 x2 x3 x4; by_cases h1 : R = [101]
 ·
  subst h1
  go_wp2_with fail; go_ret; exact ⟨ret_bool' (by rw [HI.out]; rfl), L1⟩
 have q1 := roles_ne h1
 have H1 : Hid (¬ R = [101]) := h1
 clear h1; go_wp2_with fail; go_ret; exact ⟨ret_bool' (by rw [HI.out, decide_eq_false H1.out]), L1⟩
set_option maxRecDepth 100000 in
set_option maxHeartbeats 4000000 in
theorem okids_14 (t : Tre) (tx : ByteArray) (q : Int) (s s1 : Option Addr) (c c1 : Nat) (kids : List Int) (B C : Nat) (w : World) (hL : Els 1 cInt w B s kids) (hN : Els 4 cNode w C s1 t.nodes) (hv : ∀ x ∈ kids, ∃ m : Nat, x = m ∧ m < t.nodes.length) (hl : kids.length ≤ 1048576) (hn : t.nodes.length ≤ 1048576) :
  Calls Tryz.prog 37 #[.agg #[.int .i64 14, .string tx, .int .i64 q, .slice s kids.length c], .slice s1 t.nodes.length c1] w (KidSays t 14 kids w) := by
 have k0 := Blk.new w #[.int .i64 14, .string tx, .int .i64 q, .slice s kids.length c] 66
 have L0 := bl_alloc (Below.refl _ w) (.cells #[.int .i64 14, .string tx, .int .i64 q, .slice s kids.length c] 66)
 obtain ⟨x0, x1, x2, x3, x4⟩ := k0.four'
 have hr := rolesOf_any t s s1 c c1 kids B C _ (hL.later cInt_keeps L0) (hN.later cNode_keeps L0) hv hl hn
 go_enter Tryz.func37, Tryz.ntmps37
 go_wp2_with fail; refine hr.mono ?_
 rintro e w1 ⟨rfl, hb1⟩
 have L1 := bl_trans L0 hb1
 obtain ⟨y0, y1, y2, y3, y4⟩ := (k0.later hb1).four'
 have hrl : (((kids.map (kkAt t)).map rl)).length ≤ 1048576 := by simp; exact hl
 have HI : Hid (kidB 14 (kids.map (kkAt t)) = decide ((kids.map (kkAt t)).map rl = [101])) := kidB_iff (kids_const [1] (fun n => by simp [shp]) (by decide))
 generalize hR : (kids.map (kkAt t)).map rl = R at hrl HI ⊢
 clear hr x0 x1 x2 x3 x4; by_cases h1 : R = [101]
 ·
  subst h1
  go_wp2_with fail; go_ret; exact ⟨ret_bool' (by rw [HI.out]; rfl), L1⟩
 have q1 := roles_ne h1
 have H1 : Hid (¬ R = [101]) := h1
 clear h1; go_wp2_with fail; go_ret; exact ⟨ret_bool' (by rw [HI.out, decide_eq_false H1.out]), L1⟩
set_option maxRecDepth 100000 in
set_option maxHeartbeats 4000000 in
theorem okids_15 (t : Tre) (tx : ByteArray) (q : Int) (s s1 : Option Addr) (c c1 : Nat) (kids : List Int) (B C : Nat) (w : World) (hL : Els 1 cInt w B s kids) (hN : Els 4 cNode w C s1 t.nodes) (hv : ∀ x ∈ kids, ∃ m : Nat, x = m ∧ m < t.nodes.length) (hl : kids.length ≤ 1048576) (hn : t.nodes.length ≤ 1048576) :
  Calls Tryz.prog 37 #[.agg #[.int .i64 15, .string tx, .int .i64 q, .slice s kids.length c], .slice s1 t.nodes.length c1] w (KidSays t 15 kids w) := by
 have k0 := Blk.new w #[.int .i64 15, .string tx, .int .i64 q, .slice s kids.length c] 66
 have L0 := bl_alloc (Below.refl _ w) (.cells #[.int .i64 15, .string tx, .int .i64 q, .slice s kids.length c] 66)
 obtain ⟨x0, x1, x2, x3, x4⟩ := k0.four'
 have hr := rolesOf_any t s s1 c c1 kids B C _ (hL.later cInt_keeps L0) (hN.later cNode_keeps L0) hv hl hn
 go_enter Tryz.func37, Tryz.ntmps37
 go_wp2_with fail; refine hr.mono ?_
 rintro e w1 ⟨rfl, hb1⟩
 have L1 := bl_trans L0 hb1
 obtain ⟨y0, y1, y2, y3, y4⟩ := (k0.later hb1).four'
 have hrl : (((kids.map (kkAt t)).map rl)).length ≤ 1048576 := by simp; exact hl
 have HI : Hid (kidB 15 (kids.map (kkAt t)) = decide ((kids.map (kkAt t)).map rl = [101])) := kidB_iff (kids_const [1] (fun n => by simp [shp]) (by decide))
 generalize hR : (kids.map (kkAt t)).map rl = R at hrl HI ⊢
 clear hr x0 x1 x2 x3 x4; by_cases h1 : R = [101]
 ·
  subst h1
  go_wp2_with fail; go_ret; exact ⟨ret_bool' (by rw [HI.out]; rfl), L1⟩
 have q1 := roles_ne h1
 have H1 : Hid (¬ R = [101]) := h1
 clear h1; go_wp2_with fail; go_ret; exact ⟨ret_bool' (by rw [HI.out, decide_eq_false H1.out]), L1⟩
set_option maxRecDepth 100000 in
set_option maxHeartbeats 4000000 in
theorem okids_16 (t : Tre) (tx : ByteArray) (q : Int) (s s1 : Option Addr) (c c1 : Nat) (kids : List Int) (B C : Nat) (w : World) (hL : Els 1 cInt w B s kids) (hN : Els 4 cNode w C s1 t.nodes) (hv : ∀ x ∈ kids, ∃ m : Nat, x = m ∧ m < t.nodes.length) (hl : kids.length ≤ 1048576) (hn : t.nodes.length ≤ 1048576) :
  Calls Tryz.prog 37 #[.agg #[.int .i64 16, .string tx, .int .i64 q, .slice s kids.length c], .slice s1 t.nodes.length c1] w (KidSays t 16 kids w) := by
 have k0 := Blk.new w #[.int .i64 16, .string tx, .int .i64 q, .slice s kids.length c] 66
 have L0 := bl_alloc (Below.refl _ w) (.cells #[.int .i64 16, .string tx, .int .i64 q, .slice s kids.length c] 66)
 obtain ⟨x0, x1, x2, x3, x4⟩ := k0.four'
 have hr := rolesOf_any t s s1 c c1 kids B C _ (hL.later cInt_keeps L0) (hN.later cNode_keeps L0) hv hl hn
 go_enter Tryz.func37, Tryz.ntmps37
 go_wp2_with fail; refine hr.mono ?_
 rintro e w1 ⟨rfl, hb1⟩
 have L1 := bl_trans L0 hb1
 obtain ⟨y0, y1, y2, y3, y4⟩ := (k0.later hb1).four'
 have hrl : (((kids.map (kkAt t)).map rl)).length ≤ 1048576 := by simp; exact hl
 have HI : Hid (kidB 16 (kids.map (kkAt t)) = decide ((kids.map (kkAt t)).map rl = [101, 98] ∨ (kids.map (kkAt t)).map rl = [101, 98, 98])) := kidB_iff kids_if
 generalize hR : (kids.map (kkAt t)).map rl = R at hrl HI ⊢
 clear hr x0 x1 x2 x3 x4; by_cases h1 : R = [101, 98]
 ·
  subst h1
  go_wp2_with fail; go_ret; exact ⟨ret_bool' (by rw [HI.out]; rfl), L1⟩
 have q1 := roles_ne h1
 have H1 : Hid (¬ R = [101, 98]) := h1
 clear h1; by_cases h2 : R = [101, 98, 98]
 ·
  subst h2
  go_wp2_with fail; go_ret; exact ⟨ret_bool' (by rw [HI.out]; rfl), L1⟩
 have q2 := roles_ne h2
 have H2 : Hid (¬ R = [101, 98, 98]) := h2
 clear h2; go_wp2_with fail; go_ret; exact ⟨ret_bool' (by rw [HI.out, decide_eq_false (fun g => g.elim H1.out H2.out)]), L1⟩
set_option maxRecDepth 100000 in
set_option maxHeartbeats 4000000 in
theorem okids_17 (t : Tre) (tx : ByteArray) (q : Int) (s s1 : Option Addr) (c c1 : Nat) (kids : List Int) (B C : Nat) (w : World) (hL : Els 1 cInt w B s kids) (hN : Els 4 cNode w C s1 t.nodes) (hv : ∀ x ∈ kids, ∃ m : Nat, x = m ∧ m < t.nodes.length) (hl : kids.length ≤ 1048576) (hn : t.nodes.length ≤ 1048576) :
  Calls Tryz.prog 37 #[.agg #[.int .i64 17, .string tx, .int .i64 q, .slice s kids.length c], .slice s1 t.nodes.length c1] w (KidSays t 17 kids w) := by
 have k0 := Blk.new w #[.int .i64 17, .string tx, .int .i64 q, .slice s kids.length c] 66
 have L0 := bl_alloc (Below.refl _ w) (.cells #[.int .i64 17, .string tx, .int .i64 q, .slice s kids.length c] 66)
 obtain ⟨x0, x1, x2, x3, x4⟩ := k0.four'
 have hr := rolesOf_any t s s1 c c1 kids B C _ (hL.later cInt_keeps L0) (hN.later cNode_keeps L0) hv hl hn
 go_enter Tryz.func37, Tryz.ntmps37
 go_wp2_with fail; refine hr.mono ?_
 rintro e w1 ⟨rfl, hb1⟩
 have L1 := bl_trans L0 hb1
 obtain ⟨y0, y1, y2, y3, y4⟩ := (k0.later hb1).four'
 have hrl : (((kids.map (kkAt t)).map rl)).length ≤ 1048576 := by simp; exact hl
 have HI : Hid (kidB 17 (kids.map (kkAt t)) = decide ((kids.map (kkAt t)).map rl = [101, 98])) := kidB_iff (kids_const [1, 3] (fun n => by simp [shp]) (by decide))
 generalize hR : (kids.map (kkAt t)).map rl = R at hrl HI ⊢
 clear hr x0 x1 x2 x3 x4; by_cases h1 : R = [101, 98]
 ·
  subst h1
  go_wp2_with fail; go_ret; exact ⟨ret_bool' (by rw [HI.out]; rfl), L1⟩
 have q1 := roles_ne h1
 have H1 : Hid (¬ R = [101, 98]) := h1
 clear h1; go_wp2_with fail; go_ret; exact ⟨ret_bool' (by rw [HI.out, decide_eq_false H1.out]), L1⟩
set_option maxRecDepth 100000 in
set_option maxHeartbeats 4000000 in
theorem okids_18 (t : Tre) (tx : ByteArray) (q : Int) (s s1 : Option Addr) (c c1 : Nat) (kids : List Int) (B C : Nat) (w : World) (hL : Els 1 cInt w B s kids) (hN : Els 4 cNode w C s1 t.nodes) (hv : ∀ x ∈ kids, ∃ m : Nat, x = m ∧ m < t.nodes.length) (hl : kids.length ≤ 1048576) (hn : t.nodes.length ≤ 1048576) :
  Calls Tryz.prog 37 #[.agg #[.int .i64 18, .string tx, .int .i64 q, .slice s kids.length c], .slice s1 t.nodes.length c1] w (KidSays t 18 kids w) := by
 have k0 := Blk.new w #[.int .i64 18, .string tx, .int .i64 q, .slice s kids.length c] 66
 have L0 := bl_alloc (Below.refl _ w) (.cells #[.int .i64 18, .string tx, .int .i64 q, .slice s kids.length c] 66)
 obtain ⟨x0, x1, x2, x3, x4⟩ := k0.four'
 have hr := rolesOf_any t s s1 c c1 kids B C _ (hL.later cInt_keeps L0) (hN.later cNode_keeps L0) hv hl hn
 go_enter Tryz.func37, Tryz.ntmps37
 go_wp2_with fail; refine hr.mono ?_
 rintro e w1 ⟨rfl, hb1⟩
 have L1 := bl_trans L0 hb1
 obtain ⟨y0, y1, y2, y3, y4⟩ := (k0.later hb1).four'
 have hrl : (((kids.map (kkAt t)).map rl)).length ≤ 1048576 := by simp; exact hl
 have HI : Hid (kidB 18 (kids.map (kkAt t)) = decide ((kids.map (kkAt t)).map rl = [119, 111, 98])) := kidB_iff (kids_const [4, 5, 3] (fun n => by simp [shp]) (by decide))
 generalize hR : (kids.map (kkAt t)).map rl = R at hrl HI ⊢
 clear hr x0 x1 x2 x3 x4; by_cases h1 : R = [119, 111, 98]
 ·
  subst h1
  go_wp2_with fail; go_ret; exact ⟨ret_bool' (by rw [HI.out]; rfl), L1⟩
 have q1 := roles_ne h1
 have H1 : Hid (¬ R = [119, 111, 98]) := h1
 clear h1; go_wp2_with fail; go_ret; exact ⟨ret_bool' (by rw [HI.out, decide_eq_false H1.out]), L1⟩
set_option maxRecDepth 100000 in
set_option maxHeartbeats 4000000 in
theorem okids_19 (t : Tre) (tx : ByteArray) (q : Int) (s s1 : Option Addr) (c c1 : Nat) (kids : List Int) (B C : Nat) (w : World) (hL : Els 1 cInt w B s kids) (hN : Els 4 cNode w C s1 t.nodes) (hv : ∀ x ∈ kids, ∃ m : Nat, x = m ∧ m < t.nodes.length) (hl : kids.length ≤ 1048576) (hn : t.nodes.length ≤ 1048576) :
  Calls Tryz.prog 37 #[.agg #[.int .i64 19, .string tx, .int .i64 q, .slice s kids.length c], .slice s1 t.nodes.length c1] w (KidSays t 19 kids w) := by
 have k0 := Blk.new w #[.int .i64 19, .string tx, .int .i64 q, .slice s kids.length c] 66
 have L0 := bl_alloc (Below.refl _ w) (.cells #[.int .i64 19, .string tx, .int .i64 q, .slice s kids.length c] 66)
 obtain ⟨x0, x1, x2, x3, x4⟩ := k0.four'
 have hr := rolesOf_any t s s1 c c1 kids B C _ (hL.later cInt_keeps L0) (hN.later cNode_keeps L0) hv hl hn
 go_enter Tryz.func37, Tryz.ntmps37
 go_wp2_with fail; refine hr.mono ?_
 rintro e w1 ⟨rfl, hb1⟩
 have L1 := bl_trans L0 hb1
 obtain ⟨y0, y1, y2, y3, y4⟩ := (k0.later hb1).four'
 have hrl : (((kids.map (kkAt t)).map rl)).length ≤ 1048576 := by simp; exact hl
 have HI : Hid (kidB 19 (kids.map (kkAt t)) = decide ((kids.map (kkAt t)).map rl = [101])) := kidB_iff (kids_const [1] (fun n => by simp [shp]) (by decide))
 generalize hR : (kids.map (kkAt t)).map rl = R at hrl HI ⊢
 clear hr x0 x1 x2 x3 x4; by_cases h1 : R = [101]
 ·
  subst h1
  go_wp2_with fail; go_ret; exact ⟨ret_bool' (by rw [HI.out]; rfl), L1⟩
 have q1 := roles_ne h1
 have H1 : Hid (¬ R = [101]) := h1
 clear h1; go_wp2_with fail; go_ret; exact ⟨ret_bool' (by rw [HI.out, decide_eq_false H1.out]), L1⟩
set_option maxRecDepth 100000 in
set_option maxHeartbeats 4000000 in
theorem okids_20 (t : Tre) (tx : ByteArray) (q : Int) (s s1 : Option Addr) (c c1 : Nat) (kids : List Int) (B C : Nat) (w : World) (hL : Els 1 cInt w B s kids) (hN : Els 4 cNode w C s1 t.nodes) (hv : ∀ x ∈ kids, ∃ m : Nat, x = m ∧ m < t.nodes.length) (hl : kids.length ≤ 1048576) (hn : t.nodes.length ≤ 1048576) :
  Calls Tryz.prog 37 #[.agg #[.int .i64 20, .string tx, .int .i64 q, .slice s kids.length c], .slice s1 t.nodes.length c1] w (KidSays t 20 kids w) := by
 have k0 := Blk.new w #[.int .i64 20, .string tx, .int .i64 q, .slice s kids.length c] 66
 have L0 := bl_alloc (Below.refl _ w) (.cells #[.int .i64 20, .string tx, .int .i64 q, .slice s kids.length c] 66)
 obtain ⟨x0, x1, x2, x3, x4⟩ := k0.four'
 have hr := rolesOf_any t s s1 c c1 kids B C _ (hL.later cInt_keeps L0) (hN.later cNode_keeps L0) hv hl hn
 go_enter Tryz.func37, Tryz.ntmps37
 go_wp2_with fail; refine hr.mono ?_
 rintro e w1 ⟨rfl, hb1⟩
 have L1 := bl_trans L0 hb1
 obtain ⟨y0, y1, y2, y3, y4⟩ := (k0.later hb1).four'
 have hrl : (((kids.map (kkAt t)).map rl)).length ≤ 1048576 := by simp; exact hl
 have HI : Hid (kidB 20 (kids.map (kkAt t)) = decide ((kids.map (kkAt t)).map rl = [110, 98])) := kidB_iff (kids_const [6, 3] (fun n => by simp [shp]) (by decide))
 generalize hR : (kids.map (kkAt t)).map rl = R at hrl HI ⊢
 clear hr x0 x1 x2 x3 x4; by_cases h1 : R = [110, 98]
 ·
  subst h1
  go_wp2_with fail; go_ret; exact ⟨ret_bool' (by rw [HI.out]; rfl), L1⟩
 have q1 := roles_ne h1
 have H1 : Hid (¬ R = [110, 98]) := h1
 clear h1; go_wp2_with fail; go_ret; exact ⟨ret_bool' (by rw [HI.out, decide_eq_false H1.out]), L1⟩
set_option maxRecDepth 100000 in
set_option maxHeartbeats 4000000 in
theorem okids_21 (t : Tre) (tx : ByteArray) (q : Int) (s s1 : Option Addr) (c c1 : Nat) (kids : List Int) (B C : Nat) (w : World) (hL : Els 1 cInt w B s kids) (hN : Els 4 cNode w C s1 t.nodes) (hv : ∀ x ∈ kids, ∃ m : Nat, x = m ∧ m < t.nodes.length) (hl : kids.length ≤ 1048576) (hn : t.nodes.length ≤ 1048576) :
  Calls Tryz.prog 37 #[.agg #[.int .i64 21, .string tx, .int .i64 q, .slice s kids.length c], .slice s1 t.nodes.length c1] w (KidSays t 21 kids w) := by
 have k0 := Blk.new w #[.int .i64 21, .string tx, .int .i64 q, .slice s kids.length c] 66
 have L0 := bl_alloc (Below.refl _ w) (.cells #[.int .i64 21, .string tx, .int .i64 q, .slice s kids.length c] 66)
 obtain ⟨x0, x1, x2, x3, x4⟩ := k0.four'
 have hr := rolesOf_any t s s1 c c1 kids B C _ (hL.later cInt_keeps L0) (hN.later cNode_keeps L0) hv hl hn
 go_enter Tryz.func37, Tryz.ntmps37
 go_wp2_with fail; refine hr.mono ?_
 rintro e w1 ⟨rfl, hb1⟩
 have L1 := bl_trans L0 hb1
 obtain ⟨y0, y1, y2, y3, y4⟩ := (k0.later hb1).four'
 have hrl : (((kids.map (kkAt t)).map rl)).length ≤ 1048576 := by simp; exact hl
 have HI : Hid (kidB 21 (kids.map (kkAt t)) = decide (∀ b ∈ (kids.map (kkAt t)).map rl, b = 99)) := kidB_iff (kids_rep (c := 8) (fun n => by simp [shp]) (by decide))
 generalize hR : (kids.map (kkAt t)).map rl = R at hrl HI ⊢
 clear hr x0 x1 x2 x3 x4; go_wp2_with (go_at_call 38; refine (only_any _ 99 (by decide) hrl _).mono ?_; rintro e w2 ⟨rfl, hb2⟩)
 go_ret; exact ⟨ret_bool' (by rw [HI.out]), bl_trans L1 hb2⟩
set_option maxRecDepth 100000 in
set_option maxHeartbeats 4000000 in
theorem okids_22 (t : Tre) (tx : ByteArray) (q : Int) (s s1 : Option Addr) (c c1 : Nat) (kids : List Int) (B C : Nat) (w : World) (hL : Els 1 cInt w B s kids) (hN : Els 4 cNode w C s1 t.nodes) (hv : ∀ x ∈ kids, ∃ m : Nat, x = m ∧ m < t.nodes.length) (hl : kids.length ≤ 1048576) (hn : t.nodes.length ≤ 1048576) :
  Calls Tryz.prog 37 #[.agg #[.int .i64 22, .string tx, .int .i64 q, .slice s kids.length c], .slice s1 t.nodes.length c1] w (KidSays t 22 kids w) := by
 have k0 := Blk.new w #[.int .i64 22, .string tx, .int .i64 q, .slice s kids.length c] 66
 have L0 := bl_alloc (Below.refl _ w) (.cells #[.int .i64 22, .string tx, .int .i64 q, .slice s kids.length c] 66)
 obtain ⟨x0, x1, x2, x3, x4⟩ := k0.four'
 have hr := rolesOf_any t s s1 c c1 kids B C _ (hL.later cInt_keeps L0) (hN.later cNode_keeps L0) hv hl hn
 go_enter Tryz.func37, Tryz.ntmps37
 go_wp2_with fail; refine hr.mono ?_
 rintro e w1 ⟨rfl, hb1⟩
 have L1 := bl_trans L0 hb1
 obtain ⟨y0, y1, y2, y3, y4⟩ := (k0.later hb1).four'
 have hrl : (((kids.map (kkAt t)).map rl)).length ≤ 1048576 := by simp; exact hl
 have HI : Hid (kidB 22 (kids.map (kkAt t)) = decide ((kids.map (kkAt t)).map rl = [])) := kidB_iff (kids_const [] (fun n => by simp [shp]) (by decide))
 generalize hR : (kids.map (kkAt t)).map rl = R at hrl HI ⊢
 clear hr x0 x1 x2 x3 x4; by_cases h1 : R = []
 ·
  subst h1
  go_wp2_with fail; go_ret; exact ⟨ret_bool' (by rw [HI.out]; rfl), L1⟩
 have q1 := not_empty (not_nil_str h1)
 have H1 : Hid (¬ R = []) := h1
 clear h1; go_wp2_with fail; go_ret; exact ⟨ret_bool' (by rw [HI.out, decide_eq_false H1.out]; have h9 := not_empty (not_nil_str H1.out); simpa using h9), L1⟩
set_option maxRecDepth 100000 in
set_option maxHeartbeats 4000000 in
theorem okids_23 (t : Tre) (tx : ByteArray) (q : Int) (s s1 : Option Addr) (c c1 : Nat) (kids : List Int) (B C : Nat) (w : World) (hL : Els 1 cInt w B s kids) (hN : Els 4 cNode w C s1 t.nodes) (hv : ∀ x ∈ kids, ∃ m : Nat, x = m ∧ m < t.nodes.length) (hl : kids.length ≤ 1048576) (hn : t.nodes.length ≤ 1048576) :
  Calls Tryz.prog 37 #[.agg #[.int .i64 23, .string tx, .int .i64 q, .slice s kids.length c], .slice s1 t.nodes.length c1] w (KidSays t 23 kids w) := by
 have k0 := Blk.new w #[.int .i64 23, .string tx, .int .i64 q, .slice s kids.length c] 66
 have L0 := bl_alloc (Below.refl _ w) (.cells #[.int .i64 23, .string tx, .int .i64 q, .slice s kids.length c] 66)
 obtain ⟨x0, x1, x2, x3, x4⟩ := k0.four'
 have hr := rolesOf_any t s s1 c c1 kids B C _ (hL.later cInt_keeps L0) (hN.later cNode_keeps L0) hv hl hn
 go_enter Tryz.func37, Tryz.ntmps37
 go_wp2_with fail; refine hr.mono ?_
 rintro e w1 ⟨rfl, hb1⟩
 have L1 := bl_trans L0 hb1
 obtain ⟨y0, y1, y2, y3, y4⟩ := (k0.later hb1).four'
 have hrl : (((kids.map (kkAt t)).map rl)).length ≤ 1048576 := by simp; exact hl
 have HI : Hid (kidB 23 (kids.map (kkAt t)) = decide ((kids.map (kkAt t)).map rl = [101])) := kidB_iff (kids_const [1] (fun n => by simp [shp]) (by decide))
 generalize hR : (kids.map (kkAt t)).map rl = R at hrl HI ⊢
 clear hr x0 x1 x2 x3 x4; by_cases h1 : R = [101]
 ·
  subst h1
  go_wp2_with fail; go_ret; exact ⟨ret_bool' (by rw [HI.out]; rfl), L1⟩
 have q1 := roles_ne h1
 have H1 : Hid (¬ R = [101]) := h1
 clear h1; go_wp2_with fail; go_ret; exact ⟨ret_bool' (by rw [HI.out, decide_eq_false H1.out]), L1⟩
set_option maxRecDepth 100000 in
set_option maxHeartbeats 4000000 in
theorem okids_24 (t : Tre) (tx : ByteArray) (q : Int) (s s1 : Option Addr) (c c1 : Nat) (kids : List Int) (B C : Nat) (w : World) (hL : Els 1 cInt w B s kids) (hN : Els 4 cNode w C s1 t.nodes) (hv : ∀ x ∈ kids, ∃ m : Nat, x = m ∧ m < t.nodes.length) (hl : kids.length ≤ 1048576) (hn : t.nodes.length ≤ 1048576) :
  Calls Tryz.prog 37 #[.agg #[.int .i64 24, .string tx, .int .i64 q, .slice s kids.length c], .slice s1 t.nodes.length c1] w (KidSays t 24 kids w) := by
 have k0 := Blk.new w #[.int .i64 24, .string tx, .int .i64 q, .slice s kids.length c] 66
 have L0 := bl_alloc (Below.refl _ w) (.cells #[.int .i64 24, .string tx, .int .i64 q, .slice s kids.length c] 66)
 obtain ⟨x0, x1, x2, x3, x4⟩ := k0.four'
 have hr := rolesOf_any t s s1 c c1 kids B C _ (hL.later cInt_keeps L0) (hN.later cNode_keeps L0) hv hl hn
 go_enter Tryz.func37, Tryz.ntmps37
 go_wp2_with fail; refine hr.mono ?_
 rintro e w1 ⟨rfl, hb1⟩
 have L1 := bl_trans L0 hb1
 obtain ⟨y0, y1, y2, y3, y4⟩ := (k0.later hb1).four'
 have hrl : (((kids.map (kkAt t)).map rl)).length ≤ 1048576 := by simp; exact hl
 have HI : Hid (kidB 24 (kids.map (kkAt t)) = decide ((kids.map (kkAt t)).map rl = [])) := kidB_iff (kids_const [] (fun n => by simp [shp]) (by decide))
 generalize hR : (kids.map (kkAt t)).map rl = R at hrl HI ⊢
 clear hr x0 x1 x2 x3 x4; by_cases h1 : R = []
 ·
  subst h1
  go_wp2_with fail; go_ret; exact ⟨ret_bool' (by rw [HI.out]; rfl), L1⟩
 have q1 := not_empty (not_nil_str h1)
 have H1 : Hid (¬ R = []) := h1
 clear h1; go_wp2_with fail; go_ret; exact ⟨ret_bool' (by rw [HI.out, decide_eq_false H1.out]; have h9 := not_empty (not_nil_str H1.out); simpa using h9), L1⟩
set_option maxRecDepth 100000 in
set_option maxHeartbeats 4000000 in
theorem okids_25 (t : Tre) (tx : ByteArray) (q : Int) (s s1 : Option Addr) (c c1 : Nat) (kids : List Int) (B C : Nat) (w : World) (hL : Els 1 cInt w B s kids) (hN : Els 4 cNode w C s1 t.nodes) (hv : ∀ x ∈ kids, ∃ m : Nat, x = m ∧ m < t.nodes.length) (hl : kids.length ≤ 1048576) (hn : t.nodes.length ≤ 1048576) :
  Calls Tryz.prog 37 #[.agg #[.int .i64 25, .string tx, .int .i64 q, .slice s kids.length c], .slice s1 t.nodes.length c1] w (KidSays t 25 kids w) := by
 have k0 := Blk.new w #[.int .i64 25, .string tx, .int .i64 q, .slice s kids.length c] 66
 have L0 := bl_alloc (Below.refl _ w) (.cells #[.int .i64 25, .string tx, .int .i64 q, .slice s kids.length c] 66)
 obtain ⟨x0, x1, x2, x3, x4⟩ := k0.four'
 have hr := rolesOf_any t s s1 c c1 kids B C _ (hL.later cInt_keeps L0) (hN.later cNode_keeps L0) hv hl hn
 go_enter Tryz.func37, Tryz.ntmps37
 go_wp2_with fail; refine hr.mono ?_
 rintro e w1 ⟨rfl, hb1⟩
 have L1 := bl_trans L0 hb1
 obtain ⟨y0, y1, y2, y3, y4⟩ := (k0.later hb1).four'
 have hrl : (((kids.map (kkAt t)).map rl)).length ≤ 1048576 := by simp; exact hl
 have HI : Hid (kidB 25 (kids.map (kkAt t)) = decide ((kids.map (kkAt t)).map rl = [101] ∧ (kids.map (kkAt t))[0]? = some 7)) := kidB_iff kids_do
 generalize hR : (kids.map (kkAt t)).map rl = R at hrl HI ⊢
 have HR : Hid ((kids.map (kkAt t)).map rl = R) := hR
 clear hR; clear hr x0 x1 x2 x3 x4; by_cases h1 : R = [101]
 ·
  subst h1
  have hl1 : kids.length = 1 := by have := congrArg List.length HR.out; simpa using this
  obtain ⟨x, hx⟩ := get_some (show 0 < kids.length by omega)
  obtain ⟨m, rfl, hm⟩ := hv x (List.mem_of_getElem? hx)
  obtain ⟨nd, hnd⟩ := get_some hm
  obtain ⟨kb, ko, rfl, _, hkb, p0⟩ := eInt_cells (hL.later cInt_keeps L1) hx
  obtain ⟨b, o, rfl, _, hb, s9, c9, e0, _, _, _, _⟩ := eNode_cells (hN.later cNode_keeps L1) hnd
  have HK : Hid ((kids.map (kkAt t))[0]? = some nd.kind) := by show _ = _; simp [List.getElem?_map, hx, kkAt, hnd]
  have hmI : (m : Int) < (t.nodes.length : Int) := by omega
  have hl2 : 0 < kids.length := by omega
  simp only [Nat.add_zero] at p0
  clear hv hx hnd hL hN hl1; cases q7 : (nd.kind == 7)
  ·
   have HE : Hid (¬ nd.kind = 7) := by show ¬ _; simpa using q7
   go_wp2_with fail; go_ret; exact ⟨ret_bool' (by rw [HI.out, HK.out, decide_eq_false (fun g => HE.out (by simpa using g.2))]), L1⟩
  have HE : Hid (nd.kind = 7) := by show _ = _; simpa using q7
  go_wp2_with fail; go_ret; exact ⟨ret_bool' (by rw [HI.out, HK.out, HE.out]; rfl), L1⟩
 have q1 := roles_ne h1
 have H1 : Hid (¬ R = [101]) := h1
 clear h1; go_wp2_with fail; go_ret; exact ⟨ret_bool' (by rw [HI.out, decide_eq_false (fun g => H1.out g.1)]), L1⟩
set_option maxRecDepth 100000 in
set_option maxHeartbeats 4000000 in
theorem okids_26 (t : Tre) (tx : ByteArray) (q : Int) (s s1 : Option Addr) (c c1 : Nat) (kids : List Int) (B C : Nat) (w : World) (hL : Els 1 cInt w B s kids) (hN : Els 4 cNode w C s1 t.nodes) (hv : ∀ x ∈ kids, ∃ m : Nat, x = m ∧ m < t.nodes.length) (hl : kids.length ≤ 1048576) (hn : t.nodes.length ≤ 1048576) :
  Calls Tryz.prog 37 #[.agg #[.int .i64 26, .string tx, .int .i64 q, .slice s kids.length c], .slice s1 t.nodes.length c1] w (KidSays t 26 kids w) := by
 have k0 := Blk.new w #[.int .i64 26, .string tx, .int .i64 q, .slice s kids.length c] 66
 have L0 := bl_alloc (Below.refl _ w) (.cells #[.int .i64 26, .string tx, .int .i64 q, .slice s kids.length c] 66)
 obtain ⟨x0, x1, x2, x3, x4⟩ := k0.four'
 have hr := rolesOf_any t s s1 c c1 kids B C _ (hL.later cInt_keeps L0) (hN.later cNode_keeps L0) hv hl hn
 go_enter Tryz.func37, Tryz.ntmps37
 go_wp2_with fail; refine hr.mono ?_
 rintro e w1 ⟨rfl, hb1⟩
 have L1 := bl_trans L0 hb1
 obtain ⟨y0, y1, y2, y3, y4⟩ := (k0.later hb1).four'
 have hrl : (((kids.map (kkAt t)).map rl)).length ≤ 1048576 := by simp; exact hl
 have HI : Hid (kidB 26 (kids.map (kkAt t)) = decide ((kids.map (kkAt t)).map rl = [101])) := kidB_iff (kids_const [1] (fun n => by simp [shp]) (by decide))
 generalize hR : (kids.map (kkAt t)).map rl = R at hrl HI ⊢
 clear hr x0 x1 x2 x3 x4; by_cases h1 : R = [101]
 ·
  subst h1
  go_wp2_with fail; go_ret; exact ⟨ret_bool' (by rw [HI.out]; rfl), L1⟩
 have q1 := roles_ne h1
 have H1 : Hid (¬ R = [101]) := h1
 clear h1; go_wp2_with fail; go_ret; exact ⟨ret_bool' (by rw [HI.out, decide_eq_false H1.out]), L1⟩
set_option maxRecDepth 100000 in
set_option maxHeartbeats 4000000 in
theorem okids_27 (t : Tre) (tx : ByteArray) (q : Int) (s s1 : Option Addr) (c c1 : Nat) (kids : List Int) (B C : Nat) (w : World) (hL : Els 1 cInt w B s kids) (hN : Els 4 cNode w C s1 t.nodes) (hv : ∀ x ∈ kids, ∃ m : Nat, x = m ∧ m < t.nodes.length) (hl : kids.length ≤ 1048576) (hn : t.nodes.length ≤ 1048576) :
  Calls Tryz.prog 37 #[.agg #[.int .i64 27, .string tx, .int .i64 q, .slice s kids.length c], .slice s1 t.nodes.length c1] w (KidSays t 27 kids w) := by
 have k0 := Blk.new w #[.int .i64 27, .string tx, .int .i64 q, .slice s kids.length c] 66
 have L0 := bl_alloc (Below.refl _ w) (.cells #[.int .i64 27, .string tx, .int .i64 q, .slice s kids.length c] 66)
 obtain ⟨x0, x1, x2, x3, x4⟩ := k0.four'
 have hr := rolesOf_any t s s1 c c1 kids B C _ (hL.later cInt_keeps L0) (hN.later cNode_keeps L0) hv hl hn
 go_enter Tryz.func37, Tryz.ntmps37
 go_wp2_with fail; refine hr.mono ?_
 rintro e w1 ⟨rfl, hb1⟩
 have L1 := bl_trans L0 hb1
 obtain ⟨y0, y1, y2, y3, y4⟩ := (k0.later hb1).four'
 have hrl : (((kids.map (kkAt t)).map rl)).length ≤ 1048576 := by simp; exact hl
 have HI : Hid (kidB 27 (kids.map (kkAt t)) = decide (∀ b ∈ (kids.map (kkAt t)).map rl, b = 115)) := kidB_iff (kids_rep (c := 2) (fun n => by simp [shp]) (by decide))
 generalize hR : (kids.map (kkAt t)).map rl = R at hrl HI ⊢
 clear hr x0 x1 x2 x3 x4; go_wp2_with (go_at_call 38; refine (only_any _ 115 (by decide) hrl _).mono ?_; rintro e w2 ⟨rfl, hb2⟩)
 go_ret; exact ⟨ret_bool' (by rw [HI.out]), bl_trans L1 hb2⟩
set_option maxRecDepth 100000 in
set_option maxHeartbeats 4000000 in
theorem okids_28 (t : Tre) (tx : ByteArray) (q : Int) (s s1 : Option Addr) (c c1 : Nat) (kids : List Int) (B C : Nat) (w : World) (hL : Els 1 cInt w B s kids) (hN : Els 4 cNode w C s1 t.nodes) (hv : ∀ x ∈ kids, ∃ m : Nat, x = m ∧ m < t.nodes.length) (hl : kids.length ≤ 1048576) (hn : t.nodes.length ≤ 1048576) :
  Calls Tryz.prog 37 #[.agg #[.int .i64 28, .string tx, .int .i64 q, .slice s kids.length c], .slice s1 t.nodes.length c1] w (KidSays t 28 kids w) := by
 have k0 := Blk.new w #[.int .i64 28, .string tx, .int .i64 q, .slice s kids.length c] 66
 have L0 := bl_alloc (Below.refl _ w) (.cells #[.int .i64 28, .string tx, .int .i64 q, .slice s kids.length c] 66)
 obtain ⟨x0, x1, x2, x3, x4⟩ := k0.four'
 have hr := rolesOf_any t s s1 c c1 kids B C _ (hL.later cInt_keeps L0) (hN.later cNode_keeps L0) hv hl hn
 go_enter Tryz.func37, Tryz.ntmps37
 go_wp2_with fail; refine hr.mono ?_
 rintro e w1 ⟨rfl, hb1⟩
 have L1 := bl_trans L0 hb1
 obtain ⟨y0, y1, y2, y3, y4⟩ := (k0.later hb1).four'
 have hrl : (((kids.map (kkAt t)).map rl)).length ≤ 1048576 := by simp; exact hl
 have HI : Hid (kidB 28 (kids.map (kkAt t)) = decide ((kids.map (kkAt t)).map rl = [101])) := kidB_iff (kids_const [1] (fun n => by simp [shp]) (by decide))
 generalize hR : (kids.map (kkAt t)).map rl = R at hrl HI ⊢
 clear hr x0 x1 x2 x3 x4; by_cases h1 : R = [101]
 ·
  subst h1
  go_wp2_with fail; go_ret; exact ⟨ret_bool' (by rw [HI.out]; rfl), L1⟩
 have q1 := roles_ne h1
 have H1 : Hid (¬ R = [101]) := h1
 clear h1; go_wp2_with fail; go_ret; exact ⟨ret_bool' (by rw [HI.out, decide_eq_false H1.out]), L1⟩
set_option maxRecDepth 100000 in
set_option maxHeartbeats 4000000 in
theorem okids_29 (t : Tre) (tx : ByteArray) (q : Int) (s s1 : Option Addr) (c c1 : Nat) (kids : List Int) (B C : Nat) (w : World) (hL : Els 1 cInt w B s kids) (hN : Els 4 cNode w C s1 t.nodes) (hv : ∀ x ∈ kids, ∃ m : Nat, x = m ∧ m < t.nodes.length) (hl : kids.length ≤ 1048576) (hn : t.nodes.length ≤ 1048576) :
  Calls Tryz.prog 37 #[.agg #[.int .i64 29, .string tx, .int .i64 q, .slice s kids.length c], .slice s1 t.nodes.length c1] w (KidSays t 29 kids w) := by
 have k0 := Blk.new w #[.int .i64 29, .string tx, .int .i64 q, .slice s kids.length c] 66
 have L0 := bl_alloc (Below.refl _ w) (.cells #[.int .i64 29, .string tx, .int .i64 q, .slice s kids.length c] 66)
 obtain ⟨x0, x1, x2, x3, x4⟩ := k0.four'
 have hr := rolesOf_any t s s1 c c1 kids B C _ (hL.later cInt_keeps L0) (hN.later cNode_keeps L0) hv hl hn
 go_enter Tryz.func37, Tryz.ntmps37
 go_wp2_with fail; refine hr.mono ?_
 rintro e w1 ⟨rfl, hb1⟩
 have L1 := bl_trans L0 hb1
 obtain ⟨y0, y1, y2, y3, y4⟩ := (k0.later hb1).four'
 have hrl : (((kids.map (kkAt t)).map rl)).length ≤ 1048576 := by simp; exact hl
 have HI : Hid (kidB 29 (kids.map (kkAt t)) = decide (¬ (kids.map (kkAt t)).map rl = [] ∧ ∀ b ∈ (kids.map (kkAt t)).map rl, b = 110)) := kidB_iff kids_with
 generalize hR : (kids.map (kkAt t)).map rl = R at hrl HI ⊢
 clear hr x0 x1 x2 x3 x4; by_cases h1 : R = []
 ·
  subst h1
  go_wp2_with fail; go_ret; exact ⟨ret_bool' (by rw [HI.out]; rfl), L1⟩
 have q1 := not_empty (not_nil_str h1)
 have H1 : Hid (¬ R = []) := h1
 clear h1; go_wp2_with (go_at_call 38; refine (only_any _ 110 (by decide) hrl _).mono ?_; rintro e w2 ⟨rfl, hb2⟩)
 go_ret; refine ⟨ret_bool' ?_, bl_trans L1 hb2⟩
 rw [HI.out]
 have h5 := H1.out
 simp [h5]
set_option maxRecDepth 100000 in
set_option maxHeartbeats 4000000 in
theorem okids_30 (t : Tre) (tx : ByteArray) (q : Int) (s s1 : Option Addr) (c c1 : Nat) (kids : List Int) (B C : Nat) (w : World) (hL : Els 1 cInt w B s kids) (hN : Els 4 cNode w C s1 t.nodes) (hv : ∀ x ∈ kids, ∃ m : Nat, x = m ∧ m < t.nodes.length) (hl : kids.length ≤ 1048576) (hn : t.nodes.length ≤ 1048576) :
  Calls Tryz.prog 37 #[.agg #[.int .i64 30, .string tx, .int .i64 q, .slice s kids.length c], .slice s1 t.nodes.length c1] w (KidSays t 30 kids w) := by
 have k0 := Blk.new w #[.int .i64 30, .string tx, .int .i64 q, .slice s kids.length c] 66
 have L0 := bl_alloc (Below.refl _ w) (.cells #[.int .i64 30, .string tx, .int .i64 q, .slice s kids.length c] 66)
 obtain ⟨x0, x1, x2, x3, x4⟩ := k0.four'
 have hr := rolesOf_any t s s1 c c1 kids B C _ (hL.later cInt_keeps L0) (hN.later cNode_keeps L0) hv hl hn
 go_enter Tryz.func37, Tryz.ntmps37
 go_wp2_with fail; refine hr.mono ?_
 rintro e w1 ⟨rfl, hb1⟩
 have L1 := bl_trans L0 hb1
 obtain ⟨y0, y1, y2, y3, y4⟩ := (k0.later hb1).four'
 have hrl : (((kids.map (kkAt t)).map rl)).length ≤ 1048576 := by simp; exact hl
 have HI : Hid (kidB 30 (kids.map (kkAt t)) = decide (∀ b ∈ (kids.map (kkAt t)).map rl, b = 110)) := kidB_iff (kids_rep (c := 6) (fun n => by simp [shp]) (by decide))
 generalize hR : (kids.map (kkAt t)).map rl = R at hrl HI ⊢
 clear hr x0 x1 x2 x3 x4; go_wp2_with (go_at_call 38; refine (only_any _ 110 (by decide) hrl _).mono ?_; rintro e w2 ⟨rfl, hb2⟩)
 go_ret; exact ⟨ret_bool' (by rw [HI.out]), bl_trans L1 hb2⟩
set_option maxRecDepth 100000 in
set_option maxHeartbeats 4000000 in
theorem okids_31 (t : Tre) (tx : ByteArray) (q : Int) (s s1 : Option Addr) (c c1 : Nat) (kids : List Int) (B C : Nat) (w : World) (hL : Els 1 cInt w B s kids) (hN : Els 4 cNode w C s1 t.nodes) (hv : ∀ x ∈ kids, ∃ m : Nat, x = m ∧ m < t.nodes.length) (hl : kids.length ≤ 1048576) (hn : t.nodes.length ≤ 1048576) :
  Calls Tryz.prog 37 #[.agg #[.int .i64 31, .string tx, .int .i64 q, .slice s kids.length c], .slice s1 t.nodes.length c1] w (KidSays t 31 kids w) := by
 have k0 := Blk.new w #[.int .i64 31, .string tx, .int .i64 q, .slice s kids.length c] 66
 have L0 := bl_alloc (Below.refl _ w) (.cells #[.int .i64 31, .string tx, .int .i64 q, .slice s kids.length c] 66)
 obtain ⟨x0, x1, x2, x3, x4⟩ := k0.four'
 have hr := rolesOf_any t s s1 c c1 kids B C _ (hL.later cInt_keeps L0) (hN.later cNode_keeps L0) hv hl hn
 go_enter Tryz.func37, Tryz.ntmps37
 go_wp2_with fail; refine hr.mono ?_
 rintro e w1 ⟨rfl, hb1⟩
 have L1 := bl_trans L0 hb1
 obtain ⟨y0, y1, y2, y3, y4⟩ := (k0.later hb1).four'
 have hrl : (((kids.map (kkAt t)).map rl)).length ≤ 1048576 := by simp; exact hl
 have HI : Hid (kidB 31 (kids.map (kkAt t)) = decide ((kids.map (kkAt t)).map rl = [])) := kidB_iff (kids_const [] (fun n => by simp [shp]) (by decide))
 generalize hR : (kids.map (kkAt t)).map rl = R at hrl HI ⊢
 clear hr x0 x1 x2 x3 x4; by_cases h1 : R = []
 ·
  subst h1
  go_wp2_with fail; go_ret; exact ⟨ret_bool' (by rw [HI.out]; rfl), L1⟩
 have q1 := not_empty (not_nil_str h1)
 have H1 : Hid (¬ R = []) := h1
 clear h1; go_wp2_with fail; go_ret; exact ⟨ret_bool' (by rw [HI.out, decide_eq_false H1.out]; have h9 := not_empty (not_nil_str H1.out); simpa using h9), L1⟩
set_option maxRecDepth 100000 in
set_option maxHeartbeats 4000000 in
theorem okids_32 (t : Tre) (tx : ByteArray) (q : Int) (s s1 : Option Addr) (c c1 : Nat) (kids : List Int) (B C : Nat) (w : World) (hL : Els 1 cInt w B s kids) (hN : Els 4 cNode w C s1 t.nodes) (hv : ∀ x ∈ kids, ∃ m : Nat, x = m ∧ m < t.nodes.length) (hl : kids.length ≤ 1048576) (hn : t.nodes.length ≤ 1048576) :
  Calls Tryz.prog 37 #[.agg #[.int .i64 32, .string tx, .int .i64 q, .slice s kids.length c], .slice s1 t.nodes.length c1] w (KidSays t 32 kids w) := by
 have k0 := Blk.new w #[.int .i64 32, .string tx, .int .i64 q, .slice s kids.length c] 66
 have L0 := bl_alloc (Below.refl _ w) (.cells #[.int .i64 32, .string tx, .int .i64 q, .slice s kids.length c] 66)
 obtain ⟨x0, x1, x2, x3, x4⟩ := k0.four'
 have hr := rolesOf_any t s s1 c c1 kids B C _ (hL.later cInt_keeps L0) (hN.later cNode_keeps L0) hv hl hn
 go_enter Tryz.func37, Tryz.ntmps37
 go_wp2_with fail; refine hr.mono ?_
 rintro e w1 ⟨rfl, hb1⟩
 have L1 := bl_trans L0 hb1
 obtain ⟨y0, y1, y2, y3, y4⟩ := (k0.later hb1).four'
 have hrl : (((kids.map (kkAt t)).map rl)).length ≤ 1048576 := by simp; exact hl
 have HI : Hid (kidB 32 (kids.map (kkAt t)) = decide ((kids.map (kkAt t)).map rl = [])) := kidB_iff (kids_const [] (fun n => by simp [shp]) (by decide))
 generalize hR : (kids.map (kkAt t)).map rl = R at hrl HI ⊢
 clear hr x0 x1 x2 x3 x4; by_cases h1 : R = []
 ·
  subst h1
  go_wp2_with fail; go_ret; exact ⟨ret_bool' (by rw [HI.out]; rfl), L1⟩
 have q1 := not_empty (not_nil_str h1)
 have H1 : Hid (¬ R = []) := h1
 clear h1; go_wp2_with fail; go_ret; exact ⟨ret_bool' (by rw [HI.out, decide_eq_false H1.out]; have h9 := not_empty (not_nil_str H1.out); simpa using h9), L1⟩
set_option maxRecDepth 100000 in
set_option maxHeartbeats 4000000 in
theorem okids_33 (t : Tre) (tx : ByteArray) (q : Int) (s s1 : Option Addr) (c c1 : Nat) (kids : List Int) (B C : Nat) (w : World) (hL : Els 1 cInt w B s kids) (hN : Els 4 cNode w C s1 t.nodes) (hv : ∀ x ∈ kids, ∃ m : Nat, x = m ∧ m < t.nodes.length) (hl : kids.length ≤ 1048576) (hn : t.nodes.length ≤ 1048576) :
  Calls Tryz.prog 37 #[.agg #[.int .i64 33, .string tx, .int .i64 q, .slice s kids.length c], .slice s1 t.nodes.length c1] w (KidSays t 33 kids w) := by
 have k0 := Blk.new w #[.int .i64 33, .string tx, .int .i64 q, .slice s kids.length c] 66
 have L0 := bl_alloc (Below.refl _ w) (.cells #[.int .i64 33, .string tx, .int .i64 q, .slice s kids.length c] 66)
 obtain ⟨x0, x1, x2, x3, x4⟩ := k0.four'
 have hr := rolesOf_any t s s1 c c1 kids B C _ (hL.later cInt_keeps L0) (hN.later cNode_keeps L0) hv hl hn
 go_enter Tryz.func37, Tryz.ntmps37
 go_wp2_with fail; refine hr.mono ?_
 rintro e w1 ⟨rfl, hb1⟩
 have L1 := bl_trans L0 hb1
 obtain ⟨y0, y1, y2, y3, y4⟩ := (k0.later hb1).four'
 have hrl : (((kids.map (kkAt t)).map rl)).length ≤ 1048576 := by simp; exact hl
 have HI : Hid (kidB 33 (kids.map (kkAt t)) = @decide (∃ r, (kids.map (kkAt t)).map rl = r ++ [98] ∧ ∀ b ∈ r, b = 112) (Classical.propDecidable _)) := by classical exact kidB_iff kids_fn
 generalize hR : (kids.map (kkAt t)).map rl = R at hrl HI ⊢
 clear hr x0 x1 x2 x3 x4; have hT := fun W => Any.strings_TrimLeft_one Tryz.laysTrimLeft ⟨R.toArray⟩ 112 (by decide) W
 have hE : (⟨R.toArray⟩ : ByteArray).data.toList = R := by simp
 simp only [hE] at hT
 by_cases h1 : Lib.trimLeftB R 112 = [98]
 ·
  have HX : Hid (∃ r, R = r ++ [98] ∧ ∀ b ∈ r, b = 112) := ⟨R.takeWhile (· == 112), by rw [← h1]; exact (List.takeWhile_append_dropWhile (p := (· == 112)) (l := R)).symm, fun b hb => by
   have := List.all_takeWhile (p := (· == (112 : UInt8))) (l := R)
   rw [List.all_eq_true] at this
   simpa using this b hb⟩
  rw [h1] at hT
  clear h1; go_wp2_with (go_at_call 56; refine (hT _).mono ?_; rintro e w2 ⟨rfl, rfl⟩)
  go_ret; exact ⟨ret_bool' (by rw [HI.out]; symm; exact @decide_eq_true _ (Classical.propDecidable _) HX.out), L1⟩
 have HX : Hid (¬ ∃ r, R = r ++ [98] ∧ ∀ b ∈ r, b = 112) := by
  rintro ⟨r, e, hr⟩
  apply h1
  rw [e]
  unfold Lib.trimLeftB
  rw [List.dropWhile_append, dropWhile_nil.2 (fun b hb => by simp [hr b hb])]
  rfl
 have q1 := roles_ne h1
 generalize Lib.trimLeftB R 112 = T at hT q1
 clear h1; go_wp2_with (go_at_call 56; refine (hT _).mono ?_; rintro e w2 ⟨rfl, rfl⟩)
 go_ret; exact ⟨ret_bool' (by rw [HI.out]; symm; exact @decide_eq_false _ (Classical.propDecidable _) HX.out), L1⟩
set_option maxRecDepth 100000 in
set_option maxHeartbeats 4000000 in
theorem okids_34 (t : Tre) (tx : ByteArray) (q : Int) (s s1 : Option Addr) (c c1 : Nat) (kids : List Int) (B C : Nat) (w : World) (hL : Els 1 cInt w B s kids) (hN : Els 4 cNode w C s1 t.nodes) (hv : ∀ x ∈ kids, ∃ m : Nat, x = m ∧ m < t.nodes.length) (hl : kids.length ≤ 1048576) (hn : t.nodes.length ≤ 1048576) :
  Calls Tryz.prog 37 #[.agg #[.int .i64 34, .string tx, .int .i64 q, .slice s kids.length c], .slice s1 t.nodes.length c1] w (KidSays t 34 kids w) := by
 have k0 := Blk.new w #[.int .i64 34, .string tx, .int .i64 q, .slice s kids.length c] 66
 have L0 := bl_alloc (Below.refl _ w) (.cells #[.int .i64 34, .string tx, .int .i64 q, .slice s kids.length c] 66)
 obtain ⟨x0, x1, x2, x3, x4⟩ := k0.four'
 have hr := rolesOf_any t s s1 c c1 kids B C _ (hL.later cInt_keeps L0) (hN.later cNode_keeps L0) hv hl hn
 go_enter Tryz.func37, Tryz.ntmps37
 go_wp2_with fail; refine hr.mono ?_
 rintro e w1 ⟨rfl, hb1⟩
 have L1 := bl_trans L0 hb1
 obtain ⟨y0, y1, y2, y3, y4⟩ := (k0.later hb1).four'
 have hrl : (((kids.map (kkAt t)).map rl)).length ≤ 1048576 := by simp; exact hl
 have HI : Hid (kidB 34 (kids.map (kkAt t)) = decide ((kids.map (kkAt t)).map rl = [98])) := kidB_iff (kids_const [3] (fun n => by simp [shp]) (by decide))
 generalize hR : (kids.map (kkAt t)).map rl = R at hrl HI ⊢
 clear hr x0 x1 x2 x3 x4; by_cases h1 : R = [98]
 ·
  subst h1
  go_wp2_with fail; go_ret; exact ⟨ret_bool' (by rw [HI.out]; rfl), L1⟩
 have q1 := roles_ne h1
 have H1 : Hid (¬ R = [98]) := h1
 clear h1; go_wp2_with fail; go_ret; exact ⟨ret_bool' (by rw [HI.out, decide_eq_false H1.out]), L1⟩
set_option maxRecDepth 100000 in
set_option maxHeartbeats 4000000 in
theorem kidsFit_none (k : Int) (hk : k < 1 ∨ 34 < k) (t : Tre) (tx : ByteArray) (q : Int) (s s1 : Option Addr) (c c1 : Nat) (kids : List Int) (B C : Nat) (w : World) (hL : Els 1 cInt w B s kids) (hN : Els 4 cNode w C s1 t.nodes) (hv : ∀ x ∈ kids, ∃ m : Nat, x = m ∧ m < t.nodes.length) (hl : kids.length ≤ 1048576) (hn : t.nodes.length ≤ 1048576) :
  Calls Tryz.prog 37 #[.agg #[.int .i64 k, .string tx, .int .i64 q, .slice s kids.length c], .slice s1 t.nodes.length c1] w (KidSays t k kids w) := by
 have k0 := Blk.new w #[.int .i64 k, .string tx, .int .i64 q, .slice s kids.length c] 66
 have L0 := bl_alloc (Below.refl _ w) (.cells #[.int .i64 k, .string tx, .int .i64 q, .slice s kids.length c] 66)
 obtain ⟨x0, x1, x2, x3, x4⟩ := k0.four'
 have hr := rolesOf_any t s s1 c c1 kids B C _ (hL.later cInt_keeps L0) (hN.later cNode_keeps L0) hv hl hn
 have HN := noKind hk
 have g7 := HN.ne 7 (by omega) (by omega)
 have g8 := HN.ne 8 (by omega) (by omega)
 have g9 := HN.ne 9 (by omega) (by omega)
 have g10 := HN.ne 10 (by omega) (by omega)
 have g11 := HN.ne 11 (by omega) (by omega)
 have g12 := HN.ne 12 (by omega) (by omega)
 have g13 := HN.ne 13 (by omega) (by omega)
 have g14 := HN.ne 14 (by omega) (by omega)
 have g15 := HN.ne 15 (by omega) (by omega)
 have g16 := HN.ne 16 (by omega) (by omega)
 have g17 := HN.ne 17 (by omega) (by omega)
 have g18 := HN.ne 18 (by omega) (by omega)
 have g19 := HN.ne 19 (by omega) (by omega)
 have g20 := HN.ne 20 (by omega) (by omega)
 have g21 := HN.ne 21 (by omega) (by omega)
 have g23 := HN.ne 23 (by omega) (by omega)
 have g25 := HN.ne 25 (by omega) (by omega)
 have g26 := HN.ne 26 (by omega) (by omega)
 have g27 := HN.ne 27 (by omega) (by omega)
 have g28 := HN.ne 28 (by omega) (by omega)
 have g29 := HN.ne 29 (by omega) (by omega)
 have g30 := HN.ne 30 (by omega) (by omega)
 have g33 := HN.ne 33 (by omega) (by omega)
 have g34 := HN.ne 34 (by omega) (by omega)
 clear HN; go_enter Tryz.func37, Tryz.ntmps37
 go_wp2_with fail; refine hr.mono ?_
 rintro e w1 ⟨rfl, hb1⟩
 have L1 := bl_trans L0 hb1
 obtain ⟨y0, y1, y2, y3, y4⟩ := (k0.later hb1).four'
 have hrl : (((kids.map (kkAt t)).map rl)).length ≤ 1048576 := by simp; exact hl
 have HI : Hid (kidB k (kids.map (kkAt t)) = decide ((kids.map (kkAt t)).map rl = [])) := kidB_iff (kids_none hk)
 generalize hR : (kids.map (kkAt t)).map rl = R at hrl HI ⊢
 clear hr x0 x1 x2 x3 x4; by_cases h1 : R = []
 ·
  subst h1
  go_wp2_with fail; go_ret; exact ⟨ret_bool' (by rw [HI.out]; rfl), L1⟩
 have q1 := not_empty (not_nil_str h1)
 have H1 : Hid (¬ R = []) := h1
 clear h1; go_wp2_with fail; go_ret; exact ⟨ret_bool' (by rw [HI.out, decide_eq_false H1.out]; have h9 := not_empty (not_nil_str H1.out); simpa using h9), L1⟩
theorem kidsFit_any (k : Int) (t : Tre) (tx : ByteArray) (q : Int) (s s1 : Option Addr) (c c1 : Nat) (kids : List Int) (B C : Nat) (w : World) (hL : Els 1 cInt w B s kids) (hN : Els 4 cNode w C s1 t.nodes) (hv : ∀ x ∈ kids, ∃ m : Nat, x = m ∧ m < t.nodes.length) (hl : kids.length ≤ 1048576) (hn : t.nodes.length ≤ 1048576) :
  Calls Tryz.prog 37 #[.agg #[.int .i64 k, .string tx, .int .i64 q, .slice s kids.length c], .slice s1 t.nodes.length c1] w (KidSays t k kids w) := by
 rcases kind_split k with h | h | rfl | rfl | rfl | rfl | rfl | rfl | rfl | rfl | rfl | rfl | rfl | rfl | rfl | rfl | rfl | rfl | rfl | rfl | rfl | rfl | rfl | rfl | rfl | rfl | rfl | rfl | rfl | rfl | rfl | rfl | rfl | rfl | rfl | rfl
 ·
  exact kidsFit_none k (Or.inl h) t tx q s s1 c c1 kids B C w hL hN hv hl hn
 ·
  exact kidsFit_none k (Or.inr h) t tx q s s1 c c1 kids B C w hL hN hv hl hn
 ·
  exact okids_1 t tx q s s1 c c1 kids B C w hL hN hv hl hn
 ·
  exact okids_2 t tx q s s1 c c1 kids B C w hL hN hv hl hn
 ·
  exact okids_3 t tx q s s1 c c1 kids B C w hL hN hv hl hn
 ·
  exact okids_4 t tx q s s1 c c1 kids B C w hL hN hv hl hn
 ·
  exact okids_5 t tx q s s1 c c1 kids B C w hL hN hv hl hn
 ·
  exact okids_6 t tx q s s1 c c1 kids B C w hL hN hv hl hn
 ·
  exact okids_7 t tx q s s1 c c1 kids B C w hL hN hv hl hn
 ·
  exact okids_8 t tx q s s1 c c1 kids B C w hL hN hv hl hn
 ·
  exact okids_9 t tx q s s1 c c1 kids B C w hL hN hv hl hn
 ·
  exact okids_10 t tx q s s1 c c1 kids B C w hL hN hv hl hn
 ·
  exact okids_11 t tx q s s1 c c1 kids B C w hL hN hv hl hn
 ·
  exact okids_12 t tx q s s1 c c1 kids B C w hL hN hv hl hn
 ·
  exact okids_13 t tx q s s1 c c1 kids B C w hL hN hv hl hn
 ·
  exact okids_14 t tx q s s1 c c1 kids B C w hL hN hv hl hn
 ·
  exact okids_15 t tx q s s1 c c1 kids B C w hL hN hv hl hn
 ·
  exact okids_16 t tx q s s1 c c1 kids B C w hL hN hv hl hn
 ·
  exact okids_17 t tx q s s1 c c1 kids B C w hL hN hv hl hn
 ·
  exact okids_18 t tx q s s1 c c1 kids B C w hL hN hv hl hn
 ·
  exact okids_19 t tx q s s1 c c1 kids B C w hL hN hv hl hn
 ·
  exact okids_20 t tx q s s1 c c1 kids B C w hL hN hv hl hn
 ·
  exact okids_21 t tx q s s1 c c1 kids B C w hL hN hv hl hn
 ·
  exact okids_22 t tx q s s1 c c1 kids B C w hL hN hv hl hn
 ·
  exact okids_23 t tx q s s1 c c1 kids B C w hL hN hv hl hn
 ·
  exact okids_24 t tx q s s1 c c1 kids B C w hL hN hv hl hn
 ·
  exact okids_25 t tx q s s1 c c1 kids B C w hL hN hv hl hn
 ·
  exact okids_26 t tx q s s1 c c1 kids B C w hL hN hv hl hn
 ·
  exact okids_27 t tx q s s1 c c1 kids B C w hL hN hv hl hn
 ·
  exact okids_28 t tx q s s1 c c1 kids B C w hL hN hv hl hn
 ·
  exact okids_29 t tx q s s1 c c1 kids B C w hL hN hv hl hn
 ·
  exact okids_30 t tx q s s1 c c1 kids B C w hL hN hv hl hn
 ·
  exact okids_31 t tx q s s1 c c1 kids B C w hL hN hv hl hn
 ·
  exact okids_32 t tx q s s1 c c1 kids B C w hL hN hv hl hn
 ·
  exact okids_33 t tx q s s1 c c1 kids B C w hL hN hv hl hn
 exact okids_34 t tx q s s1 c c1 kids B C w hL hN hv hl hn
end
section
open Go.RowKit
theorem real_of_cut {s a b : ByteArray} (hc : CutAt s a b) (h1 : wholeB a 9 = true) (h2 : onlyB b 6 = true) : RealAt s a.size b.size ∧ (a ++ b).data.toList = s.data.toList.take a.size ++ s.data.toList.drop (a.size + 1) := by
 unfold wholeB onlyB at h1
 unfold onlyB at h2
 simp only [Bool.and_eq_true, Bool.or_eq_true, decide_eq_true_eq, Bool.not_eq_true', decide_eq_false_iff_not] at h1 h2
 obtain ⟨⟨⟨a1, a2⟩, a3⟩, a4⟩ := h1
 obtain ⟨⟨b1, b2⟩, b3⟩ := h2
 rcases hc with ⟨i, hi, hp, hno, rfl, rfl⟩ | ⟨_, _, rfl⟩
 ·
  have sA : (s.extract 0 i).size = i := by rw [size_extract' (by omega)]; omega
  have sB : (s.extract (i + 1) s.size).size = s.size - (i + 1) := by rw [size_extract' (by omega)]
  rw [sA] at a1 a2 a3 a4 ⊢
  rw [sB] at b1 b2 b3 ⊢
  refine ⟨⟨by omega, by omega, by omega, by omega, by omega, hp, fun j hj => ?_, fun j h1 h2 => ?_, ?_⟩, ?_⟩
  ·
   have := a3 j hj
   rw [dgAt_extract (by omega) (by omega)] at this
   simpa using this
  ·
   have := b3 (j - (i + 1)) (by omega)
   rw [dgAt_extract (by omega) (by omega)] at this
   rw [show i + 1 + (j - (i + 1)) = j by omega] at this
   exact this
  ·
   rcases a4 with h | h
   ·
    exact Or.inl h
   right
   rw [byA_extract (by omega) (by omega)] at h
   simpa using h
  rw [list_append, list_extract (by omega), list_extract (by omega)]
  congr 1
  exact List.take_of_length_le (by rw [List.length_drop, list_len]; omega)
 simp at b1
theorem cut_of_real {s a b : ByteArray} (hc : CutAt s a b) {n k : Nat} (h : RealAt s n k) : wholeB a 9 = true ∧ onlyB b 6 = true := by
 have hz := h.size
 have ha1 := h.a1
 have ha9 := h.a9
 have hk1 := h.k1
 have hk6 := h.k6
 rcases hc with ⟨i, hi, hp, hno, rfl, rfl⟩ | ⟨hno, _, _⟩
 ·
  have hin : i = n := by
   by_cases h1 : i < n
   ·
    have := h.fst i h1
    rw [pt_dg hp] at this; cases this
   by_cases h2 : n < i
   ·
    exact absurd h.pt (hno n h2)
   omega
  subst hin
  have sA : (s.extract 0 i).size = i := by rw [size_extract' (by omega)]; omega
  have sB : (s.extract (i + 1) s.size).size = k := by rw [size_extract' (by omega)]; omega
  have dA : ∀ j, j < i → dgAt (s.extract 0 i) j = true := fun j hj => by
   rw [dgAt_extract (by omega) (by omega)]
   exact h.fst _ (by omega)
  have dB : ∀ j, j < k → dgAt (s.extract (i + 1) s.size) j = true := fun j hj => by
   rw [dgAt_extract (by omega) (by omega)]
   exact h.snd _ (by omega) (by omega)
  unfold wholeB onlyB
  simp only [Bool.and_eq_true, Bool.or_eq_true, decide_eq_true_eq, Bool.not_eq_true', decide_eq_false_iff_not]
  rw [sA, sB]
  refine ⟨⟨⟨⟨by omega, by omega⟩, dA⟩, ?_⟩, ⟨by omega, by omega⟩, dB⟩
  rcases h.nz with e | e
  ·
   exact Or.inl e
  right
  rw [byA_extract (by omega) (by omega)]
  simpa using e
 exact absurd h.pt (hno n (by omega))
set_option maxRecDepth 100000 in
set_option maxHeartbeats 4000000 in
theorem implRealOf_any (s : ByteArray) (hs : s.size ≤ 1048576) (w : World) :
  Calls Tryz.prog 53 #[.string s] w fun e w' => RealSays s e ∧ Below w.heap.size w w' := by
 go_enter Tryz.func53, Tryz.ntmps53
 go_wp2_with fail; refine (cut_any s hs _).mono ?_
 rintro e w1 ⟨⟨a, b, fd, rfl, hc⟩, hb1⟩
 have HC : Hid (CutAt s a b) := hc
 clear hc; go_wp2_with fail; refine (wholeDigits_any a 9 _).mono ?_
 rintro e w2 ⟨rfl, hb2⟩
 have hb2 := bl_trans hb1 hb2
 clear hb1; cases h1 : wholeB a 9
 ·
  have F : RealSays s (.returned (.tuple #[.float .f64 0, .bool false])) := Or.inl ⟨fun ⟨n, k, h⟩ => (by have := (cut_of_real HC.out h).1; rw [h1] at this; cases this), rfl⟩
  go_wp2_with fail; go_ret2
  exact ⟨F, hb2⟩
 go_wp2_with fail; refine (onlyDigits_any b 6 _).mono ?_
 rintro e w3 ⟨rfl, hb3⟩
 have hb3 := bl_trans hb2 hb3
 clear hb2; cases h2 : onlyB b 6
 ·
  have F : RealSays s (.returned (.tuple #[.float .f64 0, .bool false])) := Or.inl ⟨fun ⟨n, k, h⟩ => (by have := (cut_of_real HC.out h).2; rw [h2] at this; cases this), rfl⟩
  go_wp2_with fail; go_ret2
  exact ⟨F, hb3⟩
 obtain ⟨HR, hL⟩ := real_of_cut HC.out h1 h2
 have HA : Hid (RealAt s a.size b.size) := HR
 obtain ⟨m, n, A, B, hA, hB, nm, nn, bm, bn, HS, -, -⟩ := real_parts HR
 have hN := HS _ rfl
 rw [← hL] at hN
 have HN : Hid (numIs (a ++ b) (m * 10 ^ b.size + n)) := hN
 have k6 := HR.k6
 have k1 := HR.k1
 have sz : (a ++ b).size = a.size + b.size := by simp [ByteArray.size_append]
 have a9 := HR.a9
 have db : Hid (∀ j, j < b.size → byA b j < 128) := by
  intro j hj
  unfold onlyB at h2
  simp only [Bool.and_eq_true, decide_eq_true_eq] at h2
  have : dgB (byA b j) = true := h2.2 j hj
  rw [dgB_iff] at this; omega
 obtain ⟨N, hNN⟩ : ∃ N, Hid (m * 10 ^ b.size + n = N) := ⟨_, (rfl : m * 10 ^ b.size + n = m * 10 ^ b.size + n)⟩
 rw [hNN.out] at HN hN
 obtain ⟨r, hr, br⟩ := ofInt_quo (N : Int) (k := b.size) k6
 have FIN : Hid (RealSays s (.returned (.tuple #[.float .f64 r, .bool true]))) := by
  refine Or.inr ⟨a.size, b.size, N, r, HA.out, ?_, hr, br, rfl⟩
  rw [← hL]; exact hN
 have hq := fun w => run_float_arith (P := Tryz.prog) w .quo 88 .f64 _ _ r hr
 clear hr HS hA hB nm nn bm bn hN hL HR h1 h2; go_wp2_with fail; go_loopw [7] (fun tv wr => ∃ k : Nat, k ≤ b.size ∧ wr = w3.iter b k ∧ tv = .float .f64 (tenF k)) (fun _ wr => b.size - wr.iterPos w3.heap.size)
 case atStart => exact ⟨0, Nat.zero_le _, rfl, rfl⟩
 obtain ⟨k, hk, rfl, rfl⟩ := hrel
 by_cases hlt : k < b.size
 ·
  have hnx := fun ty => run_next_ascii (P := Tryz.prog) w3 b k ty hlt (by rw [byA_eq hlt]; exact db.out k hlt)
  have hm := fun w => run_float_arith (P := Tryz.prog) w .mul 88 .f64 _ _ _ (tenF_step (k := k) (by omega))
  go_wp2_with fail; go_roundw
  case rel => exact ⟨k + 1, by omega, rfl, rfl⟩
  case measure => simp; omega
 have hnx := fun ty => run_next_end (P := Tryz.prog) w3 b k ty hlt
 have hkb : Hid (k = b.size) := by show _ = _; omega
 rw [hkb.out] at hnx ⊢
 go_wp2_with fail; refine (numberOf_any (a ++ b) N (by omega) (by omega) HN.out _).mono ?_
 rintro e w4 ⟨rfl, hb4⟩
 have hb4 := bl_trans (bl_alloc hb3 (.stringIter b b.size)) hb4
 go_wp2_with fail; go_ret2
 exact ⟨FIN.out, hb4⟩
end
section
open Go.RowKit
noncomputable def tfB (k : Int) (t : ByteArray) : Bool := if k = 2 then realB t else if namedK k then nameB t else decide (t = ⟨#[]⟩)
def loK (k : Int) : Int := if k = 8 ∨ k = 9 ∨ k = 32 ∨ k = 33 then 1 else 0
def hiK (k : Int) : Int := if k = 1 then 999999999999999 else if k = 3 then 1 else if k = 8 then 9 else if k = 9 then 6 else if k = 32 ∨ k = 33 then 4 else 0
def nfB (k q : Int) : Bool := decide (loK k ≤ q) && decide (q ≤ hiK k)
theorem numB_nfB (k q : Int) : numB k q = nfB k q := by
 have h0 : (q == 0) = (decide ((0 : Int) ≤ q) && decide (q ≤ 0)) := by rw [Bool.eq_iff_iff]; simp; omega
 have h1 : (q == 0 || q == 1) = (decide ((0 : Int) ≤ q) && decide (q ≤ 1)) := by rw [Bool.eq_iff_iff]; simp; omega
 unfold numB nfB loK hiK
 by_cases e1 : k = 1
 ·
  subst e1; rfl
 by_cases e3 : k = 3
 ·
  subst e3; exact h1
 by_cases e8 : k = 8
 ·
  subst e8; rfl
 by_cases e9 : k = 9
 ·
  subst e9; rfl
 by_cases e32 : k = 32 ∨ k = 33
 ·
  rw [if_neg e1, if_neg e3, if_neg e8, if_neg e9, if_pos e32, if_pos (by omega), if_neg e1, if_neg e3, if_neg e8, if_neg e9, if_pos e32]
 rw [if_neg e1, if_neg e3, if_neg e8, if_neg e9, if_neg e32, if_neg (by omega), if_neg e1, if_neg e3, if_neg e8, if_neg e9, if_neg e32]
 exact h0
theorem has_split (k : Int) (t : ByteArray) (q : Int) : hasB k t q = (tfB k t && nfB k q) := by
 unfold hasB tfB
 by_cases e2 : k = 2
 ·
  subst e2
  rw [if_pos rfl, if_pos rfl, ← numB_nfB]
  rfl
 rw [if_neg e2, if_neg e2, numB_nfB]
 split <;> rfl
theorem named_split {k : Int} (h : namedK k = true) : k = 4 ∨ k = 5 ∨ k = 6 ∨ k = 7 ∨ k = 12 ∨ k = 13 ∨ k = 14 ∨ k = 15 ∨ k = 19 ∨ k = 20 ∨ k = 23 ∨ k = 24 ∨ k = 28 ∨ k = 31 ∨ k = 32 ∨ k = 33 ∨ k = 34 := by simpa [namedK] using h
theorem plain_not {k : Int} (h : namedK k = false) : ¬ (k = 4 ∨ k = 5 ∨ k = 6 ∨ k = 7 ∨ k = 12 ∨ k = 13 ∨ k = 14 ∨ k = 15 ∨ k = 19 ∨ k = 20 ∨ k = 23 ∨ k = 24 ∨ k = 28 ∨ k = 31 ∨ k = 32 ∨ k = 33 ∨ k = 34) := by
 intro g
 have : namedK k = true := by unfold namedK; exact decide_eq_true g
 rw [h] at this
 cases this
set_option maxRecDepth 100000 in
set_option maxHeartbeats 4000000 in
theorem numberFits_any (k : Int) (t : ByteArray) (q : Int) (s : Option Addr) (kn c : Nat) (w : World) :
  Calls Tryz.prog 36 #[.agg #[.int .i64 k, .string t, .int .i64 q, .slice s kn c]] w fun e w' => e = .returned (.bool (nfB k q)) ∧ Below w.heap.size w w' := by
 have k0 := Blk.new w #[.int .i64 k, .string t, .int .i64 q, .slice s kn c] 66
 have L0 := bl_alloc (Below.refl _ w) (.cells #[.int .i64 k, .string t, .int .i64 q, .slice s kn c] 66)
 by_cases hs : k = 1 ∨ k = 3 ∨ k = 8 ∨ k = 9 ∨ k = 32 ∨ k = 33
 ·
  rcases hs with rfl | rfl | rfl | rfl | rfl | rfl
  ·
   have HE : Hid (nfB 1 q = (decide (0 ≤ q) && decide (q ≤ 999999999999999))) := rfl
   obtain ⟨x0, x1, x2, x3, x4⟩ := k0.four'
   by_cases h1 : 0 ≤ q
   ·
    go_enter Tryz.func36, Tryz.ntmps36
    go_wp2_with fail; go_ret; exact ⟨ret_bool' (by rw [HE.out]; simp [h1]), L0⟩
   go_enter Tryz.func36, Tryz.ntmps36
   go_wp2_with fail; go_ret; exact ⟨ret_bool' (by rw [HE.out]; symm; rw [Bool.and_eq_false_iff]; left; exact decide_eq_false (by omega)), L0⟩
  ·
   have HE : Hid (nfB 3 q = (decide (0 ≤ q) && decide (q ≤ 1))) := rfl
   obtain ⟨x0, x1, x2, x3, x4⟩ := k0.four'
   by_cases h1 : 0 ≤ q
   ·
    go_enter Tryz.func36, Tryz.ntmps36
    go_wp2_with fail; go_ret; exact ⟨ret_bool' (by rw [HE.out]; simp [h1]), L0⟩
   go_enter Tryz.func36, Tryz.ntmps36
   go_wp2_with fail; go_ret; exact ⟨ret_bool' (by rw [HE.out]; symm; rw [Bool.and_eq_false_iff]; left; exact decide_eq_false (by omega)), L0⟩
  ·
   have HE : Hid (nfB 8 q = (decide (1 ≤ q) && decide (q ≤ 9))) := rfl
   obtain ⟨x0, x1, x2, x3, x4⟩ := k0.four'
   by_cases h1 : 1 ≤ q
   ·
    go_enter Tryz.func36, Tryz.ntmps36
    go_wp2_with fail; go_ret; exact ⟨ret_bool' (by rw [HE.out]; simp [h1]), L0⟩
   go_enter Tryz.func36, Tryz.ntmps36
   go_wp2_with fail; go_ret; exact ⟨ret_bool' (by rw [HE.out]; symm; rw [Bool.and_eq_false_iff]; left; exact decide_eq_false (by omega)), L0⟩
  ·
   have HE : Hid (nfB 9 q = (decide (1 ≤ q) && decide (q ≤ 6))) := rfl
   obtain ⟨x0, x1, x2, x3, x4⟩ := k0.four'
   by_cases h1 : 1 ≤ q
   ·
    go_enter Tryz.func36, Tryz.ntmps36
    go_wp2_with fail; go_ret; exact ⟨ret_bool' (by rw [HE.out]; simp [h1]), L0⟩
   go_enter Tryz.func36, Tryz.ntmps36
   go_wp2_with fail; go_ret; exact ⟨ret_bool' (by rw [HE.out]; symm; rw [Bool.and_eq_false_iff]; left; exact decide_eq_false (by omega)), L0⟩
  ·
   have HE : Hid (nfB 32 q = (decide (1 ≤ q) && decide (q ≤ 4))) := rfl
   obtain ⟨x0, x1, x2, x3, x4⟩ := k0.four'
   by_cases h1 : 1 ≤ q
   ·
    go_enter Tryz.func36, Tryz.ntmps36
    go_wp2_with fail; go_ret; exact ⟨ret_bool' (by rw [HE.out]; simp [h1]), L0⟩
   go_enter Tryz.func36, Tryz.ntmps36
   go_wp2_with fail; go_ret; exact ⟨ret_bool' (by rw [HE.out]; symm; rw [Bool.and_eq_false_iff]; left; exact decide_eq_false (by omega)), L0⟩
  have HE : Hid (nfB 33 q = (decide (1 ≤ q) && decide (q ≤ 4))) := rfl
  obtain ⟨x0, x1, x2, x3, x4⟩ := k0.four'
  by_cases h1 : 1 ≤ q
  ·
   go_enter Tryz.func36, Tryz.ntmps36
   go_wp2_with fail; go_ret; exact ⟨ret_bool' (by rw [HE.out]; simp [h1]), L0⟩
  go_enter Tryz.func36, Tryz.ntmps36
  go_wp2_with fail; go_ret; exact ⟨ret_bool' (by rw [HE.out]; symm; rw [Bool.and_eq_false_iff]; left; exact decide_eq_false (by omega)), L0⟩
 have e1 : (k == 1) = false := by simp; omega
 have e3 : (k == 3) = false := by simp; omega
 have e8 : (k == 8) = false := by simp; omega
 have e9 : (k == 9) = false := by simp; omega
 have e32 : (k == 32) = false := by simp; omega
 have e33 : (k == 33) = false := by simp; omega
 have HE : Hid (nfB k q = (decide (0 ≤ q) && decide (q ≤ 0))) := by
  show _ = _
  unfold nfB loK hiK
  rw [if_neg (by omega), if_neg (by omega), if_neg (by omega), if_neg (by omega), if_neg (by omega), if_neg (by omega)]
 obtain ⟨x0, x1, x2, x3, x4⟩ := k0.four'
 clear hs k0; by_cases h1 : 0 ≤ q
 ·
  go_enter Tryz.func36, Tryz.ntmps36
  go_wp2_with fail; go_ret; exact ⟨ret_bool' (by rw [HE.out]; simp [h1]), L0⟩
 go_enter Tryz.func36, Tryz.ntmps36
 go_wp2_with fail; go_ret; exact ⟨ret_bool' (by rw [HE.out]; symm; rw [Bool.and_eq_false_iff]; left; exact decide_eq_false (by omega)), L0⟩
set_option maxRecDepth 100000 in
set_option maxHeartbeats 4000000 in
theorem textFits_any (k : Int) (t : ByteArray) (ht : t.size ≤ 1048576) (q : Int) (s : Option Addr) (kn c mb : Nat) (w : World) (hm : w.ownsMap Tryz.prog 9 (unitElem (H := Unit)) mb 32 (wordMap words (.map []))) :
  Calls Tryz.prog 35 #[.agg #[.int .i64 k, .string t, .int .i64 q, .slice s kn c], .map (some mb)] w fun e w' => e = .returned (.bool (tfB k t)) ∧ Below w.heap.size w w' := by
 have hal := alloc_old
 have haf := alloc_oldf
 have k0 := Blk.new w #[.int .i64 k, .string t, .int .i64 q, .slice s kn c] 66
 have L0 := bl_alloc (Below.refl _ w) (.cells #[.int .i64 k, .string t, .int .i64 q, .slice s kn c] 66)
 by_cases h2 : k = 2
 ·
  subst h2
  obtain ⟨x0, x1, x2, x3, x4⟩ := k0.four'
  have HE : Hid (tfB 2 t = realB t) := rfl
  clear hm; go_enter Tryz.func35, Tryz.ntmps35
  go_wp2_with fail; refine (implRealOf_any t ht _).mono ?_
  rintro e w1 ⟨hr, hb1⟩
  obtain ⟨r, rfl⟩ := hr.flag
  go_wp2_with fail; go_ret; exact ⟨ret_bool' (by rw [HE.out]), bl_trans L0 hb1⟩
 cases hn : namedK k
 ·
  have hp := plain_not hn
  have HE : Hid (tfB k t = decide (t = ⟨#[]⟩)) := by show _ = _; unfold tfB; rw [if_neg h2, hn]; rfl
  have g2 : (k == 2) = false := by simp [h2]
  have g4 : (k == 4) = false := by simp; omega
  have g5 : (k == 5) = false := by simp; omega
  have g6 : (k == 6) = false := by simp; omega
  have g7 : (k == 7) = false := by simp; omega
  have g12 : (k == 12) = false := by simp; omega
  have g13 : (k == 13) = false := by simp; omega
  have g14 : (k == 14) = false := by simp; omega
  have g15 : (k == 15) = false := by simp; omega
  have g19 : (k == 19) = false := by simp; omega
  have g20 : (k == 20) = false := by simp; omega
  have g23 : (k == 23) = false := by simp; omega
  have g24 : (k == 24) = false := by simp; omega
  have g28 : (k == 28) = false := by simp; omega
  have g31 : (k == 31) = false := by simp; omega
  have g32 : (k == 32) = false := by simp; omega
  have g33 : (k == 33) = false := by simp; omega
  have g34 : (k == 34) = false := by simp; omega
  obtain ⟨x0, x1, x2, x3, x4⟩ := k0.four'
  clear hm hp hn h2 k0; by_cases he : t = ⟨#[]⟩
  ·
   subst he
   go_enter Tryz.func35, Tryz.ntmps35
   go_wp2_with fail; go_ret; exact ⟨ret_bool' (by rw [HE.out]; simp), L0⟩
  have q9 := not_empty he
  have HN : Hid (¬ t = ⟨#[]⟩) := he
  clear he; go_enter Tryz.func35, Tryz.ntmps35
  go_wp2_with fail; go_ret; exact ⟨ret_bool' (by rw [HE.out]; simp [HN.out]; have h9 := not_empty HN.out; simpa using h9), L0⟩
 have HE : Hid (tfB k t = (lettersB t && !isW t)) := by show _ = _; unfold tfB; rw [if_neg h2, hn]; rfl
 have hlk := word_look (hm.alloc (.cells #[.int .i64 k, .string t, .int .i64 q, .slice s kn c] 66)) t (by unfold maxLen; omega)
 have HS := named_split hn
 clear hn h2 hm; cases hw : isW t <;> rw [hw] at hlk
 all_goals
  rcases HS with rfl | rfl | rfl | rfl | rfl | rfl | rfl | rfl | rfl | rfl | rfl | rfl | rfl | rfl | rfl | rfl | rfl
 all_goals
  obtain ⟨x0, x1, x2, x3, x4⟩ := k0.four'
  go_enter Tryz.func35, Tryz.ntmps35
  go_wp2_with fail; refine (lettersOk_any t _).mono ?_
  rintro e w1 ⟨rfl, hb1, _⟩
  cases hl : lettersB t <;>
  ·
   go_wp2_with fail; go_ret; exact ⟨ret_bool' (by rw [HE.out, hl, hw]; rfl), bl_trans (bl_alloc L0 _) hb1⟩
end
end Go.Proofs.YtjckoldjodjehaaGreatDoor
