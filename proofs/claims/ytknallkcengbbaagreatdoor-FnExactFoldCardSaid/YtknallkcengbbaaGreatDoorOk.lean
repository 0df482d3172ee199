import Derived.Test.YtknallkcengbbaaGreatDoorOj
namespace Go.Proofs.YtknallkcengbbaaGreatDoor
open Go.RowKit
set_option linter.unusedVariables false
set_option linter.unusedSimpArgs false

noncomputable def kidB (kind : Int) (ks : List Int) : Bool := @decide (KidsP kind ks) (Classical.propDecidable _)
theorem kidB_true {kind : Int} {ks : List Int} (h : KidsP kind ks) : kidB kind ks = true := @decide_eq_true _ (Classical.propDecidable _) h
theorem kidB_false {kind : Int} {ks : List Int} (h : ¬ KidsP kind ks) : kidB kind ks = false := @decide_eq_false _ (Classical.propDecidable _) h
theorem kidB_iff {kind : Int} {ks : List Int} {p : Prop} [Decidable p] (h : KidsP kind ks ↔ p) : kidB kind ks = decide p := by
  by_cases g : p
  · rw [kidB_true (h.2 g), decide_eq_true g]
  · rw [kidB_false (fun q => g (h.1 q)), decide_eq_false g]
/-- what kidsFit answers. -/
def KidSays (t : Tre) (kind : Int) (kids : List Int) (w : World) (e : Ending) (w' : World) : Prop := e = .returned (.bool (kidB kind (kids.map (kkAt t)))) ∧ Below w.heap.size w w'
theorem roles_ne {R L : List UInt8} (h : ¬ R = L) : (R == L) = false := by simpa using h

set_option maxRecDepth 100000 in
set_option maxHeartbeats 4000000 in
theorem okids_1 (t : Tre) (tx : ByteArray) (q : Int) (s s1 : Option Addr) (c c1 : Nat) (kids : List Int) (B C : Nat) (w : World) (hL : Els 1 cInt w B s kids) (hN : Els 4 cNode w C s1 t.nodes) (hv : ∀ x ∈ kids, ∃ m : Nat, x = m ∧ m < t.nodes.length) (hl : kids.length ≤ 1048576) (hn : t.nodes.length ≤ 1048576) :
    Calls Tryz.prog 38 #[.agg #[.int .i64 1, .string tx, .int .i64 q, .slice s kids.length c], .slice s1 t.nodes.length c1] w (KidSays t 1 kids w) := by
  have k0 := Blk.new w #[.int .i64 1, .string tx, .int .i64 q, .slice s kids.length c] 57
  have L0 := bl_alloc (Below.refl _ w) (.cells #[.int .i64 1, .string tx, .int .i64 q, .slice s kids.length c] 57)
  obtain ⟨x0, x1, x2, x3, x4⟩ := k0.four'
  have hr := rolesOf_any t s s1 c c1 kids B C _ (hL.later cInt_keeps L0) (hN.later cNode_keeps L0) hv hl hn
  go_enter Tryz.func38, Tryz.ntmps38
  go_wp2_with fail
  refine hr.mono ?_
  rintro e w1 ⟨rfl, hb1⟩
  have L1 := bl_trans L0 hb1
  obtain ⟨y0, y1, y2, y3, y4⟩ := (k0.later hb1).four'
  have hrl : (((kids.map (kkAt t)).map rl)).length ≤ 1048576 := by simp; exact hl
  have HI : Hid (kidB 1 (kids.map (kkAt t)) = decide ((kids.map (kkAt t)).map rl = [])) := kidB_iff (kids_const [] (fun n => by simp [shp]) (by decide))
  generalize hR : (kids.map (kkAt t)).map rl = R at hrl HI ⊢
  clear hr x0 x1 x2 x3 x4
  by_cases h1 : R = []
  · subst h1
    go_wp2_with fail
    go_ret
    exact ⟨ret_bool' (by rw [HI.out]; rfl), L1⟩
  · have q1 := not_empty (not_nil_str h1)
    have H1 : Hid (¬ R = []) := h1
    clear h1
    go_wp2_with fail
    go_ret
    exact ⟨ret_bool' (by rw [HI.out, decide_eq_false H1.out]; have h9 := not_empty (not_nil_str H1.out); simpa using h9), L1⟩

set_option maxRecDepth 100000 in
set_option maxHeartbeats 4000000 in
theorem okids_2 (t : Tre) (tx : ByteArray) (q : Int) (s s1 : Option Addr) (c c1 : Nat) (kids : List Int) (B C : Nat) (w : World) (hL : Els 1 cInt w B s kids) (hN : Els 4 cNode w C s1 t.nodes) (hv : ∀ x ∈ kids, ∃ m : Nat, x = m ∧ m < t.nodes.length) (hl : kids.length ≤ 1048576) (hn : t.nodes.length ≤ 1048576) :
    Calls Tryz.prog 38 #[.agg #[.int .i64 2, .string tx, .int .i64 q, .slice s kids.length c], .slice s1 t.nodes.length c1] w (KidSays t 2 kids w) := by
  have k0 := Blk.new w #[.int .i64 2, .string tx, .int .i64 q, .slice s kids.length c] 57
  have L0 := bl_alloc (Below.refl _ w) (.cells #[.int .i64 2, .string tx, .int .i64 q, .slice s kids.length c] 57)
  obtain ⟨x0, x1, x2, x3, x4⟩ := k0.four'
  have hr := rolesOf_any t s s1 c c1 kids B C _ (hL.later cInt_keeps L0) (hN.later cNode_keeps L0) hv hl hn
  go_enter Tryz.func38, Tryz.ntmps38
  go_wp2_with fail
  refine hr.mono ?_
  rintro e w1 ⟨rfl, hb1⟩
  have L1 := bl_trans L0 hb1
  obtain ⟨y0, y1, y2, y3, y4⟩ := (k0.later hb1).four'
  have hrl : (((kids.map (kkAt t)).map rl)).length ≤ 1048576 := by simp; exact hl
  have HI : Hid (kidB 2 (kids.map (kkAt t)) = decide ((kids.map (kkAt t)).map rl = [])) := kidB_iff (kids_const [] (fun n => by simp [shp]) (by decide))
  generalize hR : (kids.map (kkAt t)).map rl = R at hrl HI ⊢
  clear hr x0 x1 x2 x3 x4
  by_cases h1 : R = []
  · subst h1
    go_wp2_with fail
    go_ret
    exact ⟨ret_bool' (by rw [HI.out]; rfl), L1⟩
  · have q1 := not_empty (not_nil_str h1)
    have H1 : Hid (¬ R = []) := h1
    clear h1
    go_wp2_with fail
    go_ret
    exact ⟨ret_bool' (by rw [HI.out, decide_eq_false H1.out]; have h9 := not_empty (not_nil_str H1.out); simpa using h9), L1⟩

set_option maxRecDepth 100000 in
set_option maxHeartbeats 4000000 in
theorem okids_3 (t : Tre) (tx : ByteArray) (q : Int) (s s1 : Option Addr) (c c1 : Nat) (kids : List Int) (B C : Nat) (w : World) (hL : Els 1 cInt w B s kids) (hN : Els 4 cNode w C s1 t.nodes) (hv : ∀ x ∈ kids, ∃ m : Nat, x = m ∧ m < t.nodes.length) (hl : kids.length ≤ 1048576) (hn : t.nodes.length ≤ 1048576) :
    Calls Tryz.prog 38 #[.agg #[.int .i64 3, .string tx, .int .i64 q, .slice s kids.length c], .slice s1 t.nodes.length c1] w (KidSays t 3 kids w) := by
  have k0 := Blk.new w #[.int .i64 3, .string tx, .int .i64 q, .slice s kids.length c] 57
  have L0 := bl_alloc (Below.refl _ w) (.cells #[.int .i64 3, .string tx, .int .i64 q, .slice s kids.length c] 57)
  obtain ⟨x0, x1, x2, x3, x4⟩ := k0.four'
  have hr := rolesOf_any t s s1 c c1 kids B C _ (hL.later cInt_keeps L0) (hN.later cNode_keeps L0) hv hl hn
  go_enter Tryz.func38, Tryz.ntmps38
  go_wp2_with fail
  refine hr.mono ?_
  rintro e w1 ⟨rfl, hb1⟩
  have L1 := bl_trans L0 hb1
  obtain ⟨y0, y1, y2, y3, y4⟩ := (k0.later hb1).four'
  have hrl : (((kids.map (kkAt t)).map rl)).length ≤ 1048576 := by simp; exact hl
  have HI : Hid (kidB 3 (kids.map (kkAt t)) = decide ((kids.map (kkAt t)).map rl = [])) := kidB_iff (kids_const [] (fun n => by simp [shp]) (by decide))
  generalize hR : (kids.map (kkAt t)).map rl = R at hrl HI ⊢
  clear hr x0 x1 x2 x3 x4
  by_cases h1 : R = []
  · subst h1
    go_wp2_with fail
    go_ret
    exact ⟨ret_bool' (by rw [HI.out]; rfl), L1⟩
  · have q1 := not_empty (not_nil_str h1)
    have H1 : Hid (¬ R = []) := h1
    clear h1
    go_wp2_with fail
    go_ret
    exact ⟨ret_bool' (by rw [HI.out, decide_eq_false H1.out]; have h9 := not_empty (not_nil_str H1.out); simpa using h9), L1⟩

set_option maxRecDepth 100000 in
set_option maxHeartbeats 4000000 in
theorem okids_4 (t : Tre) (tx : ByteArray) (q : Int) (s s1 : Option Addr) (c c1 : Nat) (kids : List Int) (B C : Nat) (w : World) (hL : Els 1 cInt w B s kids) (hN : Els 4 cNode w C s1 t.nodes) (hv : ∀ x ∈ kids, ∃ m : Nat, x = m ∧ m < t.nodes.length) (hl : kids.length ≤ 1048576) (hn : t.nodes.length ≤ 1048576) :
    Calls Tryz.prog 38 #[.agg #[.int .i64 4, .string tx, .int .i64 q, .slice s kids.length c], .slice s1 t.nodes.length c1] w (KidSays t 4 kids w) := by
  have k0 := Blk.new w #[.int .i64 4, .string tx, .int .i64 q, .slice s kids.length c] 57
  have L0 := bl_alloc (Below.refl _ w) (.cells #[.int .i64 4, .string tx, .int .i64 q, .slice s kids.length c] 57)
  obtain ⟨x0, x1, x2, x3, x4⟩ := k0.four'
  have hr := rolesOf_any t s s1 c c1 kids B C _ (hL.later cInt_keeps L0) (hN.later cNode_keeps L0) hv hl hn
  go_enter Tryz.func38, Tryz.ntmps38
  go_wp2_with fail
  refine hr.mono ?_
  rintro e w1 ⟨rfl, hb1⟩
  have L1 := bl_trans L0 hb1
  obtain ⟨y0, y1, y2, y3, y4⟩ := (k0.later hb1).four'
  have hrl : (((kids.map (kkAt t)).map rl)).length ≤ 1048576 := by simp; exact hl
  have HI : Hid (kidB 4 (kids.map (kkAt t)) = decide ((kids.map (kkAt t)).map rl = [])) := kidB_iff (kids_const [] (fun n => by simp [shp]) (by decide))
  generalize hR : (kids.map (kkAt t)).map rl = R at hrl HI ⊢
  clear hr x0 x1 x2 x3 x4
  by_cases h1 : R = []
  · subst h1
    go_wp2_with fail
    go_ret
    exact ⟨ret_bool' (by rw [HI.out]; rfl), L1⟩
  · have q1 := not_empty (not_nil_str h1)
    have H1 : Hid (¬ R = []) := h1
    clear h1
    go_wp2_with fail
    go_ret
    exact ⟨ret_bool' (by rw [HI.out, decide_eq_false H1.out]; have h9 := not_empty (not_nil_str H1.out); simpa using h9), L1⟩

set_option maxRecDepth 100000 in
set_option maxHeartbeats 4000000 in
theorem okids_5 (t : Tre) (tx : ByteArray) (q : Int) (s s1 : Option Addr) (c c1 : Nat) (kids : List Int) (B C : Nat) (w : World) (hL : Els 1 cInt w B s kids) (hN : Els 4 cNode w C s1 t.nodes) (hv : ∀ x ∈ kids, ∃ m : Nat, x = m ∧ m < t.nodes.length) (hl : kids.length ≤ 1048576) (hn : t.nodes.length ≤ 1048576) :
    Calls Tryz.prog 38 #[.agg #[.int .i64 5, .string tx, .int .i64 q, .slice s kids.length c], .slice s1 t.nodes.length c1] w (KidSays t 5 kids w) := by
  have k0 := Blk.new w #[.int .i64 5, .string tx, .int .i64 q, .slice s kids.length c] 57
  have L0 := bl_alloc (Below.refl _ w) (.cells #[.int .i64 5, .string tx, .int .i64 q, .slice s kids.length c] 57)
  obtain ⟨x0, x1, x2, x3, x4⟩ := k0.four'
  have hr := rolesOf_any t s s1 c c1 kids B C _ (hL.later cInt_keeps L0) (hN.later cNode_keeps L0) hv hl hn
  go_enter Tryz.func38, Tryz.ntmps38
  go_wp2_with fail
  refine hr.mono ?_
  rintro e w1 ⟨rfl, hb1⟩
  have L1 := bl_trans L0 hb1
  obtain ⟨y0, y1, y2, y3, y4⟩ := (k0.later hb1).four'
  have hrl : (((kids.map (kkAt t)).map rl)).length ≤ 1048576 := by simp; exact hl
  have HI : Hid (kidB 5 (kids.map (kkAt t)) = decide ((kids.map (kkAt t)).map rl = [])) := kidB_iff (kids_const [] (fun n => by simp [shp]) (by decide))
  generalize hR : (kids.map (kkAt t)).map rl = R at hrl HI ⊢
  clear hr x0 x1 x2 x3 x4
  by_cases h1 : R = []
  · subst h1
    go_wp2_with fail
    go_ret
    exact ⟨ret_bool' (by rw [HI.out]; rfl), L1⟩
  · have q1 := not_empty (not_nil_str h1)
    have H1 : Hid (¬ R = []) := h1
    clear h1
    go_wp2_with fail
    go_ret
    exact ⟨ret_bool' (by rw [HI.out, decide_eq_false H1.out]; have h9 := not_empty (not_nil_str H1.out); simpa using h9), L1⟩

set_option maxRecDepth 100000 in
set_option maxHeartbeats 4000000 in
theorem okids_6 (t : Tre) (tx : ByteArray) (q : Int) (s s1 : Option Addr) (c c1 : Nat) (kids : List Int) (B C : Nat) (w : World) (hL : Els 1 cInt w B s kids) (hN : Els 4 cNode w C s1 t.nodes) (hv : ∀ x ∈ kids, ∃ m : Nat, x = m ∧ m < t.nodes.length) (hl : kids.length ≤ 1048576) (hn : t.nodes.length ≤ 1048576) :
    Calls Tryz.prog 38 #[.agg #[.int .i64 6, .string tx, .int .i64 q, .slice s kids.length c], .slice s1 t.nodes.length c1] w (KidSays t 6 kids w) := by
  have k0 := Blk.new w #[.int .i64 6, .string tx, .int .i64 q, .slice s kids.length c] 57
  have L0 := bl_alloc (Below.refl _ w) (.cells #[.int .i64 6, .string tx, .int .i64 q, .slice s kids.length c] 57)
  obtain ⟨x0, x1, x2, x3, x4⟩ := k0.four'
  have hr := rolesOf_any t s s1 c c1 kids B C _ (hL.later cInt_keeps L0) (hN.later cNode_keeps L0) hv hl hn
  go_enter Tryz.func38, Tryz.ntmps38
  go_wp2_with fail
  refine hr.mono ?_
  rintro e w1 ⟨rfl, hb1⟩
  have L1 := bl_trans L0 hb1
  obtain ⟨y0, y1, y2, y3, y4⟩ := (k0.later hb1).four'
  have hrl : (((kids.map (kkAt t)).map rl)).length ≤ 1048576 := by simp; exact hl
  have HI : Hid (kidB 6 (kids.map (kkAt t)) = decide ((kids.map (kkAt t)).map rl = [])) := kidB_iff (kids_const [] (fun n => by simp [shp]) (by decide))
  generalize hR : (kids.map (kkAt t)).map rl = R at hrl HI ⊢
  clear hr x0 x1 x2 x3 x4
  by_cases h1 : R = []
  · subst h1
    go_wp2_with fail
    go_ret
    exact ⟨ret_bool' (by rw [HI.out]; rfl), L1⟩
  · have q1 := not_empty (not_nil_str h1)
    have H1 : Hid (¬ R = []) := h1
    clear h1
    go_wp2_with fail
    go_ret
    exact ⟨ret_bool' (by rw [HI.out, decide_eq_false H1.out]; have h9 := not_empty (not_nil_str H1.out); simpa using h9), L1⟩

set_option maxRecDepth 100000 in
set_option maxHeartbeats 4000000 in
theorem okids_7 (t : Tre) (tx : ByteArray) (q : Int) (s s1 : Option Addr) (c c1 : Nat) (kids : List Int) (B C : Nat) (w : World) (hL : Els 1 cInt w B s kids) (hN : Els 4 cNode w C s1 t.nodes) (hv : ∀ x ∈ kids, ∃ m : Nat, x = m ∧ m < t.nodes.length) (hl : kids.length ≤ 1048576) (hn : t.nodes.length ≤ 1048576) :
    Calls Tryz.prog 38 #[.agg #[.int .i64 7, .string tx, .int .i64 q, .slice s kids.length c], .slice s1 t.nodes.length c1] w (KidSays t 7 kids w) := by
  have k0 := Blk.new w #[.int .i64 7, .string tx, .int .i64 q, .slice s kids.length c] 57
  have L0 := bl_alloc (Below.refl _ w) (.cells #[.int .i64 7, .string tx, .int .i64 q, .slice s kids.length c] 57)
  obtain ⟨x0, x1, x2, x3, x4⟩ := k0.four'
  have hr := rolesOf_any t s s1 c c1 kids B C _ (hL.later cInt_keeps L0) (hN.later cNode_keeps L0) hv hl hn
  go_enter Tryz.func38, Tryz.ntmps38
  go_wp2_with fail
  refine hr.mono ?_
  rintro e w1 ⟨rfl, hb1⟩
  have L1 := bl_trans L0 hb1
  obtain ⟨y0, y1, y2, y3, y4⟩ := (k0.later hb1).four'
  have hrl : (((kids.map (kkAt t)).map rl)).length ≤ 1048576 := by simp; exact hl
  have HI : Hid (kidB 7 (kids.map (kkAt t)) = decide (∀ b ∈ (kids.map (kkAt t)).map rl, b = 101)) := kidB_iff (kids_rep (c := 1) (fun n => by simp [shp]) (by decide))
  generalize hR : (kids.map (kkAt t)).map rl = R at hrl HI ⊢
  clear hr x0 x1 x2 x3 x4
  go_wp2_with (go_at_call 39; refine (only_any _ 101 (by decide) hrl _).mono ?_; rintro e w2 ⟨rfl, hb2⟩)
  go_ret
  exact ⟨ret_bool' (by rw [HI.out]), bl_trans L1 hb2⟩

set_option maxRecDepth 100000 in
set_option maxHeartbeats 4000000 in
theorem okids_8 (t : Tre) (tx : ByteArray) (q : Int) (s s1 : Option Addr) (c c1 : Nat) (kids : List Int) (B C : Nat) (w : World) (hL : Els 1 cInt w B s kids) (hN : Els 4 cNode w C s1 t.nodes) (hv : ∀ x ∈ kids, ∃ m : Nat, x = m ∧ m < t.nodes.length) (hl : kids.length ≤ 1048576) (hn : t.nodes.length ≤ 1048576) :
    Calls Tryz.prog 38 #[.agg #[.int .i64 8, .string tx, .int .i64 q, .slice s kids.length c], .slice s1 t.nodes.length c1] w (KidSays t 8 kids w) := by
  have k0 := Blk.new w #[.int .i64 8, .string tx, .int .i64 q, .slice s kids.length c] 57
  have L0 := bl_alloc (Below.refl _ w) (.cells #[.int .i64 8, .string tx, .int .i64 q, .slice s kids.length c] 57)
  obtain ⟨x0, x1, x2, x3, x4⟩ := k0.four'
  have hr := rolesOf_any t s s1 c c1 kids B C _ (hL.later cInt_keeps L0) (hN.later cNode_keeps L0) hv hl hn
  go_enter Tryz.func38, Tryz.ntmps38
  go_wp2_with fail
  refine hr.mono ?_
  rintro e w1 ⟨rfl, hb1⟩
  have L1 := bl_trans L0 hb1
  obtain ⟨y0, y1, y2, y3, y4⟩ := (k0.later hb1).four'
  have hrl : (((kids.map (kkAt t)).map rl)).length ≤ 1048576 := by simp; exact hl
  have HI : Hid (kidB 8 (kids.map (kkAt t)) = decide ((kids.map (kkAt t)).map rl = [101, 101])) := kidB_iff (kids_const [1, 1] (fun n => by simp [shp]) (by decide))
  generalize hR : (kids.map (kkAt t)).map rl = R at hrl HI ⊢
  clear hr x0 x1 x2 x3 x4
  by_cases h1 : R = [101, 101]
  · subst h1
    go_wp2_with fail
    go_ret
    exact ⟨ret_bool' (by rw [HI.out]; rfl), L1⟩
  · have q1 := roles_ne h1
    have H1 : Hid (¬ R = [101, 101]) := h1
    clear h1
    go_wp2_with fail
    go_ret
    exact ⟨ret_bool' (by rw [HI.out, decide_eq_false H1.out]), L1⟩

set_option maxRecDepth 100000 in
set_option maxHeartbeats 4000000 in
theorem okids_9 (t : Tre) (tx : ByteArray) (q : Int) (s s1 : Option Addr) (c c1 : Nat) (kids : List Int) (B C : Nat) (w : World) (hL : Els 1 cInt w B s kids) (hN : Els 4 cNode w C s1 t.nodes) (hv : ∀ x ∈ kids, ∃ m : Nat, x = m ∧ m < t.nodes.length) (hl : kids.length ≤ 1048576) (hn : t.nodes.length ≤ 1048576) :
    Calls Tryz.prog 38 #[.agg #[.int .i64 9, .string tx, .int .i64 q, .slice s kids.length c], .slice s1 t.nodes.length c1] w (KidSays t 9 kids w) := by
  have k0 := Blk.new w #[.int .i64 9, .string tx, .int .i64 q, .slice s kids.length c] 57
  have L0 := bl_alloc (Below.refl _ w) (.cells #[.int .i64 9, .string tx, .int .i64 q, .slice s kids.length c] 57)
  obtain ⟨x0, x1, x2, x3, x4⟩ := k0.four'
  have hr := rolesOf_any t s s1 c c1 kids B C _ (hL.later cInt_keeps L0) (hN.later cNode_keeps L0) hv hl hn
  go_enter Tryz.func38, Tryz.ntmps38
  go_wp2_with fail
  refine hr.mono ?_
  rintro e w1 ⟨rfl, hb1⟩
  have L1 := bl_trans L0 hb1
  obtain ⟨y0, y1, y2, y3, y4⟩ := (k0.later hb1).four'
  have hrl : (((kids.map (kkAt t)).map rl)).length ≤ 1048576 := by simp; exact hl
  have HI : Hid (kidB 9 (kids.map (kkAt t)) = decide ((kids.map (kkAt t)).map rl = [101])) := kidB_iff (kids_const [1] (fun n => by simp [shp]) (by decide))
  generalize hR : (kids.map (kkAt t)).map rl = R at hrl HI ⊢
  clear hr x0 x1 x2 x3 x4
  by_cases h1 : R = [101]
  · subst h1
    go_wp2_with fail
    go_ret
    exact ⟨ret_bool' (by rw [HI.out]; rfl), L1⟩
  · have q1 := roles_ne h1
    have H1 : Hid (¬ R = [101]) := h1
    clear h1
    go_wp2_with fail
    go_ret
    exact ⟨ret_bool' (by rw [HI.out, decide_eq_false H1.out]), L1⟩

set_option maxRecDepth 100000 in
set_option maxHeartbeats 4000000 in
theorem okids_10 (t : Tre) (tx : ByteArray) (q : Int) (s s1 : Option Addr) (c c1 : Nat) (kids : List Int) (B C : Nat) (w : World) (hL : Els 1 cInt w B s kids) (hN : Els 4 cNode w C s1 t.nodes) (hv : ∀ x ∈ kids, ∃ m : Nat, x = m ∧ m < t.nodes.length) (hl : kids.length ≤ 1048576) (hn : t.nodes.length ≤ 1048576) :
    Calls Tryz.prog 38 #[.agg #[.int .i64 10, .string tx, .int .i64 q, .slice s kids.length c], .slice s1 t.nodes.length c1] w (KidSays t 10 kids w) := by
  have k0 := Blk.new w #[.int .i64 10, .string tx, .int .i64 q, .slice s kids.length c] 57
  have L0 := bl_alloc (Below.refl _ w) (.cells #[.int .i64 10, .string tx, .int .i64 q, .slice s kids.length c] 57)
  obtain ⟨x0, x1, x2, x3, x4⟩ := k0.four'
  have hr := rolesOf_any t s s1 c c1 kids B C _ (hL.later cInt_keeps L0) (hN.later cNode_keeps L0) hv hl hn
  go_enter Tryz.func38, Tryz.ntmps38
  go_wp2_with fail
  refine hr.mono ?_
  rintro e w1 ⟨rfl, hb1⟩
  have L1 := bl_trans L0 hb1
  obtain ⟨y0, y1, y2, y3, y4⟩ := (k0.later hb1).four'
  have hrl : (((kids.map (kkAt t)).map rl)).length ≤ 1048576 := by simp; exact hl
  have HI : Hid (kidB 10 (kids.map (kkAt t)) = decide ((kids.map (kkAt t)).map rl = [101, 101])) := kidB_iff (kids_const [1, 1] (fun n => by simp [shp]) (by decide))
  generalize hR : (kids.map (kkAt t)).map rl = R at hrl HI ⊢
  clear hr x0 x1 x2 x3 x4
  by_cases h1 : R = [101, 101]
  · subst h1
    go_wp2_with fail
    go_ret
    exact ⟨ret_bool' (by rw [HI.out]; rfl), L1⟩
  · have q1 := roles_ne h1
    have H1 : Hid (¬ R = [101, 101]) := h1
    clear h1
    go_wp2_with fail
    go_ret
    exact ⟨ret_bool' (by rw [HI.out, decide_eq_false H1.out]), L1⟩

set_option maxRecDepth 100000 in
set_option maxHeartbeats 4000000 in
theorem okids_11 (t : Tre) (tx : ByteArray) (q : Int) (s s1 : Option Addr) (c c1 : Nat) (kids : List Int) (B C : Nat) (w : World) (hL : Els 1 cInt w B s kids) (hN : Els 4 cNode w C s1 t.nodes) (hv : ∀ x ∈ kids, ∃ m : Nat, x = m ∧ m < t.nodes.length) (hl : kids.length ≤ 1048576) (hn : t.nodes.length ≤ 1048576) :
    Calls Tryz.prog 38 #[.agg #[.int .i64 11, .string tx, .int .i64 q, .slice s kids.length c], .slice s1 t.nodes.length c1] w (KidSays t 11 kids w) := by
  have k0 := Blk.new w #[.int .i64 11, .string tx, .int .i64 q, .slice s kids.length c] 57
  have L0 := bl_alloc (Below.refl _ w) (.cells #[.int .i64 11, .string tx, .int .i64 q, .slice s kids.length c] 57)
  obtain ⟨x0, x1, x2, x3, x4⟩ := k0.four'
  have hr := rolesOf_any t s s1 c c1 kids B C _ (hL.later cInt_keeps L0) (hN.later cNode_keeps L0) hv hl hn
  go_enter Tryz.func38, Tryz.ntmps38
  go_wp2_with fail
  refine hr.mono ?_
  rintro e w1 ⟨rfl, hb1⟩
  have L1 := bl_trans L0 hb1
  obtain ⟨y0, y1, y2, y3, y4⟩ := (k0.later hb1).four'
  have hrl : (((kids.map (kkAt t)).map rl)).length ≤ 1048576 := by simp; exact hl
  have HI : Hid (kidB 11 (kids.map (kkAt t)) = @decide (∃ r, (kids.map (kkAt t)).map rl = 101 :: 110 :: r ∧ ∀ b ∈ r, b = 110) (Classical.propDecidable _)) := by classical exact kidB_iff kids_pick
  generalize hR : (kids.map (kkAt t)).map rl = R at hrl HI ⊢
  clear hr x0 x1 x2 x3 x4
  by_cases h1 : ∃ r, R = 101 :: 110 :: r
  · obtain ⟨r, rfl⟩ := h1
    have hp : Lib.hasPrefix (101 :: 110 :: r) [101, 110] = true := by simp [Lib.hasPrefix]
    have hle : (110 :: r).length ≤ 1048576 := by simp at hrl ⊢; omega
    have he : (⟨(101 :: 110 :: r).toArray⟩ : ByteArray).extract 1 (r.length + 1 + 1) = ⟨(110 :: r).toArray⟩ := by apply ByteArray.ext; simp
    go_wp2_with (go_at_call 57; refine (Any.strings_HasPrefix Tryz.laysHasPre _ _ _).mono ?_; rintro e w2 ⟨rfl, rfl⟩; rw [hp])
    refine (only_any (110 :: r) 110 (by decide) hle _).mono ?_
    rintro e w3 ⟨rfl, hb3⟩
    go_wp2_with fail
    go_ret
    refine ⟨ret_bool' ?_, bl_trans L1 hb3⟩
    rw [HI.out]
    rw [decide_eq_decide]
    constructor
    · intro h
      exact ⟨r, rfl, fun b hb => h b (by simp [hb])⟩
    · rintro ⟨r', e, h⟩ b hb
      simp at e
      subst e
      exact h b hb
  · have hp : Lib.hasPrefix R [101, 110] = false := by
      cases hh : Lib.hasPrefix R [101, 110] with
      | false => rfl
      | true =>
        exfalso
        apply h1
        unfold Lib.hasPrefix at hh
        rw [List.isPrefixOf_iff_prefix] at hh
        obtain ⟨r, hr⟩ := hh
        exact ⟨r, by rw [← hr]; rfl⟩
    have H1 : Hid (¬ ∃ r, R = 101 :: 110 :: r) := h1
    clear h1
    go_wp2_with (go_at_call 57; refine (Any.strings_HasPrefix Tryz.laysHasPre _ _ _).mono ?_; rintro e w2 ⟨rfl, rfl⟩; rw [hp])
    go_ret
    exact ⟨ret_bool' (by rw [HI.out]; symm; exact @decide_eq_false _ (Classical.propDecidable _) (fun ⟨r, h, _⟩ => H1.out ⟨r, h⟩)), L1⟩

set_option maxRecDepth 100000 in
set_option maxHeartbeats 4000000 in
theorem okids_12 (t : Tre) (tx : ByteArray) (q : Int) (s s1 : Option Addr) (c c1 : Nat) (kids : List Int) (B C : Nat) (w : World) (hL : Els 1 cInt w B s kids) (hN : Els 4 cNode w C s1 t.nodes) (hv : ∀ x ∈ kids, ∃ m : Nat, x = m ∧ m < t.nodes.length) (hl : kids.length ≤ 1048576) (hn : t.nodes.length ≤ 1048576) :
    Calls Tryz.prog 38 #[.agg #[.int .i64 12, .string tx, .int .i64 q, .slice s kids.length c], .slice s1 t.nodes.length c1] w (KidSays t 12 kids w) := by
  have k0 := Blk.new w #[.int .i64 12, .string tx, .int .i64 q, .slice s kids.length c] 57
  have L0 := bl_alloc (Below.refl _ w) (.cells #[.int .i64 12, .string tx, .int .i64 q, .slice s kids.length c] 57)
  obtain ⟨x0, x1, x2, x3, x4⟩ := k0.four'
  have hr := rolesOf_any t s s1 c c1 kids B C _ (hL.later cInt_keeps L0) (hN.later cNode_keeps L0) hv hl hn
  go_enter Tryz.func38, Tryz.ntmps38
  go_wp2_with fail
  refine hr.mono ?_
  rintro e w1 ⟨rfl, hb1⟩
  have L1 := bl_trans L0 hb1
  obtain ⟨y0, y1, y2, y3, y4⟩ := (k0.later hb1).four'
  have hrl : (((kids.map (kkAt t)).map rl)).length ≤ 1048576 := by simp; exact hl
  have HI : Hid (kidB 12 (kids.map (kkAt t)) = decide ((kids.map (kkAt t)).map rl = [101])) := kidB_iff (kids_const [1] (fun n => by simp [shp]) (by decide))
  generalize hR : (kids.map (kkAt t)).map rl = R at hrl HI ⊢
  clear hr x0 x1 x2 x3 x4
  by_cases h1 : R = [101]
  · subst h1
    go_wp2_with fail
    go_ret
    exact ⟨ret_bool' (by rw [HI.out]; rfl), L1⟩
  · have q1 := roles_ne h1
    have H1 : Hid (¬ R = [101]) := h1
    clear h1
    go_wp2_with fail
    go_ret
    exact ⟨ret_bool' (by rw [HI.out, decide_eq_false H1.out]), L1⟩

set_option maxRecDepth 100000 in
set_option maxHeartbeats 4000000 in
theorem okids_13 (t : Tre) (tx : ByteArray) (q : Int) (s s1 : Option Addr) (c c1 : Nat) (kids : List Int) (B C : Nat) (w : World) (hL : Els 1 cInt w B s kids) (hN : Els 4 cNode w C s1 t.nodes) (hv : ∀ x ∈ kids, ∃ m : Nat, x = m ∧ m < t.nodes.length) (hl : kids.length ≤ 1048576) (hn : t.nodes.length ≤ 1048576) :
    Calls Tryz.prog 38 #[.agg #[.int .i64 13, .string tx, .int .i64 q, .slice s kids.length c], .slice s1 t.nodes.length c1] w (KidSays t 13 kids w) := by
  have k0 := Blk.new w #[.int .i64 13, .string tx, .int .i64 q, .slice s kids.length c] 57
  have L0 := bl_alloc (Below.refl _ w) (.cells #[.int .i64 13, .string tx, .int .i64 q, .slice s kids.length c] 57)
  obtain ⟨x0, x1, x2, x3, x4⟩ := k0.four'
  have hr := rolesOf_any t s s1 c c1 kids B C _ (hL.later cInt_keeps L0) (hN.later cNode_keeps L0) hv hl hn
  go_enter Tryz.func38, Tryz.ntmps38
  go_wp2_with fail
  refine hr.mono ?_
  rintro e w1 ⟨rfl, hb1⟩
  have L1 := bl_trans L0 hb1
  obtain ⟨y0, y1, y2, y3, y4⟩ := (k0.later hb1).four'
  have hrl : (((kids.map (kkAt t)).map rl)).length ≤ 1048576 := by simp; exact hl
  have HI : Hid (kidB 13 (kids.map (kkAt t)) = decide ((kids.map (kkAt t)).map rl = [101])) := kidB_iff (kids_const [1] (fun n => by simp [shp]) (by decide))
  generalize hR : (kids.map (kkAt t)).map rl = R at hrl HI ⊢
  clear hr x0 x1 x2 x3 x4
  by_cases h1 : R = [101]
  · subst h1
    go_wp2_with fail
    go_ret
    exact ⟨ret_bool' (by rw [HI.out]; rfl), L1⟩
  · have q1 := roles_ne h1
    have H1 : Hid (¬ R = [101]) := h1
    clear h1
    go_wp2_with fail
    go_ret
    exact ⟨ret_bool' (by rw [HI.out, decide_eq_false H1.out]), L1⟩

set_option maxRecDepth 100000 in
set_option maxHeartbeats 4000000 in
theorem okids_14 (t : Tre) (tx : ByteArray) (q : Int) (s s1 : Option Addr) (c c1 : Nat) (kids : List Int) (B C : Nat) (w : World) (hL : Els 1 cInt w B s kids) (hN : Els 4 cNode w C s1 t.nodes) (hv : ∀ x ∈ kids, ∃ m : Nat, x = m ∧ m < t.nodes.length) (hl : kids.length ≤ 1048576) (hn : t.nodes.length ≤ 1048576) :
    Calls Tryz.prog 38 #[.agg #[.int .i64 14, .string tx, .int .i64 q, .slice s kids.length c], .slice s1 t.nodes.length c1] w (KidSays t 14 kids w) := by
  have k0 := Blk.new w #[.int .i64 14, .string tx, .int .i64 q, .slice s kids.length c] 57
  have L0 := bl_alloc (Below.refl _ w) (.cells #[.int .i64 14, .string tx, .int .i64 q, .slice s kids.length c] 57)
  obtain ⟨x0, x1, x2, x3, x4⟩ := k0.four'
  have hr := rolesOf_any t s s1 c c1 kids B C _ (hL.later cInt_keeps L0) (hN.later cNode_keeps L0) hv hl hn
  go_enter Tryz.func38, Tryz.ntmps38
  go_wp2_with fail
  refine hr.mono ?_
  rintro e w1 ⟨rfl, hb1⟩
  have L1 := bl_trans L0 hb1
  obtain ⟨y0, y1, y2, y3, y4⟩ := (k0.later hb1).four'
  have hrl : (((kids.map (kkAt t)).map rl)).length ≤ 1048576 := by simp; exact hl
  have HI : Hid (kidB 14 (kids.map (kkAt t)) = decide ((kids.map (kkAt t)).map rl = [101])) := kidB_iff (kids_const [1] (fun n => by simp [shp]) (by decide))
  generalize hR : (kids.map (kkAt t)).map rl = R at hrl HI ⊢
  clear hr x0 x1 x2 x3 x4
  by_cases h1 : R = [101]
  · subst h1
    go_wp2_with fail
    go_ret
    exact ⟨ret_bool' (by rw [HI.out]; rfl), L1⟩
  · have q1 := roles_ne h1
    have H1 : Hid (¬ R = [101]) := h1
    clear h1
    go_wp2_with fail
    go_ret
    exact ⟨ret_bool' (by rw [HI.out, decide_eq_false H1.out]), L1⟩

set_option maxRecDepth 100000 in
set_option maxHeartbeats 4000000 in
theorem okids_15 (t : Tre) (tx : ByteArray) (q : Int) (s s1 : Option Addr) (c c1 : Nat) (kids : List Int) (B C : Nat) (w : World) (hL : Els 1 cInt w B s kids) (hN : Els 4 cNode w C s1 t.nodes) (hv : ∀ x ∈ kids, ∃ m : Nat, x = m ∧ m < t.nodes.length) (hl : kids.length ≤ 1048576) (hn : t.nodes.length ≤ 1048576) :
    Calls Tryz.prog 38 #[.agg #[.int .i64 15, .string tx, .int .i64 q, .slice s kids.length c], .slice s1 t.nodes.length c1] w (KidSays t 15 kids w) := by
  have k0 := Blk.new w #[.int .i64 15, .string tx, .int .i64 q, .slice s kids.length c] 57
  have L0 := bl_alloc (Below.refl _ w) (.cells #[.int .i64 15, .string tx, .int .i64 q, .slice s kids.length c] 57)
  obtain ⟨x0, x1, x2, x3, x4⟩ := k0.four'
  have hr := rolesOf_any t s s1 c c1 kids B C _ (hL.later cInt_keeps L0) (hN.later cNode_keeps L0) hv hl hn
  go_enter Tryz.func38, Tryz.ntmps38
  go_wp2_with fail
  refine hr.mono ?_
  rintro e w1 ⟨rfl, hb1⟩
  have L1 := bl_trans L0 hb1
  obtain ⟨y0, y1, y2, y3, y4⟩ := (k0.later hb1).four'
  have hrl : (((kids.map (kkAt t)).map rl)).length ≤ 1048576 := by simp; exact hl
  have HI : Hid (kidB 15 (kids.map (kkAt t)) = decide ((kids.map (kkAt t)).map rl = [101])) := kidB_iff (kids_const [1] (fun n => by simp [shp]) (by decide))
  generalize hR : (kids.map (kkAt t)).map rl = R at hrl HI ⊢
  clear hr x0 x1 x2 x3 x4
  by_cases h1 : R = [101]
  · subst h1
    go_wp2_with fail
    go_ret
    exact ⟨ret_bool' (by rw [HI.out]; rfl), L1⟩
  · have q1 := roles_ne h1
    have H1 : Hid (¬ R = [101]) := h1
    clear h1
    go_wp2_with fail
    go_ret
    exact ⟨ret_bool' (by rw [HI.out, decide_eq_false H1.out]), L1⟩

set_option maxRecDepth 100000 in
set_option maxHeartbeats 4000000 in
theorem okids_16 (t : Tre) (tx : ByteArray) (q : Int) (s s1 : Option Addr) (c c1 : Nat) (kids : List Int) (B C : Nat) (w : World) (hL : Els 1 cInt w B s kids) (hN : Els 4 cNode w C s1 t.nodes) (hv : ∀ x ∈ kids, ∃ m : Nat, x = m ∧ m < t.nodes.length) (hl : kids.length ≤ 1048576) (hn : t.nodes.length ≤ 1048576) :
    Calls Tryz.prog 38 #[.agg #[.int .i64 16, .string tx, .int .i64 q, .slice s kids.length c], .slice s1 t.nodes.length c1] w (KidSays t 16 kids w) := by
  have k0 := Blk.new w #[.int .i64 16, .string tx, .int .i64 q, .slice s kids.length c] 57
  have L0 := bl_alloc (Below.refl _ w) (.cells #[.int .i64 16, .string tx, .int .i64 q, .slice s kids.length c] 57)
  obtain ⟨x0, x1, x2, x3, x4⟩ := k0.four'
  have hr := rolesOf_any t s s1 c c1 kids B C _ (hL.later cInt_keeps L0) (hN.later cNode_keeps L0) hv hl hn
  go_enter Tryz.func38, Tryz.ntmps38
  go_wp2_with fail
  refine hr.mono ?_
  rintro e w1 ⟨rfl, hb1⟩
  have L1 := bl_trans L0 hb1
  obtain ⟨y0, y1, y2, y3, y4⟩ := (k0.later hb1).four'
  have hrl : (((kids.map (kkAt t)).map rl)).length ≤ 1048576 := by simp; exact hl
  have HI : Hid (kidB 16 (kids.map (kkAt t)) = decide ((kids.map (kkAt t)).map rl = [101, 98] ∨ (kids.map (kkAt t)).map rl = [101, 98, 98])) := kidB_iff kids_if
  generalize hR : (kids.map (kkAt t)).map rl = R at hrl HI ⊢
  clear hr x0 x1 x2 x3 x4
  by_cases h1 : R = [101, 98]
  · subst h1
    go_wp2_with fail
    go_ret
    exact ⟨ret_bool' (by rw [HI.out]; rfl), L1⟩
  · have q1 := roles_ne h1
    have H1 : Hid (¬ R = [101, 98]) := h1
    clear h1
    by_cases h2 : R = [101, 98, 98]
    · subst h2
      go_wp2_with fail
      go_ret
      exact ⟨ret_bool' (by rw [HI.out]; rfl), L1⟩
    · have q2 := roles_ne h2
      have H2 : Hid (¬ R = [101, 98, 98]) := h2
      clear h2
      go_wp2_with fail
      go_ret
      exact ⟨ret_bool' (by rw [HI.out, decide_eq_false (fun g => g.elim H1.out H2.out)]), L1⟩

set_option maxRecDepth 100000 in
set_option maxHeartbeats 4000000 in
theorem okids_17 (t : Tre) (tx : ByteArray) (q : Int) (s s1 : Option Addr) (c c1 : Nat) (kids : List Int) (B C : Nat) (w : World) (hL : Els 1 cInt w B s kids) (hN : Els 4 cNode w C s1 t.nodes) (hv : ∀ x ∈ kids, ∃ m : Nat, x = m ∧ m < t.nodes.length) (hl : kids.length ≤ 1048576) (hn : t.nodes.length ≤ 1048576) :
    Calls Tryz.prog 38 #[.agg #[.int .i64 17, .string tx, .int .i64 q, .slice s kids.length c], .slice s1 t.nodes.length c1] w (KidSays t 17 kids w) := by
  have k0 := Blk.new w #[.int .i64 17, .string tx, .int .i64 q, .slice s kids.length c] 57
  have L0 := bl_alloc (Below.refl _ w) (.cells #[.int .i64 17, .string tx, .int .i64 q, .slice s kids.length c] 57)
  obtain ⟨x0, x1, x2, x3, x4⟩ := k0.four'
  have hr := rolesOf_any t s s1 c c1 kids B C _ (hL.later cInt_keeps L0) (hN.later cNode_keeps L0) hv hl hn
  go_enter Tryz.func38, Tryz.ntmps38
  go_wp2_with fail
  refine hr.mono ?_
  rintro e w1 ⟨rfl, hb1⟩
  have L1 := bl_trans L0 hb1
  obtain ⟨y0, y1, y2, y3, y4⟩ := (k0.later hb1).four'
  have hrl : (((kids.map (kkAt t)).map rl)).length ≤ 1048576 := by simp; exact hl
  have HI : Hid (kidB 17 (kids.map (kkAt t)) = decide ((kids.map (kkAt t)).map rl = [101, 98])) := kidB_iff (kids_const [1, 3] (fun n => by simp [shp]) (by decide))
  generalize hR : (kids.map (kkAt t)).map rl = R at hrl HI ⊢
  clear hr x0 x1 x2 x3 x4
  by_cases h1 : R = [101, 98]
  · subst h1
    go_wp2_with fail
    go_ret
    exact ⟨ret_bool' (by rw [HI.out]; rfl), L1⟩
  · have q1 := roles_ne h1
    have H1 : Hid (¬ R = [101, 98]) := h1
    clear h1
    go_wp2_with fail
    go_ret
    exact ⟨ret_bool' (by rw [HI.out, decide_eq_false H1.out]), L1⟩

set_option maxRecDepth 100000 in
set_option maxHeartbeats 4000000 in
theorem okids_18 (t : Tre) (tx : ByteArray) (q : Int) (s s1 : Option Addr) (c c1 : Nat) (kids : List Int) (B C : Nat) (w : World) (hL : Els 1 cInt w B s kids) (hN : Els 4 cNode w C s1 t.nodes) (hv : ∀ x ∈ kids, ∃ m : Nat, x = m ∧ m < t.nodes.length) (hl : kids.length ≤ 1048576) (hn : t.nodes.length ≤ 1048576) :
    Calls Tryz.prog 38 #[.agg #[.int .i64 18, .string tx, .int .i64 q, .slice s kids.length c], .slice s1 t.nodes.length c1] w (KidSays t 18 kids w) := by
  have k0 := Blk.new w #[.int .i64 18, .string tx, .int .i64 q, .slice s kids.length c] 57
  have L0 := bl_alloc (Below.refl _ w) (.cells #[.int .i64 18, .string tx, .int .i64 q, .slice s kids.length c] 57)
  obtain ⟨x0, x1, x2, x3, x4⟩ := k0.four'
  have hr := rolesOf_any t s s1 c c1 kids B C _ (hL.later cInt_keeps L0) (hN.later cNode_keeps L0) hv hl hn
  go_enter Tryz.func38, Tryz.ntmps38
  go_wp2_with fail
  refine hr.mono ?_
  rintro e w1 ⟨rfl, hb1⟩
  have L1 := bl_trans L0 hb1
  obtain ⟨y0, y1, y2, y3, y4⟩ := (k0.later hb1).four'
  have hrl : (((kids.map (kkAt t)).map rl)).length ≤ 1048576 := by simp; exact hl
  have HI : Hid (kidB 18 (kids.map (kkAt t)) = decide ((kids.map (kkAt t)).map rl = [119, 111, 98])) := kidB_iff (kids_const [4, 5, 3] (fun n => by simp [shp]) (by decide))
  generalize hR : (kids.map (kkAt t)).map rl = R at hrl HI ⊢
  clear hr x0 x1 x2 x3 x4
  by_cases h1 : R = [119, 111, 98]
  · subst h1
    go_wp2_with fail
    go_ret
    exact ⟨ret_bool' (by rw [HI.out]; rfl), L1⟩
  · have q1 := roles_ne h1
    have H1 : Hid (¬ R = [119, 111, 98]) := h1
    clear h1
    go_wp2_with fail
    go_ret
    exact ⟨ret_bool' (by rw [HI.out, decide_eq_false H1.out]), L1⟩

set_option maxRecDepth 100000 in
set_option maxHeartbeats 4000000 in
theorem okids_19 (t : Tre) (tx : ByteArray) (q : Int) (s s1 : Option Addr) (c c1 : Nat) (kids : List Int) (B C : Nat) (w : World) (hL : Els 1 cInt w B s kids) (hN : Els 4 cNode w C s1 t.nodes) (hv : ∀ x ∈ kids, ∃ m : Nat, x = m ∧ m < t.nodes.length) (hl : kids.length ≤ 1048576) (hn : t.nodes.length ≤ 1048576) :
    Calls Tryz.prog 38 #[.agg #[.int .i64 19, .string tx, .int .i64 q, .slice s kids.length c], .slice s1 t.nodes.length c1] w (KidSays t 19 kids w) := by
  have k0 := Blk.new w #[.int .i64 19, .string tx, .int .i64 q, .slice s kids.length c] 57
  have L0 := bl_alloc (Below.refl _ w) (.cells #[.int .i64 19, .string tx, .int .i64 q, .slice s kids.length c] 57)
  obtain ⟨x0, x1, x2, x3, x4⟩ := k0.four'
  have hr := rolesOf_any t s s1 c c1 kids B C _ (hL.later cInt_keeps L0) (hN.later cNode_keeps L0) hv hl hn
  go_enter Tryz.func38, Tryz.ntmps38
  go_wp2_with fail
  refine hr.mono ?_
  rintro e w1 ⟨rfl, hb1⟩
  have L1 := bl_trans L0 hb1
  obtain ⟨y0, y1, y2, y3, y4⟩ := (k0.later hb1).four'
  have hrl : (((kids.map (kkAt t)).map rl)).length ≤ 1048576 := by simp; exact hl
  have HI : Hid (kidB 19 (kids.map (kkAt t)) = decide ((kids.map (kkAt t)).map rl = [101])) := kidB_iff (kids_const [1] (fun n => by simp [shp]) (by decide))
  generalize hR : (kids.map (kkAt t)).map rl = R at hrl HI ⊢
  clear hr x0 x1 x2 x3 x4
  by_cases h1 : R = [101]
  · subst h1
    go_wp2_with fail
    go_ret
    exact ⟨ret_bool' (by rw [HI.out]; rfl), L1⟩
  · have q1 := roles_ne h1
    have H1 : Hid (¬ R = [101]) := h1
    clear h1
    go_wp2_with fail
    go_ret
    exact ⟨ret_bool' (by rw [HI.out, decide_eq_false H1.out]), L1⟩

set_option maxRecDepth 100000 in
set_option maxHeartbeats 4000000 in
theorem okids_20 (t : Tre) (tx : ByteArray) (q : Int) (s s1 : Option Addr) (c c1 : Nat) (kids : List Int) (B C : Nat) (w : World) (hL : Els 1 cInt w B s kids) (hN : Els 4 cNode w C s1 t.nodes) (hv : ∀ x ∈ kids, ∃ m : Nat, x = m ∧ m < t.nodes.length) (hl : kids.length ≤ 1048576) (hn : t.nodes.length ≤ 1048576) :
    Calls Tryz.prog 38 #[.agg #[.int .i64 20, .string tx, .int .i64 q, .slice s kids.length c], .slice s1 t.nodes.length c1] w (KidSays t 20 kids w) := by
  have k0 := Blk.new w #[.int .i64 20, .string tx, .int .i64 q, .slice s kids.length c] 57
  have L0 := bl_alloc (Below.refl _ w) (.cells #[.int .i64 20, .string tx, .int .i64 q, .slice s kids.length c] 57)
  obtain ⟨x0, x1, x2, x3, x4⟩ := k0.four'
  have hr := rolesOf_any t s s1 c c1 kids B C _ (hL.later cInt_keeps L0) (hN.later cNode_keeps L0) hv hl hn
  go_enter Tryz.func38, Tryz.ntmps38
  go_wp2_with fail
  refine hr.mono ?_
  rintro e w1 ⟨rfl, hb1⟩
  have L1 := bl_trans L0 hb1
  obtain ⟨y0, y1, y2, y3, y4⟩ := (k0.later hb1).four'
  have hrl : (((kids.map (kkAt t)).map rl)).length ≤ 1048576 := by simp; exact hl
  have HI : Hid (kidB 20 (kids.map (kkAt t)) = decide ((kids.map (kkAt t)).map rl = [110, 98])) := kidB_iff (kids_const [6, 3] (fun n => by simp [shp]) (by decide))
  generalize hR : (kids.map (kkAt t)).map rl = R at hrl HI ⊢
  clear hr x0 x1 x2 x3 x4
  by_cases h1 : R = [110, 98]
  · subst h1
    go_wp2_with fail
    go_ret
    exact ⟨ret_bool' (by rw [HI.out]; rfl), L1⟩
  · have q1 := roles_ne h1
    have H1 : Hid (¬ R = [110, 98]) := h1
    clear h1
    go_wp2_with fail
    go_ret
    exact ⟨ret_bool' (by rw [HI.out, decide_eq_false H1.out]), L1⟩

set_option maxRecDepth 100000 in
set_option maxHeartbeats 4000000 in
theorem okids_21 (t : Tre) (tx : ByteArray) (q : Int) (s s1 : Option Addr) (c c1 : Nat) (kids : List Int) (B C : Nat) (w : World) (hL : Els 1 cInt w B s kids) (hN : Els 4 cNode w C s1 t.nodes) (hv : ∀ x ∈ kids, ∃ m : Nat, x = m ∧ m < t.nodes.length) (hl : kids.length ≤ 1048576) (hn : t.nodes.length ≤ 1048576) :
    Calls Tryz.prog 38 #[.agg #[.int .i64 21, .string tx, .int .i64 q, .slice s kids.length c], .slice s1 t.nodes.length c1] w (KidSays t 21 kids w) := by
  have k0 := Blk.new w #[.int .i64 21, .string tx, .int .i64 q, .slice s kids.length c] 57
  have L0 := bl_alloc (Below.refl _ w) (.cells #[.int .i64 21, .string tx, .int .i64 q, .slice s kids.length c] 57)
  obtain ⟨x0, x1, x2, x3, x4⟩ := k0.four'
  have hr := rolesOf_any t s s1 c c1 kids B C _ (hL.later cInt_keeps L0) (hN.later cNode_keeps L0) hv hl hn
  go_enter Tryz.func38, Tryz.ntmps38
  go_wp2_with fail
  refine hr.mono ?_
  rintro e w1 ⟨rfl, hb1⟩
  have L1 := bl_trans L0 hb1
  obtain ⟨y0, y1, y2, y3, y4⟩ := (k0.later hb1).four'
  have hrl : (((kids.map (kkAt t)).map rl)).length ≤ 1048576 := by simp; exact hl
  have HI : Hid (kidB 21 (kids.map (kkAt t)) = decide (∀ b ∈ (kids.map (kkAt t)).map rl, b = 99)) := kidB_iff (kids_rep (c := 8) (fun n => by simp [shp]) (by decide))
  generalize hR : (kids.map (kkAt t)).map rl = R at hrl HI ⊢
  clear hr x0 x1 x2 x3 x4
  go_wp2_with (go_at_call 39; refine (only_any _ 99 (by decide) hrl _).mono ?_; rintro e w2 ⟨rfl, hb2⟩)
  go_ret
  exact ⟨ret_bool' (by rw [HI.out]), bl_trans L1 hb2⟩

set_option maxRecDepth 100000 in
set_option maxHeartbeats 4000000 in
theorem okids_22 (t : Tre) (tx : ByteArray) (q : Int) (s s1 : Option Addr) (c c1 : Nat) (kids : List Int) (B C : Nat) (w : World) (hL : Els 1 cInt w B s kids) (hN : Els 4 cNode w C s1 t.nodes) (hv : ∀ x ∈ kids, ∃ m : Nat, x = m ∧ m < t.nodes.length) (hl : kids.length ≤ 1048576) (hn : t.nodes.length ≤ 1048576) :
    Calls Tryz.prog 38 #[.agg #[.int .i64 22, .string tx, .int .i64 q, .slice s kids.length c], .slice s1 t.nodes.length c1] w (KidSays t 22 kids w) := by
  have k0 := Blk.new w #[.int .i64 22, .string tx, .int .i64 q, .slice s kids.length c] 57
  have L0 := bl_alloc (Below.refl _ w) (.cells #[.int .i64 22, .string tx, .int .i64 q, .slice s kids.length c] 57)
  obtain ⟨x0, x1, x2, x3, x4⟩ := k0.four'
  have hr := rolesOf_any t s s1 c c1 kids B C _ (hL.later cInt_keeps L0) (hN.later cNode_keeps L0) hv hl hn
  go_enter Tryz.func38, Tryz.ntmps38
  go_wp2_with fail
  refine hr.mono ?_
  rintro e w1 ⟨rfl, hb1⟩
  have L1 := bl_trans L0 hb1
  obtain ⟨y0, y1, y2, y3, y4⟩ := (k0.later hb1).four'
  have hrl : (((kids.map (kkAt t)).map rl)).length ≤ 1048576 := by simp; exact hl
  have HI : Hid (kidB 22 (kids.map (kkAt t)) = decide ((kids.map (kkAt t)).map rl = [])) := kidB_iff (kids_const [] (fun n => by simp [shp]) (by decide))
  generalize hR : (kids.map (kkAt t)).map rl = R at hrl HI ⊢
  clear hr x0 x1 x2 x3 x4
  by_cases h1 : R = []
  · subst h1
    go_wp2_with fail
    go_ret
    exact ⟨ret_bool' (by rw [HI.out]; rfl), L1⟩
  · have q1 := not_empty (not_nil_str h1)
    have H1 : Hid (¬ R = []) := h1
    clear h1
    go_wp2_with fail
    go_ret
    exact ⟨ret_bool' (by rw [HI.out, decide_eq_false H1.out]; have h9 := not_empty (not_nil_str H1.out); simpa using h9), L1⟩

set_option maxRecDepth 100000 in
set_option maxHeartbeats 4000000 in
theorem okids_23 (t : Tre) (tx : ByteArray) (q : Int) (s s1 : Option Addr) (c c1 : Nat) (kids : List Int) (B C : Nat) (w : World) (hL : Els 1 cInt w B s kids) (hN : Els 4 cNode w C s1 t.nodes) (hv : ∀ x ∈ kids, ∃ m : Nat, x = m ∧ m < t.nodes.length) (hl : kids.length ≤ 1048576) (hn : t.nodes.length ≤ 1048576) :
    Calls Tryz.prog 38 #[.agg #[.int .i64 23, .string tx, .int .i64 q, .slice s kids.length c], .slice s1 t.nodes.length c1] w (KidSays t 23 kids w) := by
  have k0 := Blk.new w #[.int .i64 23, .string tx, .int .i64 q, .slice s kids.length c] 57
  have L0 := bl_alloc (Below.refl _ w) (.cells #[.int .i64 23, .string tx, .int .i64 q, .slice s kids.length c] 57)
  obtain ⟨x0, x1, x2, x3, x4⟩ := k0.four'
  have hr := rolesOf_any t s s1 c c1 kids B C _ (hL.later cInt_keeps L0) (hN.later cNode_keeps L0) hv hl hn
  go_enter Tryz.func38, Tryz.ntmps38
  go_wp2_with fail
  refine hr.mono ?_
  rintro e w1 ⟨rfl, hb1⟩
  have L1 := bl_trans L0 hb1
  obtain ⟨y0, y1, y2, y3, y4⟩ := (k0.later hb1).four'
  have hrl : (((kids.map (kkAt t)).map rl)).length ≤ 1048576 := by simp; exact hl
  have HI : Hid (kidB 23 (kids.map (kkAt t)) = decide ((kids.map (kkAt t)).map rl = [101])) := kidB_iff (kids_const [1] (fun n => by simp [shp]) (by decide))
  generalize hR : (kids.map (kkAt t)).map rl = R at hrl HI ⊢
  clear hr x0 x1 x2 x3 x4
  by_cases h1 : R = [101]
  · subst h1
    go_wp2_with fail
    go_ret
    exact ⟨ret_bool' (by rw [HI.out]; rfl), L1⟩
  · have q1 := roles_ne h1
    have H1 : Hid (¬ R = [101]) := h1
    clear h1
    go_wp2_with fail
    go_ret
    exact ⟨ret_bool' (by rw [HI.out, decide_eq_false H1.out]), L1⟩

set_option maxRecDepth 100000 in
set_option maxHeartbeats 4000000 in
theorem okids_24 (t : Tre) (tx : ByteArray) (q : Int) (s s1 : Option Addr) (c c1 : Nat) (kids : List Int) (B C : Nat) (w : World) (hL : Els 1 cInt w B s kids) (hN : Els 4 cNode w C s1 t.nodes) (hv : ∀ x ∈ kids, ∃ m : Nat, x = m ∧ m < t.nodes.length) (hl : kids.length ≤ 1048576) (hn : t.nodes.length ≤ 1048576) :
    Calls Tryz.prog 38 #[.agg #[.int .i64 24, .string tx, .int .i64 q, .slice s kids.length c], .slice s1 t.nodes.length c1] w (KidSays t 24 kids w) := by
  have k0 := Blk.new w #[.int .i64 24, .string tx, .int .i64 q, .slice s kids.length c] 57
  have L0 := bl_alloc (Below.refl _ w) (.cells #[.int .i64 24, .string tx, .int .i64 q, .slice s kids.length c] 57)
  obtain ⟨x0, x1, x2, x3, x4⟩ := k0.four'
  have hr := rolesOf_any t s s1 c c1 kids B C _ (hL.later cInt_keeps L0) (hN.later cNode_keeps L0) hv hl hn
  go_enter Tryz.func38, Tryz.ntmps38
  go_wp2_with fail
  refine hr.mono ?_
  rintro e w1 ⟨rfl, hb1⟩
  have L1 := bl_trans L0 hb1
  obtain ⟨y0, y1, y2, y3, y4⟩ := (k0.later hb1).four'
  have hrl : (((kids.map (kkAt t)).map rl)).length ≤ 1048576 := by simp; exact hl
  have HI : Hid (kidB 24 (kids.map (kkAt t)) = decide ((kids.map (kkAt t)).map rl = [])) := kidB_iff (kids_const [] (fun n => by simp [shp]) (by decide))
  generalize hR : (kids.map (kkAt t)).map rl = R at hrl HI ⊢
  clear hr x0 x1 x2 x3 x4
  by_cases h1 : R = []
  · subst h1
    go_wp2_with fail
    go_ret
    exact ⟨ret_bool' (by rw [HI.out]; rfl), L1⟩
  · have q1 := not_empty (not_nil_str h1)
    have H1 : Hid (¬ R = []) := h1
    clear h1
    go_wp2_with fail
    go_ret
    exact ⟨ret_bool' (by rw [HI.out, decide_eq_false H1.out]; have h9 := not_empty (not_nil_str H1.out); simpa using h9), L1⟩

set_option maxRecDepth 100000 in
set_option maxHeartbeats 4000000 in
theorem okids_25 (t : Tre) (tx : ByteArray) (q : Int) (s s1 : Option Addr) (c c1 : Nat) (kids : List Int) (B C : Nat) (w : World) (hL : Els 1 cInt w B s kids) (hN : Els 4 cNode w C s1 t.nodes) (hv : ∀ x ∈ kids, ∃ m : Nat, x = m ∧ m < t.nodes.length) (hl : kids.length ≤ 1048576) (hn : t.nodes.length ≤ 1048576) :
    Calls Tryz.prog 38 #[.agg #[.int .i64 25, .string tx, .int .i64 q, .slice s kids.length c], .slice s1 t.nodes.length c1] w (KidSays t 25 kids w) := by
  have k0 := Blk.new w #[.int .i64 25, .string tx, .int .i64 q, .slice s kids.length c] 57
  have L0 := bl_alloc (Below.refl _ w) (.cells #[.int .i64 25, .string tx, .int .i64 q, .slice s kids.length c] 57)
  obtain ⟨x0, x1, x2, x3, x4⟩ := k0.four'
  have hr := rolesOf_any t s s1 c c1 kids B C _ (hL.later cInt_keeps L0) (hN.later cNode_keeps L0) hv hl hn
  go_enter Tryz.func38, Tryz.ntmps38
  go_wp2_with fail
  refine hr.mono ?_
  rintro e w1 ⟨rfl, hb1⟩
  have L1 := bl_trans L0 hb1
  obtain ⟨y0, y1, y2, y3, y4⟩ := (k0.later hb1).four'
  have hrl : (((kids.map (kkAt t)).map rl)).length ≤ 1048576 := by simp; exact hl
  have HI : Hid (kidB 25 (kids.map (kkAt t)) = decide ((kids.map (kkAt t)).map rl = [101] ∧ (kids.map (kkAt t))[0]? = some 7)) := kidB_iff kids_do
  generalize hR : (kids.map (kkAt t)).map rl = R at hrl HI ⊢
  have HR : Hid ((kids.map (kkAt t)).map rl = R) := hR
  clear hR
  clear hr x0 x1 x2 x3 x4
  by_cases h1 : R = [101]
  · subst h1
    have hl1 : kids.length = 1 := by have := congrArg List.length HR.out; simpa using this
    obtain ⟨x, hx⟩ := get_some (show 0 < kids.length by omega)
    obtain ⟨m, rfl, hm⟩ := hv x (List.mem_of_getElem? hx)
    obtain ⟨nd, hnd⟩ := get_some hm
    obtain ⟨kb, ko, rfl, _, hkb, p0⟩ := eInt_cells (hL.later cInt_keeps L1) hx
    obtain ⟨b, o, rfl, _, hb, s9, c9, e0, _, _, _, _⟩ := eNode_cells (hN.later cNode_keeps L1) hnd
    have HK : Hid ((kids.map (kkAt t))[0]? = some nd.kind) := by show _ = _; simp [List.getElem?_map, hx, kkAt, hnd]
    have hmI : (m : Int) < (t.nodes.length : Int) := by omega
    have hl2 : 0 < kids.length := by omega
    simp only [Nat.add_zero] at p0
    clear hv hx hnd hL hN hl1
    cases q7 : (nd.kind == 7)
    · have HE : Hid (¬ nd.kind = 7) := by show ¬ _; simpa using q7
      go_wp2_with fail
      go_ret
      exact ⟨ret_bool' (by rw [HI.out, HK.out, decide_eq_false (fun g => HE.out (by simpa using g.2))]), L1⟩
    · have HE : Hid (nd.kind = 7) := by show _ = _; simpa using q7
      go_wp2_with fail
      go_ret
      exact ⟨ret_bool' (by rw [HI.out, HK.out, HE.out]; rfl), L1⟩
  · have q1 := roles_ne h1
    have H1 : Hid (¬ R = [101]) := h1
    clear h1
    go_wp2_with fail
    go_ret
    exact ⟨ret_bool' (by rw [HI.out, decide_eq_false (fun g => H1.out g.1)]), L1⟩

set_option maxRecDepth 100000 in
set_option maxHeartbeats 4000000 in
theorem okids_26 (t : Tre) (tx : ByteArray) (q : Int) (s s1 : Option Addr) (c c1 : Nat) (kids : List Int) (B C : Nat) (w : World) (hL : Els 1 cInt w B s kids) (hN : Els 4 cNode w C s1 t.nodes) (hv : ∀ x ∈ kids, ∃ m : Nat, x = m ∧ m < t.nodes.length) (hl : kids.length ≤ 1048576) (hn : t.nodes.length ≤ 1048576) :
    Calls Tryz.prog 38 #[.agg #[.int .i64 26, .string tx, .int .i64 q, .slice s kids.length c], .slice s1 t.nodes.length c1] w (KidSays t 26 kids w) := by
  have k0 := Blk.new w #[.int .i64 26, .string tx, .int .i64 q, .slice s kids.length c] 57
  have L0 := bl_alloc (Below.refl _ w) (.cells #[.int .i64 26, .string tx, .int .i64 q, .slice s kids.length c] 57)
  obtain ⟨x0, x1, x2, x3, x4⟩ := k0.four'
  have hr := rolesOf_any t s s1 c c1 kids B C _ (hL.later cInt_keeps L0) (hN.later cNode_keeps L0) hv hl hn
  go_enter Tryz.func38, Tryz.ntmps38
  go_wp2_with fail
  refine hr.mono ?_
  rintro e w1 ⟨rfl, hb1⟩
  have L1 := bl_trans L0 hb1
  obtain ⟨y0, y1, y2, y3, y4⟩ := (k0.later hb1).four'
  have hrl : (((kids.map (kkAt t)).map rl)).length ≤ 1048576 := by simp; exact hl
  have HI : Hid (kidB 26 (kids.map (kkAt t)) = decide ((kids.map (kkAt t)).map rl = [101])) := kidB_iff (kids_const [1] (fun n => by simp [shp]) (by decide))
  generalize hR : (kids.map (kkAt t)).map rl = R at hrl HI ⊢
  clear hr x0 x1 x2 x3 x4
  by_cases h1 : R = [101]
  · subst h1
    go_wp2_with fail
    go_ret
    exact ⟨ret_bool' (by rw [HI.out]; rfl), L1⟩
  · have q1 := roles_ne h1
    have H1 : Hid (¬ R = [101]) := h1
    clear h1
    go_wp2_with fail
    go_ret
    exact ⟨ret_bool' (by rw [HI.out, decide_eq_false H1.out]), L1⟩

set_option maxRecDepth 100000 in
set_option maxHeartbeats 4000000 in
theorem okids_27 (t : Tre) (tx : ByteArray) (q : Int) (s s1 : Option Addr) (c c1 : Nat) (kids : List Int) (B C : Nat) (w : World) (hL : Els 1 cInt w B s kids) (hN : Els 4 cNode w C s1 t.nodes) (hv : ∀ x ∈ kids, ∃ m : Nat, x = m ∧ m < t.nodes.length) (hl : kids.length ≤ 1048576) (hn : t.nodes.length ≤ 1048576) :
    Calls Tryz.prog 38 #[.agg #[.int .i64 27, .string tx, .int .i64 q, .slice s kids.length c], .slice s1 t.nodes.length c1] w (KidSays t 27 kids w) := by
  have k0 := Blk.new w #[.int .i64 27, .string tx, .int .i64 q, .slice s kids.length c] 57
  have L0 := bl_alloc (Below.refl _ w) (.cells #[.int .i64 27, .string tx, .int .i64 q, .slice s kids.length c] 57)
  obtain ⟨x0, x1, x2, x3, x4⟩ := k0.four'
  have hr := rolesOf_any t s s1 c c1 kids B C _ (hL.later cInt_keeps L0) (hN.later cNode_keeps L0) hv hl hn
  go_enter Tryz.func38, Tryz.ntmps38
  go_wp2_with fail
  refine hr.mono ?_
  rintro e w1 ⟨rfl, hb1⟩
  have L1 := bl_trans L0 hb1
  obtain ⟨y0, y1, y2, y3, y4⟩ := (k0.later hb1).four'
  have hrl : (((kids.map (kkAt t)).map rl)).length ≤ 1048576 := by simp; exact hl
  have HI : Hid (kidB 27 (kids.map (kkAt t)) = decide (∀ b ∈ (kids.map (kkAt t)).map rl, b = 115)) := kidB_iff (kids_rep (c := 2) (fun n => by simp [shp]) (by decide))
  generalize hR : (kids.map (kkAt t)).map rl = R at hrl HI ⊢
  clear hr x0 x1 x2 x3 x4
  go_wp2_with (go_at_call 39; refine (only_any _ 115 (by decide) hrl _).mono ?_; rintro e w2 ⟨rfl, hb2⟩)
  go_ret
  exact ⟨ret_bool' (by rw [HI.out]), bl_trans L1 hb2⟩

set_option maxRecDepth 100000 in
set_option maxHeartbeats 4000000 in
theorem okids_28 (t : Tre) (tx : ByteArray) (q : Int) (s s1 : Option Addr) (c c1 : Nat) (kids : List Int) (B C : Nat) (w : World) (hL : Els 1 cInt w B s kids) (hN : Els 4 cNode w C s1 t.nodes) (hv : ∀ x ∈ kids, ∃ m : Nat, x = m ∧ m < t.nodes.length) (hl : kids.length ≤ 1048576) (hn : t.nodes.length ≤ 1048576) :
    Calls Tryz.prog 38 #[.agg #[.int .i64 28, .string tx, .int .i64 q, .slice s kids.length c], .slice s1 t.nodes.length c1] w (KidSays t 28 kids w) := by
  have k0 := Blk.new w #[.int .i64 28, .string tx, .int .i64 q, .slice s kids.length c] 57
  have L0 := bl_alloc (Below.refl _ w) (.cells #[.int .i64 28, .string tx, .int .i64 q, .slice s kids.length c] 57)
  obtain ⟨x0, x1, x2, x3, x4⟩ := k0.four'
  have hr := rolesOf_any t s s1 c c1 kids B C _ (hL.later cInt_keeps L0) (hN.later cNode_keeps L0) hv hl hn
  go_enter Tryz.func38, Tryz.ntmps38
  go_wp2_with fail
  refine hr.mono ?_
  rintro e w1 ⟨rfl, hb1⟩
  have L1 := bl_trans L0 hb1
  obtain ⟨y0, y1, y2, y3, y4⟩ := (k0.later hb1).four'
  have hrl : (((kids.map (kkAt t)).map rl)).length ≤ 1048576 := by simp; exact hl
  have HI : Hid (kidB 28 (kids.map (kkAt t)) = decide ((kids.map (kkAt t)).map rl = [101])) := kidB_iff (kids_const [1] (fun n => by simp [shp]) (by decide))
  generalize hR : (kids.map (kkAt t)).map rl = R at hrl HI ⊢
  clear hr x0 x1 x2 x3 x4
  by_cases h1 : R = [101]
  · subst h1
    go_wp2_with fail
    go_ret
    exact ⟨ret_bool' (by rw [HI.out]; rfl), L1⟩
  · have q1 := roles_ne h1
    have H1 : Hid (¬ R = [101]) := h1
    clear h1
    go_wp2_with fail
    go_ret
    exact ⟨ret_bool' (by rw [HI.out, decide_eq_false H1.out]), L1⟩

set_option maxRecDepth 100000 in
set_option maxHeartbeats 4000000 in
theorem okids_29 (t : Tre) (tx : ByteArray) (q : Int) (s s1 : Option Addr) (c c1 : Nat) (kids : List Int) (B C : Nat) (w : World) (hL : Els 1 cInt w B s kids) (hN : Els 4 cNode w C s1 t.nodes) (hv : ∀ x ∈ kids, ∃ m : Nat, x = m ∧ m < t.nodes.length) (hl : kids.length ≤ 1048576) (hn : t.nodes.length ≤ 1048576) :
    Calls Tryz.prog 38 #[.agg #[.int .i64 29, .string tx, .int .i64 q, .slice s kids.length c], .slice s1 t.nodes.length c1] w (KidSays t 29 kids w) := by
  have k0 := Blk.new w #[.int .i64 29, .string tx, .int .i64 q, .slice s kids.length c] 57
  have L0 := bl_alloc (Below.refl _ w) (.cells #[.int .i64 29, .string tx, .int .i64 q, .slice s kids.length c] 57)
  obtain ⟨x0, x1, x2, x3, x4⟩ := k0.four'
  have hr := rolesOf_any t s s1 c c1 kids B C _ (hL.later cInt_keeps L0) (hN.later cNode_keeps L0) hv hl hn
  go_enter Tryz.func38, Tryz.ntmps38
  go_wp2_with fail
  refine hr.mono ?_
  rintro e w1 ⟨rfl, hb1⟩
  have L1 := bl_trans L0 hb1
  obtain ⟨y0, y1, y2, y3, y4⟩ := (k0.later hb1).four'
  have hrl : (((kids.map (kkAt t)).map rl)).length ≤ 1048576 := by simp; exact hl
  have HI : Hid (kidB 29 (kids.map (kkAt t)) = decide (¬ (kids.map (kkAt t)).map rl = [] ∧ ∀ b ∈ (kids.map (kkAt t)).map rl, b = 110)) := kidB_iff kids_with
  generalize hR : (kids.map (kkAt t)).map rl = R at hrl HI ⊢
  clear hr x0 x1 x2 x3 x4
  by_cases h1 : R = []
  · subst h1
    go_wp2_with fail
    go_ret
    exact ⟨ret_bool' (by rw [HI.out]; rfl), L1⟩
  · have q1 := not_empty (not_nil_str h1)
    have H1 : Hid (¬ R = []) := h1
    clear h1
    go_wp2_with (go_at_call 39; refine (only_any _ 110 (by decide) hrl _).mono ?_; rintro e w2 ⟨rfl, hb2⟩)
    go_ret
    refine ⟨ret_bool' ?_, bl_trans L1 hb2⟩
    rw [HI.out]
    have h5 := H1.out
    simp [h5]

set_option maxRecDepth 100000 in
set_option maxHeartbeats 4000000 in
theorem okids_30 (t : Tre) (tx : ByteArray) (q : Int) (s s1 : Option Addr) (c c1 : Nat) (kids : List Int) (B C : Nat) (w : World) (hL : Els 1 cInt w B s kids) (hN : Els 4 cNode w C s1 t.nodes) (hv : ∀ x ∈ kids, ∃ m : Nat, x = m ∧ m < t.nodes.length) (hl : kids.length ≤ 1048576) (hn : t.nodes.length ≤ 1048576) :
    Calls Tryz.prog 38 #[.agg #[.int .i64 30, .string tx, .int .i64 q, .slice s kids.length c], .slice s1 t.nodes.length c1] w (KidSays t 30 kids w) := by
  have k0 := Blk.new w #[.int .i64 30, .string tx, .int .i64 q, .slice s kids.length c] 57
  have L0 := bl_alloc (Below.refl _ w) (.cells #[.int .i64 30, .string tx, .int .i64 q, .slice s kids.length c] 57)
  obtain ⟨x0, x1, x2, x3, x4⟩ := k0.four'
  have hr := rolesOf_any t s s1 c c1 kids B C _ (hL.later cInt_keeps L0) (hN.later cNode_keeps L0) hv hl hn
  go_enter Tryz.func38, Tryz.ntmps38
  go_wp2_with fail
  refine hr.mono ?_
  rintro e w1 ⟨rfl, hb1⟩
  have L1 := bl_trans L0 hb1
  obtain ⟨y0, y1, y2, y3, y4⟩ := (k0.later hb1).four'
  have hrl : (((kids.map (kkAt t)).map rl)).length ≤ 1048576 := by simp; exact hl
  have HI : Hid (kidB 30 (kids.map (kkAt t)) = decide (∀ b ∈ (kids.map (kkAt t)).map rl, b = 110)) := kidB_iff (kids_rep (c := 6) (fun n => by simp [shp]) (by decide))
  generalize hR : (kids.map (kkAt t)).map rl = R at hrl HI ⊢
  clear hr x0 x1 x2 x3 x4
  go_wp2_with (go_at_call 39; refine (only_any _ 110 (by decide) hrl _).mono ?_; rintro e w2 ⟨rfl, hb2⟩)
  go_ret
  exact ⟨ret_bool' (by rw [HI.out]), bl_trans L1 hb2⟩

set_option maxRecDepth 100000 in
set_option maxHeartbeats 4000000 in
theorem okids_31 (t : Tre) (tx : ByteArray) (q : Int) (s s1 : Option Addr) (c c1 : Nat) (kids : List Int) (B C : Nat) (w : World) (hL : Els 1 cInt w B s kids) (hN : Els 4 cNode w C s1 t.nodes) (hv : ∀ x ∈ kids, ∃ m : Nat, x = m ∧ m < t.nodes.length) (hl : kids.length ≤ 1048576) (hn : t.nodes.length ≤ 1048576) :
    Calls Tryz.prog 38 #[.agg #[.int .i64 31, .string tx, .int .i64 q, .slice s kids.length c], .slice s1 t.nodes.length c1] w (KidSays t 31 kids w) := by
  have k0 := Blk.new w #[.int .i64 31, .string tx, .int .i64 q, .slice s kids.length c] 57
  have L0 := bl_alloc (Below.refl _ w) (.cells #[.int .i64 31, .string tx, .int .i64 q, .slice s kids.length c] 57)
  obtain ⟨x0, x1, x2, x3, x4⟩ := k0.four'
  have hr := rolesOf_any t s s1 c c1 kids B C _ (hL.later cInt_keeps L0) (hN.later cNode_keeps L0) hv hl hn
  go_enter Tryz.func38, Tryz.ntmps38
  go_wp2_with fail
  refine hr.mono ?_
  rintro e w1 ⟨rfl, hb1⟩
  have L1 := bl_trans L0 hb1
  obtain ⟨y0, y1, y2, y3, y4⟩ := (k0.later hb1).four'
  have hrl : (((kids.map (kkAt t)).map rl)).length ≤ 1048576 := by simp; exact hl
  have HI : Hid (kidB 31 (kids.map (kkAt t)) = decide ((kids.map (kkAt t)).map rl = [])) := kidB_iff (kids_const [] (fun n => by simp [shp]) (by decide))
  generalize hR : (kids.map (kkAt t)).map rl = R at hrl HI ⊢
  clear hr x0 x1 x2 x3 x4
  by_cases h1 : R = []
  · subst h1
    go_wp2_with fail
    go_ret
    exact ⟨ret_bool' (by rw [HI.out]; rfl), L1⟩
  · have q1 := not_empty (not_nil_str h1)
    have H1 : Hid (¬ R = []) := h1
    clear h1
    go_wp2_with fail
    go_ret
    exact ⟨ret_bool' (by rw [HI.out, decide_eq_false H1.out]; have h9 := not_empty (not_nil_str H1.out); simpa using h9), L1⟩

set_option maxRecDepth 100000 in
set_option maxHeartbeats 4000000 in
theorem okids_32 (t : Tre) (tx : ByteArray) (q : Int) (s s1 : Option Addr) (c c1 : Nat) (kids : List Int) (B C : Nat) (w : World) (hL : Els 1 cInt w B s kids) (hN : Els 4 cNode w C s1 t.nodes) (hv : ∀ x ∈ kids, ∃ m : Nat, x = m ∧ m < t.nodes.length) (hl : kids.length ≤ 1048576) (hn : t.nodes.length ≤ 1048576) :
    Calls Tryz.prog 38 #[.agg #[.int .i64 32, .string tx, .int .i64 q, .slice s kids.length c], .slice s1 t.nodes.length c1] w (KidSays t 32 kids w) := by
  have k0 := Blk.new w #[.int .i64 32, .string tx, .int .i64 q, .slice s kids.length c] 57
  have L0 := bl_alloc (Below.refl _ w) (.cells #[.int .i64 32, .string tx, .int .i64 q, .slice s kids.length c] 57)
  obtain ⟨x0, x1, x2, x3, x4⟩ := k0.four'
  have hr := rolesOf_any t s s1 c c1 kids B C _ (hL.later cInt_keeps L0) (hN.later cNode_keeps L0) hv hl hn
  go_enter Tryz.func38, Tryz.ntmps38
  go_wp2_with fail
  refine hr.mono ?_
  rintro e w1 ⟨rfl, hb1⟩
  have L1 := bl_trans L0 hb1
  obtain ⟨y0, y1, y2, y3, y4⟩ := (k0.later hb1).four'
  have hrl : (((kids.map (kkAt t)).map rl)).length ≤ 1048576 := by simp; exact hl
  have HI : Hid (kidB 32 (kids.map (kkAt t)) = decide ((kids.map (kkAt t)).map rl = [])) := kidB_iff (kids_const [] (fun n => by simp [shp]) (by decide))
  generalize hR : (kids.map (kkAt t)).map rl = R at hrl HI ⊢
  clear hr x0 x1 x2 x3 x4
  by_cases h1 : R = []
  · subst h1
    go_wp2_with fail
    go_ret
    exact ⟨ret_bool' (by rw [HI.out]; rfl), L1⟩
  · have q1 := not_empty (not_nil_str h1)
    have H1 : Hid (¬ R = []) := h1
    clear h1
    go_wp2_with fail
    go_ret
    exact ⟨ret_bool' (by rw [HI.out, decide_eq_false H1.out]; have h9 := not_empty (not_nil_str H1.out); simpa using h9), L1⟩

set_option maxRecDepth 100000 in
set_option maxHeartbeats 4000000 in
theorem okids_33 (t : Tre) (tx : ByteArray) (q : Int) (s s1 : Option Addr) (c c1 : Nat) (kids : List Int) (B C : Nat) (w : World) (hL : Els 1 cInt w B s kids) (hN : Els 4 cNode w C s1 t.nodes) (hv : ∀ x ∈ kids, ∃ m : Nat, x = m ∧ m < t.nodes.length) (hl : kids.length ≤ 1048576) (hn : t.nodes.length ≤ 1048576) :
    Calls Tryz.prog 38 #[.agg #[.int .i64 33, .string tx, .int .i64 q, .slice s kids.length c], .slice s1 t.nodes.length c1] w (KidSays t 33 kids w) := by
  have k0 := Blk.new w #[.int .i64 33, .string tx, .int .i64 q, .slice s kids.length c] 57
  have L0 := bl_alloc (Below.refl _ w) (.cells #[.int .i64 33, .string tx, .int .i64 q, .slice s kids.length c] 57)
  obtain ⟨x0, x1, x2, x3, x4⟩ := k0.four'
  have hr := rolesOf_any t s s1 c c1 kids B C _ (hL.later cInt_keeps L0) (hN.later cNode_keeps L0) hv hl hn
  go_enter Tryz.func38, Tryz.ntmps38
  go_wp2_with fail
  refine hr.mono ?_
  rintro e w1 ⟨rfl, hb1⟩
  have L1 := bl_trans L0 hb1
  obtain ⟨y0, y1, y2, y3, y4⟩ := (k0.later hb1).four'
  have hrl : (((kids.map (kkAt t)).map rl)).length ≤ 1048576 := by simp; exact hl
  have HI : Hid (kidB 33 (kids.map (kkAt t)) = @decide (∃ r, (kids.map (kkAt t)).map rl = r ++ [98] ∧ ∀ b ∈ r, b = 112) (Classical.propDecidable _)) := by classical exact kidB_iff kids_fn
  generalize hR : (kids.map (kkAt t)).map rl = R at hrl HI ⊢
  clear hr x0 x1 x2 x3 x4
  have hT := fun W => Any.strings_TrimLeft_one Tryz.laysTrimLeft ⟨R.toArray⟩ 112 (by decide) W
  have hE : (⟨R.toArray⟩ : ByteArray).data.toList = R := by simp
  simp only [hE] at hT
  by_cases h1 : Lib.trimLeftB R 112 = [98]
  · have HX : Hid (∃ r, R = r ++ [98] ∧ ∀ b ∈ r, b = 112) := ⟨R.takeWhile (· == 112), by rw [← h1]; exact (List.takeWhile_append_dropWhile (p := (· == 112)) (l := R)).symm, fun b hb => by
      have := List.all_takeWhile (p := (· == (112 : UInt8))) (l := R)
      rw [List.all_eq_true] at this
      simpa using this b hb⟩
    rw [h1] at hT
    clear h1
    go_wp2_with (go_at_call 58; refine (hT _).mono ?_; rintro e w2 ⟨rfl, rfl⟩)
    go_ret
    exact ⟨ret_bool' (by rw [HI.out]; symm; exact @decide_eq_true _ (Classical.propDecidable _) HX.out), L1⟩
  · have HX : Hid (¬ ∃ r, R = r ++ [98] ∧ ∀ b ∈ r, b = 112) := by
      rintro ⟨r, e, hr⟩
      apply h1
      rw [e]
      unfold Lib.trimLeftB
      rw [List.dropWhile_append, dropWhile_nil.2 (fun b hb => by simp [hr b hb])]
      rfl
    have q1 := roles_ne h1
    generalize Lib.trimLeftB R 112 = T at hT q1
    clear h1
    go_wp2_with (go_at_call 58; refine (hT _).mono ?_; rintro e w2 ⟨rfl, rfl⟩)
    go_ret
    exact ⟨ret_bool' (by rw [HI.out]; symm; exact @decide_eq_false _ (Classical.propDecidable _) HX.out), L1⟩

set_option maxRecDepth 100000 in
set_option maxHeartbeats 4000000 in
theorem okids_34 (t : Tre) (tx : ByteArray) (q : Int) (s s1 : Option Addr) (c c1 : Nat) (kids : List Int) (B C : Nat) (w : World) (hL : Els 1 cInt w B s kids) (hN : Els 4 cNode w C s1 t.nodes) (hv : ∀ x ∈ kids, ∃ m : Nat, x = m ∧ m < t.nodes.length) (hl : kids.length ≤ 1048576) (hn : t.nodes.length ≤ 1048576) :
    Calls Tryz.prog 38 #[.agg #[.int .i64 34, .string tx, .int .i64 q, .slice s kids.length c], .slice s1 t.nodes.length c1] w (KidSays t 34 kids w) := by
  have k0 := Blk.new w #[.int .i64 34, .string tx, .int .i64 q, .slice s kids.length c] 57
  have L0 := bl_alloc (Below.refl _ w) (.cells #[.int .i64 34, .string tx, .int .i64 q, .slice s kids.length c] 57)
  obtain ⟨x0, x1, x2, x3, x4⟩ := k0.four'
  have hr := rolesOf_any t s s1 c c1 kids B C _ (hL.later cInt_keeps L0) (hN.later cNode_keeps L0) hv hl hn
  go_enter Tryz.func38, Tryz.ntmps38
  go_wp2_with fail
  refine hr.mono ?_
  rintro e w1 ⟨rfl, hb1⟩
  have L1 := bl_trans L0 hb1
  obtain ⟨y0, y1, y2, y3, y4⟩ := (k0.later hb1).four'
  have hrl : (((kids.map (kkAt t)).map rl)).length ≤ 1048576 := by simp; exact hl
  have HI : Hid (kidB 34 (kids.map (kkAt t)) = decide ((kids.map (kkAt t)).map rl = [98])) := kidB_iff (kids_const [3] (fun n => by simp [shp]) (by decide))
  generalize hR : (kids.map (kkAt t)).map rl = R at hrl HI ⊢
  clear hr x0 x1 x2 x3 x4
  by_cases h1 : R = [98]
  · subst h1
    go_wp2_with fail
    go_ret
    exact ⟨ret_bool' (by rw [HI.out]; rfl), L1⟩
  · have q1 := roles_ne h1
    have H1 : Hid (¬ R = [98]) := h1
    clear h1
    go_wp2_with fail
    go_ret
    exact ⟨ret_bool' (by rw [HI.out, decide_eq_false H1.out]), L1⟩

set_option maxRecDepth 100000 in
set_option maxHeartbeats 4000000 in
theorem kidsFit_none (k : Int) (hk : k < 1 ∨ 34 < k) (t : Tre) (tx : ByteArray) (q : Int) (s s1 : Option Addr) (c c1 : Nat) (kids : List Int) (B C : Nat) (w : World) (hL : Els 1 cInt w B s kids) (hN : Els 4 cNode w C s1 t.nodes) (hv : ∀ x ∈ kids, ∃ m : Nat, x = m ∧ m < t.nodes.length) (hl : kids.length ≤ 1048576) (hn : t.nodes.length ≤ 1048576) :
    Calls Tryz.prog 38 #[.agg #[.int .i64 k, .string tx, .int .i64 q, .slice s kids.length c], .slice s1 t.nodes.length c1] w (KidSays t k kids w) := by
  have k0 := Blk.new w #[.int .i64 k, .string tx, .int .i64 q, .slice s kids.length c] 57
  have L0 := bl_alloc (Below.refl _ w) (.cells #[.int .i64 k, .string tx, .int .i64 q, .slice s kids.length c] 57)
  obtain ⟨x0, x1, x2, x3, x4⟩ := k0.four'
  have hr := rolesOf_any t s s1 c c1 kids B C _ (hL.later cInt_keeps L0) (hN.later cNode_keeps L0) hv hl hn
  have HN := noKind hk
  have g7 := HN.ne 7 (by omega) (by omega)
  have g8 := HN.ne 8 (by omega) (by omega)
  have g9 := HN.ne 9 (by omega) (by omega)
  have g10 := HN.ne 10 (by omega) (by omega)
  have g11 := HN.ne 11 (by omega) (by omega)
  have g12 := HN.ne 12 (by omega) (by omega)
  have g13 := HN.ne 13 (by omega) (by omega)
  have g14 := HN.ne 14 (by omega) (by omega)
  have g15 := HN.ne 15 (by omega) (by omega)
  have g16 := HN.ne 16 (by omega) (by omega)
  have g17 := HN.ne 17 (by omega) (by omega)
  have g18 := HN.ne 18 (by omega) (by omega)
  have g19 := HN.ne 19 (by omega) (by omega)
  have g20 := HN.ne 20 (by omega) (by omega)
  have g21 := HN.ne 21 (by omega) (by omega)
  have g23 := HN.ne 23 (by omega) (by omega)
  have g25 := HN.ne 25 (by omega) (by omega)
  have g26 := HN.ne 26 (by omega) (by omega)
  have g27 := HN.ne 27 (by omega) (by omega)
  have g28 := HN.ne 28 (by omega) (by omega)
  have g29 := HN.ne 29 (by omega) (by omega)
  have g30 := HN.ne 30 (by omega) (by omega)
  have g33 := HN.ne 33 (by omega) (by omega)
  have g34 := HN.ne 34 (by omega) (by omega)
  clear HN
  go_enter Tryz.func38, Tryz.ntmps38
  go_wp2_with fail
  refine hr.mono ?_
  rintro e w1 ⟨rfl, hb1⟩
  have L1 := bl_trans L0 hb1
  obtain ⟨y0, y1, y2, y3, y4⟩ := (k0.later hb1).four'
  have hrl : (((kids.map (kkAt t)).map rl)).length ≤ 1048576 := by simp; exact hl
  have HI : Hid (kidB k (kids.map (kkAt t)) = decide ((kids.map (kkAt t)).map rl = [])) := kidB_iff (kids_none hk)
  generalize hR : (kids.map (kkAt t)).map rl = R at hrl HI ⊢
  clear hr x0 x1 x2 x3 x4
  by_cases h1 : R = []
  · subst h1
    go_wp2_with fail
    go_ret
    exact ⟨ret_bool' (by rw [HI.out]; rfl), L1⟩
  · have q1 := not_empty (not_nil_str h1)
    have H1 : Hid (¬ R = []) := h1
    clear h1
    go_wp2_with fail
    go_ret
    exact ⟨ret_bool' (by rw [HI.out, decide_eq_false H1.out]; have h9 := not_empty (not_nil_str H1.out); simpa using h9), L1⟩

theorem kidsFit_any (k : Int) (t : Tre) (tx : ByteArray) (q : Int) (s s1 : Option Addr) (c c1 : Nat) (kids : List Int) (B C : Nat) (w : World) (hL : Els 1 cInt w B s kids) (hN : Els 4 cNode w C s1 t.nodes) (hv : ∀ x ∈ kids, ∃ m : Nat, x = m ∧ m < t.nodes.length) (hl : kids.length ≤ 1048576) (hn : t.nodes.length ≤ 1048576) :
    Calls Tryz.prog 38 #[.agg #[.int .i64 k, .string tx, .int .i64 q, .slice s kids.length c], .slice s1 t.nodes.length c1] w (KidSays t k kids w) := by
  rcases kind_split k with h | h | rfl | rfl | rfl | rfl | rfl | rfl | rfl | rfl | rfl | rfl | rfl | rfl | rfl | rfl | rfl | rfl | rfl | rfl | rfl | rfl | rfl | rfl | rfl | rfl | rfl | rfl | rfl | rfl | rfl | rfl | rfl | rfl | rfl | rfl
  · exact kidsFit_none k (Or.inl h) t tx q s s1 c c1 kids B C w hL hN hv hl hn
  · exact kidsFit_none k (Or.inr h) t tx q s s1 c c1 kids B C w hL hN hv hl hn
  · exact okids_1 t tx q s s1 c c1 kids B C w hL hN hv hl hn
  · exact okids_2 t tx q s s1 c c1 kids B C w hL hN hv hl hn
  · exact okids_3 t tx q s s1 c c1 kids B C w hL hN hv hl hn
  · exact okids_4 t tx q s s1 c c1 kids B C w hL hN hv hl hn
  · exact okids_5 t tx q s s1 c c1 kids B C w hL hN hv hl hn
  · exact okids_6 t tx q s s1 c c1 kids B C w hL hN hv hl hn
  · exact okids_7 t tx q s s1 c c1 kids B C w hL hN hv hl hn
  · exact okids_8 t tx q s s1 c c1 kids B C w hL hN hv hl hn
  · exact okids_9 t tx q s s1 c c1 kids B C w hL hN hv hl hn
  · exact okids_10 t tx q s s1 c c1 kids B C w hL hN hv hl hn
  · exact okids_11 t tx q s s1 c c1 kids B C w hL hN hv hl hn
  · exact okids_12 t tx q s s1 c c1 kids B C w hL hN hv hl hn
  · exact okids_13 t tx q s s1 c c1 kids B C w hL hN hv hl hn
  · exact okids_14 t tx q s s1 c c1 kids B C w hL hN hv hl hn
  · exact okids_15 t tx q s s1 c c1 kids B C w hL hN hv hl hn
  · exact okids_16 t tx q s s1 c c1 kids B C w hL hN hv hl hn
  · exact okids_17 t tx q s s1 c c1 kids B C w hL hN hv hl hn
  · exact okids_18 t tx q s s1 c c1 kids B C w hL hN hv hl hn
  · exact okids_19 t tx q s s1 c c1 kids B C w hL hN hv hl hn
  · exact okids_20 t tx q s s1 c c1 kids B C w hL hN hv hl hn
  · exact okids_21 t tx q s s1 c c1 kids B C w hL hN hv hl hn
  · exact okids_22 t tx q s s1 c c1 kids B C w hL hN hv hl hn
  · exact okids_23 t tx q s s1 c c1 kids B C w hL hN hv hl hn
  · exact okids_24 t tx q s s1 c c1 kids B C w hL hN hv hl hn
  · exact okids_25 t tx q s s1 c c1 kids B C w hL hN hv hl hn
  · exact okids_26 t tx q s s1 c c1 kids B C w hL hN hv hl hn
  · exact okids_27 t tx q s s1 c c1 kids B C w hL hN hv hl hn
  · exact okids_28 t tx q s s1 c c1 kids B C w hL hN hv hl hn
  · exact okids_29 t tx q s s1 c c1 kids B C w hL hN hv hl hn
  · exact okids_30 t tx q s s1 c c1 kids B C w hL hN hv hl hn
  · exact okids_31 t tx q s s1 c c1 kids B C w hL hN hv hl hn
  · exact okids_32 t tx q s s1 c c1 kids B C w hL hN hv hl hn
  · exact okids_33 t tx q s s1 c c1 kids B C w hL hN hv hl hn
  · exact okids_34 t tx q s s1 c c1 kids B C w hL hN hv hl hn
end Go.Proofs.YtknallkcengbbaaGreatDoor
