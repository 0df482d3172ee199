import Derived.Test.YtofpkbnocbmgkaaQf
import Derived.Test.YtofpkbnocbmgkaaTc
namespace Go.Proofs.Ytofpkbnocbmgkaa
open Go.RowKit
set_option linter.unusedVariables false
set_option linter.unusedSimpArgs false

set_option maxHeartbeats 2000000 in
theorem compsOf_oi (s : Option Addr) (c : Nat) (L : List C5) (B : Nat) (w : World) (hL : Els 5 cCell w B s L) (hl : L.length ≤ 1048576) :
    Calls Try.prog 93 #[.slice s L.length c] w fun e w' => (∃ s' c' R, e = .returned (.slice s' (List.length (α := Int) R) c') ∧ R = L.map (fun x => x.1) ∧ OI w' w.heap.size (.slice s' R.length c') R) ∧ Below w.heap.size w w' := by
  have hal := alloc_old
  have haf := alloc_oldf
  go_enter Try.func93, Try.ntmps93
  go_wp2_with fail
  go_loopw [3, 8] (fun v i wr => ∃ (k : Nat) (s8 : Option Addr) (c8 : Nat) (R8 : List Int), k ≤ L.length ∧ i = .int .i64 k ∧ v = .slice s8 R8.length c8 ∧ Hid (R8 = (L.take k).map (fun x => x.1)) ∧ Hid (OI wr w.heap.size (.slice s8 R8.length c8) R8) ∧ Hid (Below w.heap.size w wr)) (fun _ i _ => L.length - (intOf i).toNat)
  case atStart => exact ⟨0, none, 0, [], Nat.zero_le _, rfl, rfl, (by simp [Hid]), OI.nil _ _, Below.refl _ _⟩
  case round =>
    obtain ⟨k, s8, c8, R8, hk, rfl, rfl, hR8, hO8, hb8⟩ := hrel
    by_cases hlt : k < L.length
    · obtain ⟨a, ha⟩ := get_some hlt
      obtain ⟨b, o, rfl, _, hp, _, e0, e1, e2, e3, e4⟩ := eCell_cells (hL.later cCell_keeps hb8.out) ha
      obtain ⟨x, y1, y2, y3, y4⟩ := a
      obtain ⟨R2, hR2⟩ : ∃ R2, Hid (R8 ++ [x] = R2) := ⟨_, (rfl : R8 ++ [x] = _)⟩
      have HS2 : Hid (R2 = (L.take (k + 1)).map (fun x => x.1)) := by show R2 = _; rw [map_succ ha, ← hR2.out, hR8.out]
      have l8 : R8.length ≤ k := by rw [hR8.out, List.length_map, List.length_take]; omega
      have hb3 : Below w.heap.size w ((wr.alloc (.cells #[.int .i64 x, .int .i64 y1, .int .i64 y2, .float .f64 y3, .float .f64 y4] 116)).alloc (.cells #[.int .i64 x] 3)) := bl_alloc (bl_alloc hb8.out _) _
      have hO2 : Hid (OI ((wr.alloc (.cells #[.int .i64 x, .int .i64 y1, .int .i64 y2, .float .f64 y3, .float .f64 y4] 116)).alloc (.cells #[.int .i64 x] 3)) w.heap.size (.slice s8 R8.length c8) R8) := (hO8.out.later (bl_alloc (Below.refl _ _) _)).later (bl_alloc (Below.refl _ _) _)
      have E5 : Hid (Els 1 cInt ((wr.alloc (.cells #[.int .i64 x, .int .i64 y1, .int .i64 y2, .float .f64 y3, .float .f64 y4] 116)).alloc (.cells #[.int .i64 x] 3)) (wr.heap.size + 1) (some ⟨wr.heap.size + 1, 0, none⟩) [x]) := Els.one (Blk.new' _ #[.int .i64 x] 3 (by simp))
      clear ha hR8 hO8 hL
      go_wp2_with (at_builtin; refine wpList_append_ints rfl _ _ rfl w.heap.size s8 c8 R8 rfl hO2.out (wr.heap.size + 1) _ 1 [x] rfl E5.out R2 hR2.out (by simp; omega) hb3.size ?_; intro s' c' w4 hO4 hg4 hn4)
      have hO4 : Hid (OI w4 w.heap.size (.slice s' R2.length c') R2) := hO4
      have hb4 : Hid (Below w.heap.size w w4) := grown_oi hb3 hb3.size hO2.out hg4
      clear hg4 hn4 hO2 E5 hb3 e0 e1 e2 e3 e4
      go_wp2_with fail
      go_roundw
      case rel => exact ⟨k + 1, s', c', R2, by omega, by go_num, rfl, HS2, hO4, hb4⟩
      case measure => simp [intOf]; omega
    · have HE : Hid (R8 = L.map (fun x => x.1)) := by show R8 = _; rw [hR8.out, show k = L.length by omega, List.take_length]
      go_wp2_with fail
      go_ret
      exact ⟨⟨s8, c8, R8, rfl, HE.out, hO8.out⟩, hb8.out⟩

/-- what stands for a command. -/
def ChgIs (w : World) (B : Nat) (v : Value) (c : Cm) : Prop :=
  (c.kind = 1 ∧ ∃ p1 p2 s cap, v = .iface 162 (.agg #[.int .i64 p1, .int .i64 p2, .slice s c.list.length cap]) ∧ Els 5 cCell w B s c.list) ∨
  (c.kind = 3 ∧ ∃ a b v1 v2 v3 v4, v = .iface 165 (.agg #[.int .i64 a, .int .i64 b, .int .i64 c.comp, .int .i64 v1, .int .i64 v2, .float .f64 v3, .float .f64 v4])) ∨
  (c.kind = 4 ∧ ∃ a b, v = .iface 167 (.agg #[.int .i64 a, .int .i64 b, .int .i64 c.comp])) ∨
  (¬ c.kind = 1 ∧ ¬ c.kind = 3 ∧ ¬ c.kind = 4 ∧ ((∃ a b, v = .iface 193 (.agg #[.int .i64 a, .int .i64 b])) ∨ v = .iface 195 (.agg #[])))
theorem ChgIs.kept {w w' : World} {B : Nat} {v : Value} {c : Cm} (h : ChgIs w B v c) (hk : Kept B w w') : ChgIs w' B v c := by
  rcases h with ⟨h1, p1, p2, s, cap, e, h2⟩ | h | h | h
  · exact Or.inl ⟨h1, p1, p2, s, cap, e, h2.kept cCell_keeps hk⟩
  · exact Or.inr (Or.inl h)
  · exact Or.inr (Or.inr (Or.inl h))
  · exact Or.inr (Or.inr (Or.inr h))
theorem ChgIs.form {w : World} {B : Nat} {v : Value} {c : Cm} (h : ChgIs w B v c) : ∃ t u, v = .iface t u := by
  rcases h with ⟨h1, p1, p2, s, cap, e, h2⟩ | ⟨_, a, b, v1, v2, v3, v4, e⟩ | ⟨_, a, b, e⟩ | ⟨_, _, _, ⟨a, b, e⟩ | e⟩ <;> exact ⟨_, _, e⟩
theorem ChgIs.later {w w' : World} {B : Nat} {v : Value} {c : Cm} (h : ChgIs w B v c) (hb : Below w.heap.size w w') : ChgIs w' B v c := h.kept (Kept.of hb B)
theorem ChgIs.drop {w : World} {B B' : Nat} {v : Value} {c : Cm} (h : ChgIs w B v c) (hB : B' ≤ B) : ChgIs w B' v c := by
  rcases h with ⟨h1, p1, p2, s, cap, e, h2⟩ | h | h | h
  · exact Or.inl ⟨h1, p1, p2, s, cap, e, h2.drop cCell_drops hB⟩
  · exact Or.inr (Or.inl h)
  · exact Or.inr (Or.inr (Or.inl h))
  · exact Or.inr (Or.inr (Or.inr h))

set_option maxHeartbeats 2000000 in
theorem changeOf_is (s : Option Addr) (cap : Nat) (c : Cm) (p1 p2 : Int) (B : Nat) (W0 w : World) (hL : Els 5 cCell W0 B s c.list) :
    Calls Try.prog 92 #[.agg #[.int .i64 c.kind, .int .i64 c.who.1, .int .i64 c.who.2, .int .i64 c.comp, .int .i64 c.val.1, .int .i64 c.val.2.1, .float .f64 c.val.2.2.1, .float .f64 c.val.2.2.2, .slice s c.list.length cap], .agg #[.int .i64 p1, .int .i64 p2]] w fun e w' => (∃ v, e = .returned v ∧ ChgIs W0 B v c) ∧ Below w.heap.size w w' := by
  have hal := alloc_old
  have haf := alloc_oldf
  have HL : Hid (Els 5 cCell W0 B s c.list) := hL
  clear hL
  by_cases h1 : c.kind = 1
  · have H : Hid (c.kind = 1) := h1
    have q1 : (c.kind == 1) = true := by simp [h1]
    clear h1
    go_enter Try.func92, Try.ntmps92
    go_wp2_with fail
    go_ret
    refine ⟨⟨_, rfl, Or.inl ⟨H.out, _, _, _, _, rfl, HL.out⟩⟩, ?_⟩
    (repeat (first | with_reducible exact Below.refl _ _ | with_reducible refine bl_alloc ?_ _ | with_reducible refine bl_drewN ?_ _ | with_reducible refine bl_drew ?_ | with_reducible refine bl_setCell ?_ (by first | exact Nat.le_refl _ | (dsimp only; omega) | (simp <;> omega)) _ | with_reducible refine bl_trans ?_ (by with_reducible assumption)))
  have q1 : (c.kind == 1) = false := by simp [h1]
  by_cases h2 : c.kind = 2
  · have H : Hid (c.kind = 2) := h2
    have q2 : (c.kind == 2) = true := by simp [h2]
    clear h1 h2
    go_enter Try.func92, Try.ntmps92
    go_wp2_with fail
    go_ret
    refine ⟨⟨_, rfl, Or.inr (Or.inr (Or.inr ⟨by rw [H.out]; omega, by rw [H.out]; omega, by rw [H.out]; omega, Or.inl ⟨_, _, rfl⟩⟩))⟩, ?_⟩
    (repeat (first | with_reducible exact Below.refl _ _ | with_reducible refine bl_alloc ?_ _ | with_reducible refine bl_drewN ?_ _ | with_reducible refine bl_drew ?_ | with_reducible refine bl_setCell ?_ (by first | exact Nat.le_refl _ | (dsimp only; omega) | (simp <;> omega)) _ | with_reducible refine bl_trans ?_ (by with_reducible assumption)))
  have q2 : (c.kind == 2) = false := by simp [h2]
  by_cases h3 : c.kind = 3
  · have H : Hid (c.kind = 3) := h3
    have q3 : (c.kind == 3) = true := by simp [h3]
    clear h1 h2 h3
    go_enter Try.func92, Try.ntmps92
    go_wp2_with fail
    go_ret
    refine ⟨⟨_, rfl, Or.inr (Or.inl ⟨H.out, _, _, _, _, _, _, rfl⟩)⟩, ?_⟩
    (repeat (first | with_reducible exact Below.refl _ _ | with_reducible refine bl_alloc ?_ _ | with_reducible refine bl_drewN ?_ _ | with_reducible refine bl_drew ?_ | with_reducible refine bl_setCell ?_ (by first | exact Nat.le_refl _ | (dsimp only; omega) | (simp <;> omega)) _ | with_reducible refine bl_trans ?_ (by with_reducible assumption)))
  have q3 : (c.kind == 3) = false := by simp [h3]
  by_cases h4 : c.kind = 4
  · have H : Hid (c.kind = 4) := h4
    have q4 : (c.kind == 4) = true := by simp [h4]
    clear h1 h2 h3 h4
    go_enter Try.func92, Try.ntmps92
    go_wp2_with fail
    go_ret
    refine ⟨⟨_, rfl, Or.inr (Or.inr (Or.inl ⟨H.out, _, _, rfl⟩))⟩, ?_⟩
    (repeat (first | with_reducible exact Below.refl _ _ | with_reducible refine bl_alloc ?_ _ | with_reducible refine bl_drewN ?_ _ | with_reducible refine bl_drew ?_ | with_reducible refine bl_setCell ?_ (by first | exact Nat.le_refl _ | (dsimp only; omega) | (simp <;> omega)) _ | with_reducible refine bl_trans ?_ (by with_reducible assumption)))
  have q4 : (c.kind == 4) = false := by simp [h4]
  have H : Hid (¬ c.kind = 1 ∧ ¬ c.kind = 3 ∧ ¬ c.kind = 4) := ⟨h1, h3, h4⟩
  clear h1 h2 h3 h4
  go_enter Try.func92, Try.ntmps92
  go_wp2_with fail
  go_ret
  refine ⟨⟨_, rfl, Or.inr (Or.inr (Or.inr ⟨H.out.1, H.out.2.1, H.out.2.2, Or.inr rfl⟩))⟩, ?_⟩
  (repeat (first | with_reducible exact Below.refl _ _ | with_reducible refine bl_alloc ?_ _ | with_reducible refine bl_drewN ?_ _ | with_reducible refine bl_drew ?_ | with_reducible refine bl_setCell ?_ (by first | exact Nat.le_refl _ | (dsimp only; omega) | (simp <;> omega)) _ | with_reducible refine bl_trans ?_ (by with_reducible assumption)))

theorem Try.ta_ss (v : Value) (w : World) : (Instr.typeAssert (.iface 162 v) 121 162 true).run Try.prog w = .ok (.tuple #[v, .bool true]) w := by kernel_rfl
theorem Try.ta_sp (v : Value) (w : World) : (Instr.typeAssert (.iface 162 v) 121 165 true).run Try.prog w = .ok (.tuple #[.agg #[.int .i64 0, .int .i64 0, .int .i64 0, .int .i64 0, .int .i64 0, .float .f64 0, .float .f64 0], .bool false]) w := by kernel_rfl
theorem Try.ta_sd (v : Value) (w : World) : (Instr.typeAssert (.iface 162 v) 121 167 true).run Try.prog w = .ok (.tuple #[.agg #[.int .i64 0, .int .i64 0, .int .i64 0], .bool false]) w := by kernel_rfl
theorem Try.ta_ps (v : Value) (w : World) : (Instr.typeAssert (.iface 165 v) 121 162 true).run Try.prog w = .ok (.tuple #[.agg #[.int .i64 0, .int .i64 0, .slice none 0 0], .bool false]) w := by kernel_rfl
theorem Try.ta_pp (v : Value) (w : World) : (Instr.typeAssert (.iface 165 v) 121 165 true).run Try.prog w = .ok (.tuple #[v, .bool true]) w := by kernel_rfl
theorem Try.ta_pd (v : Value) (w : World) : (Instr.typeAssert (.iface 165 v) 121 167 true).run Try.prog w = .ok (.tuple #[.agg #[.int .i64 0, .int .i64 0, .int .i64 0], .bool false]) w := by kernel_rfl
theorem Try.ta_ds (v : Value) (w : World) : (Instr.typeAssert (.iface 167 v) 121 162 true).run Try.prog w = .ok (.tuple #[.agg #[.int .i64 0, .int .i64 0, .slice none 0 0], .bool false]) w := by kernel_rfl
theorem Try.ta_dp (v : Value) (w : World) : (Instr.typeAssert (.iface 167 v) 121 165 true).run Try.prog w = .ok (.tuple #[.agg #[.int .i64 0, .int .i64 0, .int .i64 0, .int .i64 0, .int .i64 0, .float .f64 0, .float .f64 0], .bool false]) w := by kernel_rfl
theorem Try.ta_dd (v : Value) (w : World) : (Instr.typeAssert (.iface 167 v) 121 167 true).run Try.prog w = .ok (.tuple #[v, .bool true]) w := by kernel_rfl
theorem Try.ta_ks (v : Value) (w : World) : (Instr.typeAssert (.iface 193 v) 121 162 true).run Try.prog w = .ok (.tuple #[.agg #[.int .i64 0, .int .i64 0, .slice none 0 0], .bool false]) w := by kernel_rfl
theorem Try.ta_kp (v : Value) (w : World) : (Instr.typeAssert (.iface 193 v) 121 165 true).run Try.prog w = .ok (.tuple #[.agg #[.int .i64 0, .int .i64 0, .int .i64 0, .int .i64 0, .int .i64 0, .float .f64 0, .float .f64 0], .bool false]) w := by kernel_rfl
theorem Try.ta_kd (v : Value) (w : World) : (Instr.typeAssert (.iface 193 v) 121 167 true).run Try.prog w = .ok (.tuple #[.agg #[.int .i64 0, .int .i64 0, .int .i64 0], .bool false]) w := by kernel_rfl
theorem Try.ta_ns (v : Value) (w : World) : (Instr.typeAssert (.iface 195 v) 121 162 true).run Try.prog w = .ok (.tuple #[.agg #[.int .i64 0, .int .i64 0, .slice none 0 0], .bool false]) w := by kernel_rfl
theorem Try.ta_np (v : Value) (w : World) : (Instr.typeAssert (.iface 195 v) 121 165 true).run Try.prog w = .ok (.tuple #[.agg #[.int .i64 0, .int .i64 0, .int .i64 0, .int .i64 0, .int .i64 0, .float .f64 0, .float .f64 0], .bool false]) w := by kernel_rfl
theorem Try.ta_nd (v : Value) (w : World) : (Instr.typeAssert (.iface 195 v) 121 167 true).run Try.prog w = .ok (.tuple #[.agg #[.int .i64 0, .int .i64 0, .int .i64 0], .bool false]) w := by kernel_rfl

set_option maxRecDepth 100000 in
set_option maxHeartbeats 4000000 in
theorem targetsOf_any (v : Value) (c : Cm) (B : Nat) (w : World) (h : ChgIs w B v c) (hl : c.list.length ≤ 1048576) :
    Calls Try.prog 60 #[v] w fun e w' => (∃ s' c' R, e = .returned (.slice s' (List.length (α := Int) R) c') ∧ R = tgt c ∧ Els 1 cInt w' 0 s' R) ∧ Below w.heap.size w w' := by
  have hal := alloc_old
  have haf := alloc_oldf
  have tss := Try.ta_ss
  have tps := Try.ta_ps
  have tpp := Try.ta_pp
  have tds := Try.ta_ds
  have tdp := Try.ta_dp
  have tdd := Try.ta_dd
  have tks := Try.ta_ks
  have tkp := Try.ta_kp
  have tkd := Try.ta_kd
  have tns := Try.ta_ns
  have tnp := Try.ta_np
  have tnd := Try.ta_nd
  rcases h with ⟨h1, p1, p2, s, cap, rfl, hE⟩ | ⟨h1, a, b, v1, v2, v3, v4, rfl⟩ | ⟨h1, a, b, rfl⟩ | ⟨h1, h3, h4, h⟩
  · have HT : Hid (tgt c = c.list.map (fun x => x.1)) := by show _ = _; unfold tgt; rw [if_pos h1]
    have k0 := Blk.new w #[.int .i64 p1, .int .i64 p2, .slice s c.list.length cap] 162
    have L0 := bl_alloc (Below.refl _ w) (.cells #[.int .i64 p1, .int .i64 p2, .slice s c.list.length cap] 162)
    clear h1
    go_enter Try.func60, Try.ntmps60
    go_wp2_with fail
    refine (compsOf_oi s cap c.list B _ (hE.later cCell_keeps L0) hl).mono ?_
    rintro e w2 ⟨⟨s', c', R, rfl, hR, hO⟩, hb2⟩
    have HR : Hid (R = tgt c) := by show R = _; rw [hR, HT.out]
    have HE : Hid (Els 1 cInt w2 0 s' R) := hO.els.drop cInt_drops (Nat.zero_le _)
    have HB : Hid (Below w.heap.size w w2) := bl_trans L0 hb2
    clear hR hO hb2 k0 L0
    go_wp2_with fail
    go_ret
    exact ⟨⟨s', c', R, rfl, HR.out, HE.out⟩, HB.out⟩
  · have HT : Hid (tgt c = [c.comp]) := by show _ = _; unfold tgt; rw [if_neg (by omega), if_pos (Or.inl h1)]
    obtain ⟨x, hx⟩ : ∃ x, c.comp = x := ⟨_, rfl⟩
    rw [hx] at HT ⊢
    have HE : Hid (Els 1 cInt ((w.alloc (.cells #[.int .i64 a, .int .i64 b, .int .i64 x, .int .i64 v1, .int .i64 v2, .float .f64 v3, .float .f64 v4] 165)).alloc (.cells #[.int .i64 x] 3)) 0 (some ⟨w.heap.size + 1, 0, none⟩) [x]) := (Els.one (Blk.new' _ #[.int .i64 x] 3 (by simp))).drop cInt_drops (Nat.zero_le _)
    have HB : Hid (Below w.heap.size w ((w.alloc (.cells #[.int .i64 a, .int .i64 b, .int .i64 x, .int .i64 v1, .int .i64 v2, .float .f64 v3, .float .f64 v4] 165)).alloc (.cells #[.int .i64 x] 3))) := bl_alloc (bl_alloc (Below.refl _ _) _) _
    clear h1 hx
    go_enter Try.func60, Try.ntmps60
    go_wp2_with fail
    go_ret
    exact ⟨⟨_, 1, [x], rfl, HT.out.symm, HE.out⟩, HB.out⟩
  · have HT : Hid (tgt c = [c.comp]) := by show _ = _; unfold tgt; rw [if_neg (by omega), if_pos (Or.inr h1)]
    obtain ⟨x, hx⟩ : ∃ x, c.comp = x := ⟨_, rfl⟩
    rw [hx] at HT ⊢
    have HE : Hid (Els 1 cInt ((w.alloc (.cells #[.int .i64 a, .int .i64 b, .int .i64 x] 167)).alloc (.cells #[.int .i64 x] 3)) 0 (some ⟨w.heap.size + 1, 0, none⟩) [x]) := (Els.one (Blk.new' _ #[.int .i64 x] 3 (by simp))).drop cInt_drops (Nat.zero_le _)
    have HB : Hid (Below w.heap.size w ((w.alloc (.cells #[.int .i64 a, .int .i64 b, .int .i64 x] 167)).alloc (.cells #[.int .i64 x] 3))) := bl_alloc (bl_alloc (Below.refl _ _) _) _
    clear h1 hx
    go_enter Try.func60, Try.ntmps60
    go_wp2_with fail
    go_ret
    exact ⟨⟨_, 1, [x], rfl, HT.out.symm, HE.out⟩, HB.out⟩
  · have HT : Hid (tgt c = []) := by show _ = _; unfold tgt; rw [if_neg h1, if_neg (by omega)]
    clear h1 h3 h4
    rcases h with ⟨a, b, rfl⟩ | rfl
    · go_enter Try.func60, Try.ntmps60
      go_wp2_with fail
      go_ret
      exact ⟨⟨none, 0, [], rfl, HT.out.symm, Or.inl rfl⟩, Below.refl _ _⟩
    · go_enter Try.func60, Try.ntmps60
      go_wp2_with fail
      go_ret
      exact ⟨⟨none, 0, [], rfl, HT.out.symm, Or.inl rfl⟩, Below.refl _ _⟩

theorem Try.infoCh : (Try.prog.info? 121).map (fun i => (i.zero, i.size, i.bytes)) = some (some .nilIface, 1, 16) := by kernel_rfl
def cChg (w : World) (B : Nat) (cs : List Value) (c : Cm) : Prop := ∃ v, cs = [v] ∧ ChgIs w B v c
theorem cChg_keeps : KeepsE cChg := fun _ _ _ _ _ hk ⟨v, e, h⟩ => ⟨v, e, h.kept hk⟩
theorem cChg_drops : DropsE cChg := fun _ _ _ _ _ hB ⟨v, e, h⟩ => ⟨v, e, h.drop hB⟩
/-- changes: one a command; what they lead to are the commands' own lists (B0). -/
def Chgs (w : World) (B0 : Nat) (s : Option Addr) (L : List Cm) : Prop := L = [] ∨ ∃ g, s = some ⟨g, 0, none⟩ ∧ g < w.heap.size ∧ ∀ j c, L[j]? = some c → ∃ v, w.cell? ⟨g, j, none⟩ = some v ∧ ChgIs w B0 v c

set_option maxRecDepth 100000 in
set_option maxHeartbeats 4000000 in
theorem changesOf_any (s : Option Addr) (c : Nat) (L : List Cm) (w : World) (hL : Els 9 cCmd w 0 s L) (hk : kCs L) :
    Calls Try.prog 59 #[.slice s L.length c] w fun e w' => (∃ s' c', e = .returned (.slice s' L.length c') ∧ Chgs w' 0 s' L) ∧ Below w.heap.size w w' := by
  obtain ⟨hl, hls⟩ := hk
  have hal := alloc_old
  have haf := alloc_oldf
  obtain ⟨i0, hi, hz0, hz1, hz2⟩ := info_parts Try.infoCh
  go_enter Try.func59, Try.ntmps59
  go_wp2_with (at_make; refine wpList_make_full _ rfl _ _ 118 rfl w.heap.size 121 i0 .nilIface 1 Try.underlying118 hi hz0 hz1 .i64 .i64 _ _ L.length rfl rfl rfl rfl (by rw [hz2]; omega) (by unfold maxLen; omega) (Nat.le_refl _) ?_)
  intro w1 hown hgrow
  have hbel : Below w.heap.size w w1 := (Below.refl _ w).grown hgrow (Nat.le_refl _) (fun k h => by cases h)
  have hlt1 := World.ownsRow.lt hown w.heap.size rfl
  have hcells : ∀ j, j < L.length → w1.cell? ⟨w.heap.size, j, none⟩ = some .nilIface := by
    intro j hj
    rw [World.ownsRow.cellAt hown j (by omega)]
    simp [madeCells, hj, Nat.mod_one]
  have hfz : ∀ j, w1.frozen? ⟨w.heap.size, j, none⟩ = false := fun j => World.ownsRow.frozenAt hown j
  clear hown hgrow hi hz0 hz1 hz2 hls
  have kp := Blk.new w1 #[.int .i64 (-1), .int .i64 0] 51
  have LP := bl_alloc hbel (.cells #[.int .i64 (-1), .int .i64 0] 51)
  have hL1 : Hid (Els 9 cCmd w 0 s L) := hL
  have hc1 : ∀ j, j < L.length → (w1.alloc (.cells #[.int .i64 (-1), .int .i64 0] 51)).cell? ⟨w.heap.size, j, none⟩ = some .nilIface := fun j hj => ((bl_alloc (Below.refl _ w1) _).cell (p := ⟨w.heap.size, j, none⟩) hlt1.2).trans (hcells j hj)
  have hf1 : ∀ j, (w1.alloc (.cells #[.int .i64 (-1), .int .i64 0] 51)).frozen? ⟨w.heap.size, j, none⟩ = false := fun j => ((bl_alloc (Below.refl _ w1) _).frozen (p := ⟨w.heap.size, j, none⟩) hlt1.2).trans (hfz j)
  have hgp : w.heap.size < w1.heap.size := hlt1.2
  clear hL hcells hfz hbel hlt1
  go_wp2_with fail
  generalize hX : w1.alloc (.cells #[.int .i64 (-1), .int .i64 0] 51) = X at kp LP hc1 hf1 ⊢
  generalize hn : w1.heap.size = pb at kp hgp ⊢
  clear hX hn
  go_loopw [13] (fun i wr => ∃ (k : Nat) (p1 : Int), k ≤ L.length ∧ i = .int .i64 k ∧ (-(k : Int) - 1 ≤ p1 ∧ p1 ≤ -1) ∧ Hid (Below w.heap.size w wr) ∧ Hid (Blk wr pb #[.int .i64 p1, .int .i64 0] 51) ∧ Hid (∀ j c, j < k → L[j]? = some c → ∃ v, wr.cell? ⟨w.heap.size, j, none⟩ = some v ∧ ChgIs w 0 v c) ∧ Hid (∀ j, k ≤ j → j < L.length → wr.cell? ⟨w.heap.size, j, none⟩ = some .nilIface) ∧ Hid (∀ j, wr.frozen? ⟨w.heap.size, j, none⟩ = false)) (fun i _ => L.length - (intOf i).toNat)
  case atStart => exact ⟨0, -1, Nat.zero_le _, rfl, ⟨by omega, by omega⟩, LP, kp, fun j c hj => by omega, fun j _ hj => hc1 j hj, hf1⟩
  case round =>
    clear kp LP hc1 hf1
    obtain ⟨k, p1, hk, rfl, ⟨p1a, p1b⟩, hb, hP, hD, hN, hF⟩ := hrel
    by_cases hlt : k < L.length
    · obtain ⟨cm, hcm⟩ := get_some hlt
      obtain ⟨b, o, rfl, _, hp, _, s', c', e0, e1, e2, e3, e4, e5, e6, e7, e8, f⟩ := eCmd_cells hL1.out hcm
      have tr := fun off => hb.out.cell (p := ⟨b, off, none⟩) hp
      have x0 := (tr _).trans e0
      have x1 := (tr _).trans e1
      have x2 := (tr _).trans e2
      have x3 := (tr _).trans e3
      have x4 := (tr _).trans e4
      have x5 := (tr _).trans e5
      have x6 := (tr _).trans e6
      have x7 := (tr _).trans e7
      have x8 := (tr _).trans e8
      obtain ⟨y0, y1, y2⟩ := hP.out.two
      have HC : Hid (L[k]? = some cm) := hcm
      have HFl : Hid (Els 5 cCell w 0 s' cm.list) := f
      have kb := Blk.new wr #[.int .i64 cm.kind, .int .i64 cm.who.1, .int .i64 cm.who.2, .int .i64 cm.comp, .int .i64 cm.val.1, .int .i64 cm.val.2.1, .float .f64 cm.val.2.2.1, .float .f64 cm.val.2.2.2, .slice s' cm.list.length c'] 114
      have LB := bl_alloc (Below.refl _ wr) (.cells #[.int .i64 cm.kind, .int .i64 cm.who.1, .int .i64 cm.who.2, .int .i64 cm.comp, .int .i64 cm.val.1, .int .i64 cm.val.2.1, .float .f64 cm.val.2.2.1, .float .f64 cm.val.2.2.2, .slice s' cm.list.length c'] 114)
      have gwr : w.heap.size < wr.heap.size := Nat.lt_of_lt_of_le hgp (Nat.le_of_lt hP.out.lt)
      have pwr : pb < wr.heap.size := hP.out.lt
      clear e0 e1 e2 e3 e4 e5 e6 e7 e8 f hcm tr
      go_wp2_with fail
      refine (changeOf_is s' c' cm p1 0 0 w _ HFl.out).mono ?_
      rintro e w2 ⟨⟨v, rfl, hv⟩, hb2⟩
      obtain ⟨t9, u9, rfl⟩ := hv.form
      have L2 := bl_trans LB hb2
      have K2 := kb.later hb2
      have P2 := (hP.out.alloc _).later hb2
      have g2 := (L2.cell (p := ⟨w.heap.size, k, none⟩) gwr).trans (hN.out k (Nat.le_refl _) hlt)
      have f2 := (L2.frozen (p := ⟨w.heap.size, k, none⟩) gwr).trans (hF.out k)
      have HV : Hid (ChgIs w 0 (.iface t9 u9) cm) := hv
      have K3 := K2.other (m := w.heap.size) (by omega) k (.iface t9 u9)
      have P3 := P2.other (m := w.heap.size) (by omega) k (.iface t9 u9)
      have b3 : Below w.heap.size w (w2.setCell ⟨w.heap.size, k, none⟩ (.iface t9 u9)) := (bl_trans hb.out L2).setCell (Nat.le_refl _) (.iface t9 u9)
      have D3 : Hid (∀ j c, j < k + 1 → L[j]? = some c → ∃ u, (w2.setCell ⟨w.heap.size, k, none⟩ (.iface t9 u9)).cell? ⟨w.heap.size, j, none⟩ = some u ∧ ChgIs w 0 u c) := by
        intro j c9 hj hc9
        by_cases e : j = k
        · subst e
          rw [HC.out] at hc9
          cases hc9
          exact ⟨_, World.cell?_setCell_same _ _ _ g2, HV.out⟩
        · obtain ⟨u, hu, hc8⟩ := hD.out j c9 (by omega) hc9
          exact ⟨u, (World.cell?_setCell_other _ _ _ _ (fun q => e (by simp at q <;> omega))).trans ((L2.cell (p := ⟨w.heap.size, j, none⟩) gwr).trans hu), hc8⟩
      have N3 : Hid (∀ j, k + 1 ≤ j → j < L.length → (w2.setCell ⟨w.heap.size, k, none⟩ (.iface t9 u9)).cell? ⟨w.heap.size, j, none⟩ = some .nilIface) := by
        intro j hj hjl
        exact (World.cell?_setCell_other _ _ _ _ (fun q => by simp at q <;> omega)).trans ((L2.cell (p := ⟨w.heap.size, j, none⟩) gwr).trans (hN.out j (by omega) hjl))
      have F3 : Hid (∀ j, (w2.setCell ⟨w.heap.size, k, none⟩ (.iface t9 u9)).frozen? ⟨w.heap.size, j, none⟩ = false) := fun j => (World.frozen?_setCell _ _ _ _).trans ((L2.frozen (p := ⟨w.heap.size, j, none⟩) gwr).trans (hF.out j))
      clear x0 x1 x2 x3 x4 x5 x6 x7 x8 y0 y1 y2 kb LB hv hb2 hb hP hD hN hF K2 P2 L2
      have z0 := K3.cell 0
      obtain ⟨y0, y1, y2⟩ := P3.two
      have tw : IntKind.i64.wrap (p1 - 1) = p1 - 1 := by rw [IntKind.wrap_i64]; omega
      have pg : ¬ pb = w.heap.size := by omega
      cases q : (cm.kind == 1)
      · have P4 : Hid (Blk (w2.setCell ⟨w.heap.size, k, none⟩ (.iface t9 u9)) pb #[.int .i64 p1, .int .i64 0] 51) := P3
        have b4 : Hid (Below w.heap.size w (w2.setCell ⟨w.heap.size, k, none⟩ (.iface t9 u9))) := b3
        clear P3 K3 b3
        go_wp2_with fail
        go_roundw
        case rel => exact ⟨k + 1, p1, by omega, by go_num, ⟨by omega, by omega⟩, b4, P4, D3, N3, F3⟩
        case measure => simp [intOf]; omega
      · have P4 : Hid (Blk ((w2.setCell ⟨w.heap.size, k, none⟩ (.iface t9 u9)).setCell ⟨pb, 0, none⟩ (.int .i64 (p1 - 1))) pb #[.int .i64 (p1 - 1), .int .i64 0] 51) := P3.set 0 _
        have b4 : Hid (Below w.heap.size w ((w2.setCell ⟨w.heap.size, k, none⟩ (.iface t9 u9)).setCell ⟨pb, 0, none⟩ (.int .i64 (p1 - 1)))) := b3.setCell (by show w.heap.size ≤ pb; omega) _
        have ne : ∀ j, (⟨pb, 0, none⟩ : Addr) ≠ ⟨w.heap.size, j, none⟩ := fun j h => by cases h; omega
        have D4 : Hid (∀ j c, j < k + 1 → L[j]? = some c → ∃ u, ((w2.setCell ⟨w.heap.size, k, none⟩ (.iface t9 u9)).setCell ⟨pb, 0, none⟩ (.int .i64 (p1 - 1))).cell? ⟨w.heap.size, j, none⟩ = some u ∧ ChgIs w 0 u c) := by
          intro j c9 hj hc9
          obtain ⟨u, hu, hc8⟩ := D3.out j c9 hj hc9
          exact ⟨u, (World.cell?_setCell_other _ _ _ _ (ne j)).trans hu, hc8⟩
        have N4 : Hid (∀ j, k + 1 ≤ j → j < L.length → ((w2.setCell ⟨w.heap.size, k, none⟩ (.iface t9 u9)).setCell ⟨pb, 0, none⟩ (.int .i64 (p1 - 1))).cell? ⟨w.heap.size, j, none⟩ = some .nilIface) := fun j hj hjl => (World.cell?_setCell_other _ _ _ _ (ne j)).trans (N3.out j hj hjl)
        have F4 : Hid (∀ j, ((w2.setCell ⟨w.heap.size, k, none⟩ (.iface t9 u9)).setCell ⟨pb, 0, none⟩ (.int .i64 (p1 - 1))).frozen? ⟨w.heap.size, j, none⟩ = false) := fun j => (World.frozen?_setCell _ _ _ _).trans (F3.out j)
        clear P3 K3 b3 D3 N3 F3
        go_wp2_with fail
        go_roundw
        case rel => exact ⟨k + 1, p1 - 1, by omega, by go_num, ⟨by omega, by omega⟩, b4, P4, D4, N4, F4⟩
        case measure => simp [intOf]; omega
    · have HH : Hid (Chgs wr 0 (some ⟨w.heap.size, 0, none⟩) L) := by
        refine Or.inr ⟨w.heap.size, rfl, Nat.lt_of_lt_of_le hgp (Nat.le_of_lt hP.out.lt), fun j c9 hc9 => ?_⟩
        have hj : j < L.length := (List.getElem?_eq_some_iff.1 hc9).1
        obtain ⟨u, hu, hc8⟩ := hD.out j c9 (by omega) hc9
        exact ⟨u, hu, hc8.later hb.out⟩
      go_wp2_with fail
      go_ret
      exact ⟨⟨_, _, rfl, HH.out⟩, hb.out⟩
end Go.Proofs.Ytofpkbnocbmgkaa
