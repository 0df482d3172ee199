import Derived.Test.YteoligpjhddkdaaUe
import Derived.Test.YteoligpjhddkdaaTf
namespace Go.Proofs.Yteoligpjhddkdaa
open Go.RowKit Go.Maps Go.WideMaps
set_option linter.unusedVariables false
set_option linter.unusedSimpArgs false

def OV (w : World) (B : Nat) (v : Value) (L : List V4) : Prop := w.ownsRow B 63 4 v L.length (L.flatMap vcells)
theorem OV.form {w : World} {B : Nat} {v : Value} {L : List V4} (h : OV w B v L) : (v = .slice none 0 0 ∧ L = []) ∨ ∃ g cap, v = .slice (some ⟨g, 0, none⟩) L.length cap ∧ B ≤ g ∧ VR w B g L.length cap L := by
  rcases h.2 with ⟨h1, h2⟩ | ⟨g, cap, cur, rfl, hb, r⟩
  · exact Or.inl ⟨h1, List.length_eq_zero_iff.1 h2⟩
  · exact Or.inr ⟨g, cap, rfl, hb, h⟩
theorem OV.later {w w' : World} {B : Nat} {v : Value} {L : List V4} (h : OV w B v L) (hb : Below w.heap.size w w') : OV w' B v L := by
  refine World.ownsRow.kept h (grown_of_below hb) ?_
  cases v.ownBlock with
  | none => exact Or.inl rfl
  | some b => exact Or.inr (by simp)
theorem OV.kept {w w' : World} {B : Nat} {v : Value} {L : List V4} (h : OV w B v L) (hk : Kept B w w') : OV w' B v L := by
  refine ⟨h.1, ?_⟩
  rcases h.2 with h' | ⟨g, cap', cur, h', hb, hg, r⟩
  · exact Or.inl h'
  · exact Or.inr ⟨g, cap', cur, h', hb, (hk.2 g hb (Array.getElem?_eq_some_iff.1 hg).1).trans hg, r⟩
/-- .. seen from blocks that lie below. -/
theorem OV.under {w w' : World} {B C : Nat} {v : Value} {L : List V4} (h : OV w B v L) (hb : Below C w w') (hv : ∀ g, v.ownBlock = some g → g < C) : OV w' B v L := by
  refine ⟨h.1, ?_⟩
  rcases h.2 with h' | ⟨g, cap', cur, h', hb', hg, r⟩
  · exact Or.inl h'
  · refine Or.inr ⟨g, cap', cur, h', hb', ?_, r⟩
    subst h'
    exact (hb.block g (hv g rfl)).trans hg
theorem OV.shape {w : World} {B : Nat} {v : Value} {L : List V4} (h : OV w B v L) : ∃ s c, v = .slice s L.length c := by
  rcases h.form with ⟨rfl, rfl⟩ | ⟨g, cap, rfl, _⟩
  · exact ⟨_, _, rfl⟩
  · exact ⟨_, _, rfl⟩
theorem OV.els {w : World} {B : Nat} {s : Option Addr} {n c : Nat} {L : List V4} (h : OV w B (.slice s n c) L) (ok : ∀ v ∈ L, okV v) : Els 4 cVal w B s L := by
  rcases h.form with ⟨h1, rfl⟩ | ⟨g, cap, h1, _, hr⟩
  · exact Or.inl rfl
  · simp only [Value.slice.injEq] at h1
    obtain ⟨rfl, rfl, rfl⟩ := h1
    exact els_of_row vcells_len h (fun a ha => ⟨rfl, ok a ha⟩)
theorem okV_zs (B : List (ByteArray × Int)) (m : Nat) : ∀ v ∈ zs B m, okV v := by
  intro v hv
  simp only [zs, List.mem_map] at hv
  obtain ⟨d, _, rfl⟩ := hv
  refine ⟨?_, ?_, ?_⟩ <;> dsimp only <;> omega
theorem okV_nw (A B C : List (ByteArray × Int)) : ∀ v ∈ nwL A B C, okV v := by
  unfold nwL
  split
  · exact okV_zs B _
  · intro v hv; simp at hv
theorem ofInt_lt' (n : Int) : floatOfInt .f64 n < 18446744073709551616 := by
  have := floatOfInt_wf .f64 n
  simpa [Lit.wf] using this
theorem okV_m {k : Int} {n : Nat} (h0 : 0 ≤ k) (h1 : k + 4 * (n : Int) < 128) : ∀ v ∈ mVs k n, okV v := by
  intro v hv
  simp only [mVs, List.mem_map, List.mem_range] at hv
  obtain ⟨i, hi, rfl⟩ := hv
  refine ⟨?_, ofInt_lt' _, ofInt_lt' _⟩
  simp only [mV1]
  omega
/-- the world that is new. -/
def nW (L : List V4) : Wd := ⟨[], [], [], L⟩
theorem inNew {w : World} {B : Nat} {s : Option Addr} {c : Nat} {L : List V4} (h : OV w B (.slice s L.length c) L) (ok : ∀ v ∈ L, okV v) : InW w B none none none s (nW L) := ⟨Or.inl rfl, Or.inl rfl, Or.inl rfl, h.els ok⟩
theorem kNew {L : List V4} (h : L.length ≤ 1048576) : kW (nW L) := ⟨by simp [nW], by simp [nW], ⟨by simp [nW], by simp [nW]⟩, h⟩

set_option maxHeartbeats 400000 in
theorem markInts_nil (k : Int) (w : World) : Calls Try.prog 85 #[.slice none 0 0, .int .i64 k] w fun e w' => e = .returned (.int .i64 k) ∧ w' = w := by
  go_enter Try.func85, Try.ntmps85
  go_wp2_with fail
  go_loop [1, 5] (fun x i => x = .int .i64 k ∧ i = .int .i64 0) (fun _ _ => 0)
  case atStart => exact ⟨rfl, rfl⟩
  case round =>
    obtain ⟨rfl, rfl⟩ := hrel
    go_wp2_with fail
    go_ret
    exact ⟨rfl, rfl⟩
set_option maxHeartbeats 400000 in
theorem heldInts_nil (k : Int) (w : World) : Calls Try.prog 88 #[.slice none 0 0, .int .i64 k] w fun e w' => e = .returned (.int .i64 k) ∧ w' = w := by
  go_enter Try.func88, Try.ntmps88
  go_wp2_with fail
  go_loop [1, 5] (fun x i => x = .int .i64 k ∧ i = .int .i64 0) (fun _ _ => 0)
  case atStart => exact ⟨rfl, rfl⟩
  case round =>
    obtain ⟨rfl, rfl⟩ := hrel
    go_wp2_with fail
    go_ret
    exact ⟨rfl, rfl⟩
set_option maxHeartbeats 400000 in
theorem markTables_nil (k : Int) (w : World) : Calls Try.prog 49 #[.slice none 0 0, .int .i64 k] w fun e w' => e = .returned (.int .i64 k) ∧ w' = w := by
  go_enter Try.func49, Try.ntmps49
  go_wp2_with fail
  go_loop [1, 5] (fun x i => x = .int .i64 k ∧ i = .int .i64 0) (fun _ _ => 0)
  case atStart => exact ⟨rfl, rfl⟩
  case round =>
    obtain ⟨rfl, rfl⟩ := hrel
    go_wp2_with fail
    go_ret
    exact ⟨rfl, rfl⟩
set_option maxHeartbeats 400000 in
theorem heldTables_nil (k : Int) (w : World) : Calls Try.prog 52 #[.slice none 0 0, .int .i64 k] w fun e w' => e = .returned (.int .i64 k) ∧ w' = w := by
  go_enter Try.func52, Try.ntmps52
  go_wp2_with fail
  go_loop [1, 5] (fun x i => x = .int .i64 k ∧ i = .int .i64 0) (fun _ _ => 0)
  case atStart => exact ⟨rfl, rfl⟩
  case round =>
    obtain ⟨rfl, rfl⟩ := hrel
    go_wp2_with fail
    go_ret
    exact ⟨rfl, rfl⟩
set_option maxHeartbeats 400000 in
theorem markEnts_nil (k : Int) (w : World) : Calls Try.prog 48 #[.agg #[.slice none 0 0, .slice none 0 0], .int .i64 k] w fun e w' => e = .returned (.int .i64 k) ∧ Below w.heap.size w w' := by
  obtain ⟨x0, x1, x2⟩ := (Blk.new w #[.slice none 0 0, .slice none 0 0] 39).two
  go_enter Try.func48, Try.ntmps48
  go_wp2_with (go_at_call 85; refine (markInts_nil _ _).mono ?_; rintro e w' ⟨rfl, rfl⟩)
  go_ret
  exact ⟨rfl, bl_alloc (Below.refl _ _) _⟩
set_option maxHeartbeats 400000 in
theorem heldEnts_nil (k : Int) (w : World) (h : 0 ≤ k) : Calls Try.prog 51 #[.agg #[.slice none 0 0, .slice none 0 0], .int .i64 k] w fun e w' => e = .returned (.int .i64 k) ∧ Below w.heap.size w w' := by
  have hk : ¬ k < 0 := by omega
  obtain ⟨x0, x1, x2⟩ := (Blk.new w #[.slice none 0 0, .slice none 0 0] 39).two
  go_enter Try.func51, Try.ntmps51
  go_wp2_with (go_at_call 88; refine (heldInts_nil _ _).mono ?_; rintro e w' ⟨rfl, rfl⟩)
  go_ret
  exact ⟨rfl, bl_alloc (Below.refl _ _) _⟩

set_option maxHeartbeats 400000 in
theorem markVals_nil (k : Int) (w : World) : Calls Try.prog 50 #[.slice none 0 0, .int .i64 k] w fun e w' => e = .returned (.int .i64 k) ∧ w' = w := by
  go_enter Try.func50, Try.ntmps50
  go_wp2_with fail
  go_loop [1, 5] (fun x i => x = .int .i64 k ∧ i = .int .i64 0) (fun _ _ => 0)
  case atStart => exact ⟨rfl, rfl⟩
  case round =>
    obtain ⟨rfl, rfl⟩ := hrel
    go_wp2_with fail
    go_ret
    exact ⟨rfl, rfl⟩
/-- nothing turns but the blocks from B on, and of what was there the list's own. -/
def Just (v : Value) (B : Nat) (w w' : World) : Prop := Below B w w' ∧ ∀ k, ¬ v.ownBlock = some k → k < w.heap.size → w'.heap[k]? = w.heap[k]?
theorem Blk.same {w w' : World} {n : Nat} {c : Array Value} {t : TypeId} (h : Blk w n c t) (hb : w'.heap[n]? = w.heap[n]?) : Blk w' n c t := by unfold Blk; rw [hb]; exact h
theorem markVals_own (B : Nat) (v : Value) (L : List V4) (k : Int) (w : World) (h : OV w B v L) (hl : L.length ≤ 1048576) (h0 : 0 ≤ k) (h1 : k ≤ 100000000) :
    Calls Try.prog 50 #[v, .int .i64 k] w fun e w' => e = .returned (.int .i64 (k + 4 * (L.length : Int))) ∧ OV w' B v (mVs k L.length) ∧ Just v B w w' := by
  rcases h.form with ⟨rfl, rfl⟩ | ⟨g, cap, rfl, hB, hr⟩
  · refine (markVals_nil k w).mono fun e w' ⟨he, hw⟩ => ?_
    subst hw
    exact ⟨by simpa using he, h, Below.refl _ _, fun k _ _ => rfl⟩
  · refine (markValS_any B g cap L k w hr hl h0 h1).mono fun e w' ⟨he, h2, h3⟩ => ⟨he, ?_, h3.2.2.1 w B hB (Below.refl _ _), fun k hk hl => h3.2.2.2 k (fun e => hk (by rw [e]; rfl)) hl⟩
    unfold OV
    rw [mVs_len]
    exact h2
theorem heldVals_own (B : Nat) (s : Option Addr) (n c : Nat) (k : Int) (w : World) (h : OV w B (.slice s n c) (mVs k n)) (h0 : 0 ≤ k) (h1 : k + 4 * (n : Int) < 128) :
    Calls Try.prog 53 #[.slice s n c, .int .i64 k] w fun e w' => e = .returned (.int .i64 (k + 4 * (n : Int))) ∧ w' = w :=
  heldValS_any B s c n k w (h.els (okV_m h0 h1)) h0 h1

set_option maxRecDepth 100000 in
set_option maxHeartbeats 1000000 in
theorem markWorld_new (B : Nat) (v : Value) (L : List V4) (w : World) (h : OV w B v L) (hl : L.length ≤ 1048576) (hB : B ≤ w.heap.size) :
    Calls Try.prog 17 #[.agg #[.slice none 0 0, .slice none 0 0, .slice none 0 0, v], .int .i64 1] w fun e w' => e = .returned (.int .i64 (1 + 4 * (L.length : Int))) ∧ OV w' B v (mVs 1 L.length) ∧ Just v B w w' := by
  have k0 := Blk.new w #[.slice none 0 0, .slice none 0 0, .slice none 0 0, v] 43
  have L0 : Below w.heap.size w (w.alloc (.cells #[.slice none 0 0, .slice none 0 0, .slice none 0 0, v] 43)) := bl_alloc (Below.refl _ _) _
  obtain ⟨x0, x1, x2, x3, x4⟩ := k0.four'
  obtain ⟨s, c, rfl⟩ := h.shape
  go_enter Try.func17, Try.ntmps17
  go_wp2_with fail
  refine (markEnts_nil _ _).mono ?_
  rintro e w1 ⟨rfl, hb1⟩
  have L1 := bl_trans L0 hb1
  have k0 := k0.later hb1
  clear x0 x1 x2 x3 x4 L0 hb1
  obtain ⟨x0, x1, x2, x3, x4⟩ := k0.four'
  go_wp2_with fail
  refine (markTables_nil _ _).mono ?_
  rintro e w2 ⟨rfl, rfl⟩
  go_wp2_with fail
  refine (markVals_own B _ L _ _ (h.later L1) hl (by omega) (by omega)).mono ?_
  rintro e w3 ⟨rfl, h3, hb3⟩
  go_wp2_with fail
  go_ret
  refine ⟨rfl, h3, (L1.mono hB).trans hb3.1, fun k hk hl => ?_⟩
  have := L1.size
  rw [hb3.2 k hk (by omega), L1.block k hl]

set_option maxRecDepth 100000 in
set_option maxHeartbeats 1000000 in
theorem heldWorld_new (B : Nat) (s : Option Addr) (n c : Nat) (w : World) (h : OV w B (.slice s n c) (mVs 1 n)) (h1 : 1 + 4 * (n : Int) < 128) :
    Calls Try.prog 18 #[.agg #[.slice none 0 0, .slice none 0 0, .slice none 0 0, .slice s n c], .int .i64 1] w fun e w' => e = .returned (.int .i64 (1 + 4 * (n : Int))) ∧ Below w.heap.size w w' := by
  have k0 := Blk.new w #[.slice none 0 0, .slice none 0 0, .slice none 0 0, .slice s n c] 43
  have L0 : Below w.heap.size w (w.alloc (.cells #[.slice none 0 0, .slice none 0 0, .slice none 0 0, .slice s n c] 43)) := bl_alloc (Below.refl _ _) _
  obtain ⟨x0, x1, x2, x3, x4⟩ := k0.four'
  have hq : ¬ 1 + 4 * (n : Int) < 0 := by omega
  go_enter Try.func18, Try.ntmps18
  go_wp2_with fail
  refine (heldEnts_nil _ _ (by omega)).mono ?_
  rintro e w1 ⟨rfl, hb1⟩
  have L1 := bl_trans L0 hb1
  have k0 := k0.later hb1
  clear x0 x1 x2 x3 x4 L0 hb1
  obtain ⟨x0, x1, x2, x3, x4⟩ := k0.four'
  go_wp2_with fail
  refine (heldTables_nil _ _).mono ?_
  rintro e w2 ⟨rfl, rfl⟩
  go_wp2_with fail
  refine (heldVals_own B s n c 1 _ (h.later L1) (by omega) h1).mono ?_
  rintro e w3 ⟨rfl, rfl⟩
  go_wp2_with fail
  go_ret
  exact ⟨rfl, L1⟩
end Go.Proofs.Yteoligpjhddkdaa
