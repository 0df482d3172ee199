import Derived.Test.YtknallkcengbbaaGreatDoorQe
import Derived.Test.YtknallkcengbbaaGreatDoorJc
import Derived.Laws.BytesString
import Derived.Laws.BytesArg
import Derived.Deep.RegionHeld3
import Derived.Test.YtknallkcengbbaaGreatDoorOm
namespace Go.Proofs.YtknallkcengbbaaGreatDoor
open Go.RowKit
set_option linter.unusedVariables false
set_option linter.unusedSimpArgs false

theorem hid {p : Prop} (h : p) : Hid p := h
/-- what a mark makes of a cell: a number for a number. -/
def Alike (u v : Value) : Prop := u = v ∨ (∃ i j, u = .int .i64 i ∧ v = .int .i64 j) ∨ (∃ i j, u = .float .f64 i ∧ v = .float .f64 j) ∨ (∃ i j, u = .string i ∧ v = .string j)
/-- marking: from w0 on nothing has turned but numbers in the blocks from lo on that W1 has. -/
structure Mr (lo : Nat) (W1 w0 w : World) : Prop where
  be : Below lo w0 w
  s1 : W1.heap.size ≤ w.heap.size
  out : ∀ k, W1.heap.size ≤ k → k < w0.heap.size → w.heap[k]? = w0.heap[k]?
  al : ∀ b o u, lo ≤ b → b < W1.heap.size → W1.cell? ⟨b, o, none⟩ = some u → ∃ v, w.cell? ⟨b, o, none⟩ = some v ∧ Alike u v
  fz : ∀ b o, lo ≤ b → b < W1.heap.size → w.frozen? ⟨b, o, none⟩ = W1.frozen? ⟨b, o, none⟩
theorem Blk.same' {w w' : World} {n : Nat} {c : Array Value} {t : TypeId} (h : Blk w n c t) (hb : w'.heap[n]? = w.heap[n]?) : Blk w' n c t := by unfold Blk; rw [hb]; exact h
section
variable {lo : Nat} {W1 w0 w w' : World}
theorem Mr.start (hb : Below W1.heap.size W1 w0) (lo : Nat) : Mr lo W1 w0 w0 :=
  ⟨Below.refl _ _, hb.size, fun _ _ _ => rfl, fun b o u _ hl hc => ⟨u, (hb.cell (p := ⟨b, o, none⟩) hl).trans hc, Or.inl rfl⟩, fun b o _ hl => hb.frozen (p := ⟨b, o, none⟩) hl⟩
theorem Mr.later (h : Mr lo W1 w0 w) (hb : Below w.heap.size w w') (hlo : lo ≤ w0.heap.size) : Mr lo W1 w0 w' := by
  have hs := h.be.size
  have h1 := h.s1
  have h2 := hb.size
  exact ⟨h.be.trans (hb.mono (by omega)), by omega, fun k h3 h4 => (hb.block k (by omega)).trans (h.out k h3 h4), fun b o u h3 h4 hc => by
    obtain ⟨v, hv, ha⟩ := h.al b o u h3 h4 hc
    exact ⟨v, (hb.cell (p := ⟨b, o, none⟩) (show b < w.heap.size by omega)).trans hv, ha⟩, fun b o h3 h4 => (hb.frozen (p := ⟨b, o, none⟩) (show b < w.heap.size by omega)).trans (h.fz b o h3 h4)⟩
theorem Mr.alloc (h : Mr lo W1 w0 w) (hlo : lo ≤ w0.heap.size) (ob : Obj) : Mr lo W1 w0 (w.alloc ob) := h.later (bl_alloc (Below.refl _ w) ob) hlo
theorem Mr.set (h : Mr lo W1 w0 w) {b o : Nat} {u v : Value} (hb : lo ≤ b) (hl : b < W1.heap.size) (hc : W1.cell? ⟨b, o, none⟩ = some u) (hA : Alike u v) : Mr lo W1 w0 (w.setCell ⟨b, o, none⟩ v) := by
  refine ⟨h.be.setCell hb v, by simpa using h.s1, fun k h3 h4 => ?_, fun b' o' u' h3 h4 hc' => ?_, fun b' o' h3 h4 => (World.frozen?_setCell _ _ _ _).trans (h.fz b' o' h3 h4)⟩
  · rw [Below.heap_setCell w ⟨b, o, none⟩ v k (by dsimp only; omega)]
    exact h.out k h3 h4
  · by_cases e : b = b' ∧ o = o'
    · obtain ⟨rfl, rfl⟩ := e
      obtain ⟨x, hx, _⟩ := h.al b o u' h3 h4 hc'
      rw [hc] at hc'
      cases hc'
      exact ⟨v, World.cell?_setCell_same _ _ _ hx, hA⟩
    · obtain ⟨x, hx, hax⟩ := h.al b' o' u' h3 h4 hc'
      exact ⟨x, (World.cell?_setCell_other _ _ _ _ (fun q => e (by simpa using q))).trans hx, hax⟩
theorem Mr.re (h : Mr lo W1 w0 w) : Mr lo W1 w w := ⟨Below.refl _ _, h.s1, fun _ _ _ => rfl, h.al, h.fz⟩
theorem Mr.join (h : Mr lo W1 w0 w) (g : Mr lo W1 w w') : Mr lo W1 w0 w' :=
  ⟨h.be.trans g.be, g.s1, fun k h1 h2 => (g.out k h1 (by have := h.be.size; omega)).trans (h.out k h1 h2), g.al, g.fz⟩
theorem Mr.blk (h : Mr lo W1 w0 w) {n : Nat} {c : Array Value} {t : TypeId} (hn : W1.heap.size ≤ n) (hb : Blk w0 n c t) : Blk w n c t := hb.same' (h.out n hn hb.lt)
theorem Mr.setI (h : Mr lo W1 w0 w) {b o : Nat} {i : Int} (hb : lo ≤ b) (hl : b < W1.heap.size) (hc : W1.cell? ⟨b, o, none⟩ = some (.int .i64 i)) (j : Int) : Mr lo W1 w0 (w.setCell ⟨b, o, none⟩ (.int .i64 j)) := h.set hb hl hc (Or.inr (Or.inl ⟨_, _, rfl, rfl⟩))
theorem Mr.setF (h : Mr lo W1 w0 w) {b o : Nat} {i : Nat} (hb : lo ≤ b) (hl : b < W1.heap.size) (hc : W1.cell? ⟨b, o, none⟩ = some (.float .f64 i)) (j : Nat) : Mr lo W1 w0 (w.setCell ⟨b, o, none⟩ (.float .f64 j)) := h.set hb hl hc (Or.inr (Or.inr (Or.inl ⟨_, _, rfl, rfl⟩)))
theorem Mr.int (h : Mr lo W1 w0 w) {b o : Nat} {i : Int} (hb : lo ≤ b) (hl : b < W1.heap.size) (hc : W1.cell? ⟨b, o, none⟩ = some (.int .i64 i)) : ∃ j, w.cell? ⟨b, o, none⟩ = some (.int .i64 j) := by
  obtain ⟨v, hv, ha⟩ := h.al b o _ hb hl hc
  rcases ha with rfl | ⟨_, j, _, rfl⟩ | ⟨_, j, e, _⟩ | ⟨_, j, e, _⟩
  · exact ⟨_, hv⟩
  · exact ⟨_, hv⟩
  · cases e
  · cases e
theorem Mr.str (h : Mr lo W1 w0 w) {b o : Nat} {i : ByteArray} (hb : lo ≤ b) (hl : b < W1.heap.size) (hc : W1.cell? ⟨b, o, none⟩ = some (.string i)) : ∃ j, w.cell? ⟨b, o, none⟩ = some (.string j) := by
  obtain ⟨v, hv, ha⟩ := h.al b o _ hb hl hc
  rcases ha with rfl | ⟨_, j, e, _⟩ | ⟨_, j, e, _⟩ | ⟨_, j, _, rfl⟩
  · exact ⟨_, hv⟩
  · cases e
  · cases e
  · exact ⟨_, hv⟩
theorem Mr.setS (h : Mr lo W1 w0 w) {b o : Nat} {i : ByteArray} (hb : lo ≤ b) (hl : b < W1.heap.size) (hc : W1.cell? ⟨b, o, none⟩ = some (.string i)) (j : ByteArray) : Mr lo W1 w0 (w.setCell ⟨b, o, none⟩ (.string j)) := h.set hb hl hc (Or.inr (Or.inr (Or.inr ⟨_, _, rfl, rfl⟩)))
theorem Mr.sl (h : Mr lo W1 w0 w) {b o : Nat} {s : Option Addr} {n c : Nat} (hb : lo ≤ b) (hl : b < W1.heap.size) (hc : W1.cell? ⟨b, o, none⟩ = some (.slice s n c)) : w.cell? ⟨b, o, none⟩ = some (.slice s n c) := by
  obtain ⟨v, hv, ha⟩ := h.al b o _ hb hl hc
  rcases ha with rfl | ⟨_, j, e, _⟩ | ⟨_, j, e, _⟩ | ⟨_, j, e, _⟩
  · exact hv
  · cases e
  · cases e
  · cases e
end
theorem Els.free {α : Type} {k : Nat} {E : World → Nat → List Value → α → Prop} {w : World} {B b o : Nat} {L : List α} (h : Els k E w B (some ⟨b, o, none⟩) L) (h0 : 0 < B) (hL : ¬ L = []) : ∀ j, w.frozen? ⟨b, j, none⟩ = false := by
  rcases h with e | ⟨b', o', e, _, _, _, hz⟩
  · exact absurd e hL
  · cases e
    exact hz h0
theorem not_nil {α : Type} {L : List α} {j : Nat} (h : j < L.length) : ¬ L = [] := by rintro rfl; simp at h

set_option maxHeartbeats 2000000 in
theorem markI_w (lo : Nat) (W1 w0 : World) (s : Option Addr) (c : Nat) (L : List Int) (k : Int) (w : World) (hE : Els 1 cInt W1 lo s L) (hp : 0 < lo) (h : Mr lo W1 w0 w) (hl : L.length ≤ 1048576) (k0 : 0 ≤ k) (k1 : k ≤ 9000000000000000000) :
    Calls Tryz.prog 15 #[.slice s L.length c, .int .i64 k] w fun e w' => e = .returned (.int .i64 (k + (L.length : Int))) ∧ Mr lo W1 w0 w' := by
  go_enter Tryz.func15, Tryz.ntmps15
  go_wp2_with fail
  go_loopw [1, 5] (fun x i wr => ∃ m : Nat, m ≤ L.length ∧ i = .int .i64 m ∧ x = .int .i64 (k + (m : Int)) ∧ Hid (Mr lo W1 w0 wr)) (fun _ i _ => L.length - (intOf i).toNat)
  case atStart => exact ⟨0, Nat.zero_le _, rfl, by simp, h⟩
  case round =>
    obtain ⟨m, hm, rfl, rfl, hM⟩ := hrel
    by_cases hlt : m < L.length
    · obtain ⟨a, ha⟩ := get_some hlt
      obtain ⟨b, o, rfl, hB, hb, e0⟩ := eInt_cells hE ha
      have hfz := fun j => (hM.out.fz b j hB hb).trans (hE.free hp (not_nil hlt) j)
      obtain ⟨j0, c0⟩ := hM.out.int hB hb e0
      have HN : Hid (Mr lo W1 w0 (wr.setCell ⟨b, o + m, none⟩ (.int .i64 (k + (m : Int))))) := hM.out.setI hB hb e0 _
      clear hM h e0 hE ha
      go_wp2_with fail
      refine ⟨⟨m + 1, by omega, by go_num, ?_, HN⟩, by simp [intOf]; omega⟩
      congr 1; simp; omega
    · have hm' : m = L.length := by omega
      subst hm'
      go_wp2_with fail
      go_ret
      exact ⟨rfl, hM.out⟩

theorem one_byte (w : World) (c : Int) : (convert 98 9 (.slice (some ⟨w.heap.size, 0, none⟩) 1 1)).run Tryz.prog (w.alloc (.cells #[.int .u8 c] 5)) = .ok (.string (ByteArray.empty.push (UInt8.ofNat c.toNat))) (w.alloc (.cells #[.int .u8 c] 5)) := by
  rw [run_convert_bytes_string _ _ _ _ _ _ _ Tryz.underlying98 Tryz.underlying5 Tryz.underlying9]
  rw [run_bytesToString _ _ 1 1 [c] (by simp [go_sem])]
  rfl
theorem push_size (x : UInt8) (t : ByteArray) : (ByteArray.empty.push x ++ t).size = 1 + t.size := by
  rw [ByteArray.size_append]; rfl
theorem m_size (t : ByteArray) : ((⟨#[109]⟩ : ByteArray) ++ t).size = 1 + t.size := by
  rw [ByteArray.size_append]; rfl
set_option maxHeartbeats 1000000 in
theorem markText_w (k : Int) (w : World) (h0 : 1 ≤ k) (h1 : k ≤ 1000000000000000000) :
    Calls Tryz.prog 46 #[.int .i64 k] w fun e w' => (∃ t : ByteArray, e = .returned (.string t)) ∧ Below w.heap.size w w' := by
  have hob := one_byte
  go_enter Tryz.func46, Tryz.ntmps46
  go_wp2_with fail
  go_loopw [0, 3] (fun x s wr => ∃ (k : Int) (t : ByteArray), x = .int .i64 k ∧ s = .string t ∧ 0 ≤ k ∧ k ≤ 1000000000000000000 ∧ (t.size : Int) + k ≤ 1000000000000000000 ∧ Below w.heap.size w wr) (fun x _ _ => (intOf x).toNat)
  case atStart => exact ⟨k, _, rfl, rfl, by omega, by omega, by rw [show ((⟨#[]⟩ : ByteArray).size : Int) = 0 from rfl]; omega, Below.refl _ _⟩
  case round =>
    obtain ⟨k, t, rfl, rfl, k0, k1, kt, hb⟩ := hrel
    have hts : ¬ 9223372036854775807 < 1 + t.size := by omega
    by_cases hk : 0 < k
    · go_wp2_with fail
      refine ⟨⟨k / 10, _, rfl, rfl, by omega, by omega, ?_, bl_alloc hb _⟩, ?_⟩
      · rw [push_size]; omega
      · simp [intOf]; omega
    · have hk0 : k = 0 := by omega
      subst hk0
      go_wp2_with fail
      go_ret
      exact ⟨⟨_, rfl⟩, hb⟩

set_option maxRecDepth 100000 in
set_option maxHeartbeats 4000000 in
theorem markNode_w (lo : Nat) (W1 w0 : World) (s : Option Addr) (c : Nat) (L : List Nd) (k : Int) (w : World) (hE : Els 4 cNode W1 lo s L) (hp : 0 < lo) (h : Mr lo W1 w0 w) (hlo : lo ≤ w0.heap.size) (hl : L.length ≤ 1048576) (hk : ∀ n ∈ L, kNode n) (k0 : 1 ≤ k) (k1 : k ≤ 1000) :
    Calls Tryz.prog 28 #[.slice s L.length c, .int .i64 k] w fun e w' => (∃ k', e = .returned (.int .i64 k') ∧ k ≤ k' ∧ k' ≤ k + 1048579 * (L.length : Int)) ∧ Mr lo W1 w0 w' := by
  have HK : Hid (∀ n ∈ L, kNode n) := hk
  clear hk
  go_enter Tryz.func28, Tryz.ntmps28
  go_wp2_with fail
  go_loopw [1, 5] (fun x i wr => ∃ (m : Nat) (q : Int), m ≤ L.length ∧ i = .int .i64 m ∧ x = .int .i64 q ∧ k ≤ q ∧ q ≤ k + 1048579 * (m : Int) ∧ Hid (Mr lo W1 w0 wr)) (fun _ i _ => L.length - (intOf i).toNat)
  case atStart => exact ⟨0, k, Nat.zero_le _, rfl, rfl, by omega, by omega, h⟩
  case round =>
    obtain ⟨m, q, hm, rfl, rfl, q0, q1, hM⟩ := hrel
    by_cases hlt : m < L.length
    · obtain ⟨a, ha⟩ := get_some hlt
      obtain ⟨b, o, rfl, hB, hb, s', c', e0, e1, e2, e3, f⟩ := eNode_cells hE ha
      have hla := (HK.out a (List.mem_of_getElem? ha)).2
      have hfz := fun j => (hM.out.fz b j hB hb).trans (hE.free hp (not_nil hlt) j)
      have HFZ := hid (fun j => hE.free hp (not_nil hlt) j)
      have HE0 := hid e0
      have HE1 := hid e1
      have HE2 := hid e2
      have HE3 := hid e3
      obtain ⟨j0, d0⟩ := hM.out.int hB hb e0
      have HN1 : Hid (Mr lo W1 w0 (wr.setCell ⟨b, o + m * 4, none⟩ (.int .i64 q))) := hM.out.setI hB hb e0 _
      have HF : Hid (Els 1 cInt W1 lo s' a.kids) := f
      clear hM h e0 e1 e2 e3 hE ha f
      go_wp2_with fail
      generalize wr.setCell ⟨b, o + m * 4, none⟩ (.int .i64 q) = X1 at HN1 ⊢
      clear d0 hfz
      refine (markText_w (q + 1) X1 (by omega) (by omega)).mono ?_
      rintro e X2 ⟨⟨tx, rfl⟩, hb2⟩
      have HN2 := hid (HN1.out.later hb2 hlo)
      clear HN1 hb2
      have hfz := fun j => (HN2.out.fz b j hB hb).trans (HFZ.out j)
      obtain ⟨j1, d1⟩ := HN2.out.str hB hb HE1.out
      have HN3 : Hid (Mr lo W1 w0 (X2.setCell ⟨b, o + m * 4 + 1, none⟩ (.string tx))) := HN2.out.setS hB hb HE1.out _
      obtain ⟨j2, d2⟩ := HN3.out.int hB hb HE2.out
      have HN4 : Hid (Mr lo W1 w0 ((X2.setCell ⟨b, o + m * 4 + 1, none⟩ (.string tx)).setCell ⟨b, o + m * 4 + 2, none⟩ (.int .i64 (q + 1 + 1)))) := HN3.out.setI hB hb HE2.out _
      have d3 := HN4.out.sl hB hb HE3.out
      have d2' := HN2.out.int hB hb HE2.out
      obtain ⟨j2', d2'⟩ := d2'
      have d3' := HN2.out.sl hB hb HE3.out
      clear d2 d3 HN2 HN3
      go_wp2_with fail
      refine (markI_w lo W1 w0 s' c' a.kids _ _ HF.out hp HN4.out hla (by omega) (by omega)).mono ?_
      rintro e w2 ⟨rfl, hM2⟩
      have HN5 : Hid (Mr lo W1 w0 w2) := hM2
      clear hM2 HN4 hfz d1 d2' d3'
      go_wp2_with fail
      go_roundw
      case rel => exact ⟨m + 1, _, by omega, by go_num, rfl, by omega, by omega, HN5⟩
      case measure => simp [intOf]; omega
    · have hm' : m = L.length := by omega
      subst hm'
      go_wp2_with fail
      go_ret
      exact ⟨⟨q, rfl, q0, q1⟩, hM.out⟩

/-! own ints, marked and held -/
def ims (k : Int) : Nat → List Int
  | 0 => []
  | n + 1 => ims k n ++ [k + n]
theorem ims_len (k : Int) : ∀ n, (ims k n).length = n
  | 0 => rfl
  | n + 1 => by simp [ims, ims_len k n]
theorem ims_get (k : Int) : ∀ (n j : Nat), j < n → (ims k n)[j]? = some (k + j)
  | n + 1, j, h => by
    by_cases e : j < n
    · rw [ims, List.getElem?_append_left (by rw [ims_len]; exact e), ims_get k n j e]
    · have : j = n := by omega
      subst this
      rw [ims, List.getElem?_append_right (by rw [ims_len]; omega), ims_len]; simp
theorem ims_step (G : List Int) (k : Int) (m : Nat) (h : m < G.length) : (ims k m ++ G.drop m).set m (k + m) = ims k (m + 1) ++ G.drop (m + 1) := by
  rw [List.set_append_right _ _ (by rw [ims_len]; omega), ims_len, Nat.sub_self, List.drop_eq_getElem_cons h, List.set_cons_zero, ims]
  simp
theorem grown_setI (w : World) (g m : Nat) (u : Value) : w.grownBy (w.setCell ⟨g, m, none⟩ u) (some g) := ⟨rfl, rfl, rfl, by simp [World.setCell], fun k hk hr => Below.heap_setCell w ⟨g, m, none⟩ u k (fun e => hr (by rw [e]))⟩
theorem OI.setN {w : World} {B g n cap : Nat} {L : List Int} (hn : L.length = n) (h : OI w B (.slice (some ⟨g, 0, none⟩) n cap) L) (m : Nat) (x : Int) : OI (w.setCell ⟨g, m, none⟩ (.int .i64 x)) B (.slice (some ⟨g, 0, none⟩) n cap) (L.set m x) := by
  subst hn
  obtain ⟨h1, h2⟩ := h
  rcases h2 with ⟨h2, _⟩ | ⟨g', cap', cur, e, hb, hg, hc, hx, hs, ht⟩
  · cases h2
  · cases e
    unfold OI
    rw [List.length_set]
    refine ⟨by simp, Or.inr ⟨g, cap, cur.setIfInBounds m (.int .i64 x), rfl, hb, heap_setCell_same w g m cur _ _ hg, hc, hx, by simpa using hs, ?_⟩⟩
    rw [Array.toList_setIfInBounds, List.take_set, ht, List.map_set]
theorem OI.at {w : World} {B g n cap : Nat} {L : List Int} (h : OI w B (.slice (some ⟨g, 0, none⟩) n cap) L) {j : Nat} {x : Int} (hj : L[j]? = some x) : w.cell? ⟨g, j, none⟩ = some (.int .i64 x) ∧ w.frozen? ⟨g, j, none⟩ = false := by
  obtain ⟨h1, h2⟩ := h
  rcases h2 with ⟨h2, _⟩ | ⟨g', cap', cur, e, hb, hg, hc, hx, hs, ht⟩
  · cases h2
  · have e' := e
    simp only [Value.slice.injEq, Option.some.injEq, Addr.mk.injEq, true_and, and_true] at e'
    obtain ⟨rfl, e2, rfl⟩ := e'
    refine ⟨?_, frozen_of_row w g j cur _ hg⟩
    rw [cell_of_row w g j cur _ (0, 0) hg]
    have hl : j < L.length := (List.getElem?_eq_some_iff.1 hj).1
    have := congrArg (fun l => l[j]?) ht
    simp only [List.getElem?_take, List.getElem?_map, hj] at this
    rw [if_pos (by omega)] at this
    simpa using this

set_option maxHeartbeats 2000000 in
theorem markI_full (B : Nat) (s : Option Addr) (c : Nat) (G : List Int) (w : World) (h : OI w B (.slice s G.length c) G) (hl : G.length ≤ 4398046511104) :
    Calls Tryz.prog 15 #[.slice s G.length c, .int .i64 1] w fun e w' => e = .returned (.int .i64 (1 + (G.length : Int))) ∧ OI w' B (.slice s G.length c) (ims 1 G.length) ∧ w.grownBy w' (Value.slice s G.length c).ownBlock := by
  rcases h.form with ⟨hv, rfl⟩ | ⟨g, cap, hv, _, _, _⟩
  · simp only [Value.slice.injEq] at hv
    obtain ⟨rfl, -, rfl⟩ := hv
    go_enter Tryz.func15, Tryz.ntmps15
    go_wp2_with fail
    refine wp_loop_rounds 1 ?_
    rw [rounds_succ]
    go_wp2_with fail
    go_ret
    exact ⟨by simp, OI.nil _ _, grown_refl _ _⟩
  · simp only [Value.slice.injEq, true_and] at hv
    obtain ⟨rfl, rfl⟩ := hv
    go_enter Tryz.func15, Tryz.ntmps15
    go_wp2_with fail
    go_loopw [1, 5] (fun cv i wr => ∃ m : Nat, m ≤ G.length ∧ i = .int .i64 m ∧ cv = .int .i64 (1 + (m : Int)) ∧ Hid (OI wr B (.slice (some ⟨g, 0, none⟩) G.length c) (ims 1 m ++ G.drop m)) ∧ Hid (w.grownBy wr (some g))) (fun _ i _ => G.length - (intOf i).toNat)
    case atStart => exact ⟨0, Nat.zero_le _, rfl, by simp, by simpa [ims, Hid] using h, grown_refl _ _⟩
    case round =>
      obtain ⟨m, hm, rfl, rfl, hr, hg⟩ := hrel
      by_cases hlt : m < G.length
      · obtain ⟨y, hy⟩ : ∃ y, (ims 1 m ++ G.drop m)[m]? = some y := get_some (by simp [ims_len]; omega)
        obtain ⟨x0, x1⟩ := hr.out.at hy
        have hr' : Hid (OI (wr.setCell ⟨g, m, none⟩ (.int .i64 (1 + (m : Int)))) B (.slice (some ⟨g, 0, none⟩) G.length c) (ims 1 (m + 1) ++ G.drop (m + 1))) := by
          have := hr.out.setN (by simp [ims_len]; omega) m (1 + (m : Int))
          rw [ims_step G 1 m hlt] at this
          exact this
        have hg' : Hid (w.grownBy (wr.setCell ⟨g, m, none⟩ (.int .i64 (1 + (m : Int)))) (some g)) := grown_trans hg.out (grown_setI wr g m (.int .i64 (1 + (m : Int))))
        clear h hr hg hy
        go_wp2_with fail
        go_roundw
        case rel => exact ⟨m + 1, by omega, by go_num, by go_num, hr', hg'⟩
        case measure => simp [intOf]; omega
      · have hm' : m = G.length := by omega
        subst hm'
        have hE : Hid (OI wr B (.slice (some ⟨g, 0, none⟩) G.length c) (ims 1 G.length)) := by have := hr.out; simpa [Hid] using this
        clear h hr
        go_wp2_with fail
        go_ret
        exact ⟨rfl, hE.out, hg.out⟩

set_option maxHeartbeats 2000000 in
theorem heldI_full (B : Nat) (s : Option Addr) (n c : Nat) (w : World) (h : Els 1 cInt w B s (ims 1 n)) (hl : n ≤ 4398046511104) :
    Calls Tryz.prog 16 #[.slice s n c, .int .i64 1] w fun e w' => e = .returned (.int .i64 (1 + (n : Int))) ∧ Below w.heap.size w w' := by
  have H : Hid (Els 1 cInt w B s (ims 1 n)) := h
  clear h
  go_enter Tryz.func16, Tryz.ntmps16
  go_wp2_with fail
  go_loop [1, 5] (fun cv i => ∃ m : Nat, m ≤ n ∧ i = .int .i64 m ∧ cv = .int .i64 (1 + (m : Int))) (fun _ i => n - (intOf i).toNat)
  case atStart => exact ⟨0, Nat.zero_le _, rfl, by simp⟩
  case round =>
    obtain ⟨m, hm, rfl, rfl⟩ := hrel
    by_cases hlt : m < n
    · obtain ⟨b, o, rfl, _, hb, e0⟩ := eInt_cells H.out (ims_get 1 n m hlt)
      go_wp2_with fail
      go_round
      case rel => exact ⟨m + 1, by omega, by go_num, by go_num⟩
      case measure => simp [intOf]; omega
    · have hm' : m = n := by omega
      subst hm'
      go_wp2_with fail
      go_ret
      exact ⟨rfl, Below.refl _ _⟩

set_option maxHeartbeats 2000000 in
theorem eqI_more (s t : Option Addr) (c d : Nat) (R : List Int) (B C : Nat) (w : World) (hs : Els 1 cInt w B s R) (ht : Els 1 cInt w C t R) (hl : R.length ≤ 4398046511104) :
    Calls Tryz.prog 14 #[.slice s R.length c, .slice t R.length d] w fun e w' => e = .returned (.bool true) ∧ Below w.heap.size w w' := by
  have H1 : Hid (Els 1 cInt w B s R) := hs
  have H2 : Hid (Els 1 cInt w C t R) := ht
  clear hs ht
  go_enter Tryz.func14, Tryz.ntmps14
  go_wp2
  go_loopw [5] (fun i wr => ∃ k : Nat, k ≤ R.length ∧ i = .int .i64 k ∧ Hid (Below w.heap.size w wr)) (fun i _ => R.length - (intOf i).toNat)
  case atStart => exact ⟨0, Nat.zero_le _, rfl, Below.refl _ _⟩
  case round =>
    obtain ⟨k, hk, rfl, hbel⟩ := hrel
    by_cases hlt : k < R.length
    · obtain ⟨x, hx⟩ := get_some hlt
      obtain ⟨b, o, rfl, _, hb, d1⟩ := eInt_cells (H1.out.later cInt_keeps hbel.out) hx
      obtain ⟨b2, o2, rfl, _, hb2, d2⟩ := eInt_cells (H2.out.later cInt_keeps hbel.out) hx
      have g : (x != x) = false := by simp
      clear hx
      go_wp2
      go_region
      go_wp2
      go_roundw
      case rel => exact ⟨k + 1, by omega, by go_num, bl_drewN hbel.out _⟩
      case measure => simp [intOf]; omega
    · go_wp2
      go_ret
      exact ⟨rfl, hbel.out⟩

theorem Blk.under {BB n : Nat} {w w' : World} {c : Array Value} {t : TypeId} (h : Blk w n c t) (hb : Below BB w w') (hn : n < BB) : Blk w' n c t := by unfold Blk; rw [hb.block n hn]; exact h
/-- the top ahead of the k-th, or what stands for it. -/
def topB (T : List Int) (k : Nat) : Int := if k = 0 then -1 else (T[k - 1]?).getD 0
/-- how many nodes the k-th top has. -/
def szAt (T : List Int) (k : Nat) : Int := (T[k]?).getD 0 - topB T k
def szN (T : List Int) (k : Nat) : List Int := (List.range k).map (szAt T)
theorem szN_len (T : List Int) (k : Nat) : (szN T k).length = k := by simp [szN]
theorem szN_succ (T : List Int) (k : Nat) : szN T (k + 1) = szN T k ++ [szAt T k] := by simp [szN, List.range_succ]
theorem topB_succ {T : List Int} {k : Nat} {x : Int} (h : T[k]? = some x) : topB T (k + 1) = x := by simp [topB, h]
/-- what Sizes answers. -/
noncomputable def sizA (t : Tre) : List Int := if treB t = true then szN t.tops t.tops.length else []
theorem fitL_in {K : Nat → List Int} {ok : Nat → Prop} {l : List Int} {a e : Nat} (h : FitL K ok l a e) : ∀ x ∈ l, 0 ≤ x ∧ x < e := by
  induction h with
  | nil nx => intro x hx; simp at hx
  | cons nx k ks e h1 h2 h3 h4 _ ih =>
    intro x hx
    have hle := h4.le
    rcases List.mem_cons.1 hx with rfl | hx
    · omega
    · exact ih x hx
theorem tops_in {t : Tre} (h : treP t) : (∀ x ∈ t.tops, 0 ≤ x ∧ x < 4000) ∧ t.tops.length ≤ 4000 := by
  obtain ⟨h1, h2, _⟩ := h
  refine ⟨fun x hx => ?_, ?_⟩
  · have := fitL_in h2 x hx; omega
  · have := h2.len; omega
theorem topB_in {T : List Int} (h : ∀ x ∈ T, 0 ≤ x ∧ x < 4000) (k : Nat) (hk : k ≤ T.length) : -1 ≤ topB T k ∧ topB T k < 4000 := by
  unfold topB
  split
  · omega
  · have : k - 1 < T.length := by omega
    rw [List.getElem?_eq_getElem this]
    have := h _ (List.getElem_mem this)
    simp only [Option.getD_some]; omega

set_option maxRecDepth 100000 in
set_option maxHeartbeats 4000000 in
theorem specSizes_any (t : Tre) (s1 s2 : Option Addr) (c1 c2 B : Nat) (w : World) (hT : InT w B s1 s2 t) (hkt : kTre t) :
    Calls Tryz.prog 12 #[.agg #[.slice s1 t.nodes.length c1, .slice s2 t.tops.length c2]] w fun e w' => (∃ s c, e = .returned (.slice s (sizA t).length c) ∧ OI w' w.heap.size (.slice s (sizA t).length c) (sizA t)) ∧ Below w.heap.size w w' := by
  have hal := alloc_old
  have haf := alloc_oldf
  have k0 := Blk.new w #[.slice s1 t.nodes.length c1, .slice s2 t.tops.length c2] 29
  have L0 := bl_alloc (Below.refl _ w) (.cells #[.slice s1 t.nodes.length c1, .slice s2 t.tops.length c2] 29)
  obtain ⟨x0, x1, x2⟩ := k0.two
  have HT := hid (hT.later L0)
  have HKT := hid hkt
  clear hT hkt
  go_enter Tryz.func12, Tryz.ntmps12
  go_wp2_with fail
  refine (specTreeOk_any t _ _ _ _ _ _ HT.out HKT.out).mono ?_
  rintro e w1 ⟨rfl, hb1⟩
  have L1 := bl_trans L0 hb1
  have k1 := k0.later hb1
  have HT1 := hid (HT.out.later hb1)
  clear x0 x1 x2 k0 hb1 L0 HT
  obtain ⟨x0, x1, x2⟩ := k1.two
  by_cases hp : treP t
  rotate_left
  · have q1 : treB t = false := treB_false hp
    have HE : Hid (sizA t = []) := by show _ = _; unfold sizA; rw [q1]; rfl
    rw [q1]
    clear hp q1
    go_wp2_with fail
    go_ret
    refine ⟨⟨none, 0, ?_, ?_⟩, L1⟩
    · rw [HE.out]; rfl
    · rw [HE.out]; exact OI.nil _ _
  have q1 : treB t = true := treB_true hp
  obtain ⟨hin, hlen⟩ := tops_in hp
  have HIN := hid hin
  have HE : Hid (sizA t = szN t.tops t.tops.length) := by show _ = _; unfold sizA; rw [q1]; rfl
  rw [q1]
  clear hp q1 hin
  have hw1 : w.heap.size < w1.heap.size := k1.lt
  have kE := Blk.new w1 #[] 3
  have LE := bl_alloc (Below.refl _ w1) (.cells #[] 3)
  have OE : Hid (OI (w1.alloc (.cells #[] 3)) w1.heap.size (.slice (some ⟨w1.heap.size, 0, none⟩) 0 0) []) := OI.empty kE
  have k2 := k1.later LE
  have k1' := k1
  have HT2 := hid (HT1.out.later LE)
  have LE2 := bl_trans L1 LE
  clear x0 x1 x2
  obtain ⟨x0, x1, x2⟩ := k2.two
  have LX := LE
  clear k1 kE
  go_wp2_with fail
  generalize hX : w1.alloc (.cells #[] 3) = X at k2 LE LE2 LX OE HT2 x0 x1 x2 ⊢
  have hXs : X.heap.size = w1.heap.size + 1 := by rw [← hX]; simp
  have KX : Hid (Blk w1 w.heap.size #[.slice s1 t.nodes.length c1, .slice s2 t.tops.length c2] 29) := k1'
  clear hX k2 x0 x1 x2 LE LE2 HT2
  go_loopw [3, 4, 5] (fun v u i wr => ∃ (k : Nat) (s9 : Option Addr) (c9 : Nat) (R : List Int) (z : Int), k ≤ t.tops.length ∧ i = .int .i64 k ∧ u = .int .i64 z ∧ v = .slice s9 R.length c9 ∧ Hid (R = szN t.tops k) ∧ Hid (z = topB t.tops k) ∧ Hid (OI wr w1.heap.size (.slice s9 R.length c9) R) ∧ Hid (Below w1.heap.size w1 wr)) (fun _ _ i _ => t.tops.length - (intOf i).toNat)
  case atStart => exact ⟨0, _, 0, [], -1, Nat.zero_le _, rfl, rfl, rfl, (by simp [Hid, szN]), rfl, OE.out, LX⟩
  case round =>
    obtain ⟨k, s9, c9, R, z, hk, rfl, rfl, rfl, hR, hz, hO, hb⟩ := hrel
    have hRl : R.length = k := by rw [hR.out, szN_len]
    have bl := KX.out.under hb.out hw1
    obtain ⟨x0, x1, x2⟩ := bl.two
    by_cases hlt : k < t.tops.length
    · obtain ⟨x, hx⟩ := get_some hlt
      have hxi := HIN.out x (List.mem_of_getElem? hx)
      have hzi := topB_in HIN.out k hk
      rw [← hz.out] at hzi
      obtain ⟨b, o, rfl, hB, hp, e0⟩ := eInt_cells HT1.out.t hx
      have e5 := (hb.out.cell (p := ⟨b, o + k, none⟩) hp).trans e0
      have hbs := hb.out.size
      have E5 : Hid (Els 1 cInt (wr.alloc (.cells #[.int .i64 (x - z)] 3)) wr.heap.size (some ⟨wr.heap.size, 0, none⟩) [x - z]) := Els.one (Blk.new wr #[.int .i64 (x - z)] 3)
      have O5 : Hid (OI (wr.alloc (.cells #[.int .i64 (x - z)] 3)) w1.heap.size (.slice s9 R.length c9) R) := hO.out.later (bl_alloc (Below.refl _ _) _)
      have B5 : Hid (Below w1.heap.size w1 (wr.alloc (.cells #[.int .i64 (x - z)] 3))) := hb.out.alloc (by omega) _
      obtain ⟨R2, hR2⟩ : ∃ R2, Hid (R ++ [x - z] = R2) := ⟨_, rfl⟩
      have hRn : Hid (R2 = szN t.tops (k + 1)) := by
        show _ = _
        rw [← hR2.out, hR.out, szN_succ, hz.out]; simp [szAt, hx]
      have hzn : Hid (x = topB t.tops (k + 1)) := (topB_succ hx).symm
      have s5 : w1.heap.size ≤ (wr.alloc (.cells #[.int .i64 (x - z)] 3)).heap.size := by simp; omega
      clear hR hz hO hx
      go_wp2_with (at_builtin; refine wpList_append_ints rfl _ _ rfl w1.heap.size s9 c9 R rfl O5.out wr.heap.size _ 1 [x - z] rfl E5.out R2 hR2.out (by simp; omega) s5 ?_; intro s' c' w4 hO4 hg4 hn4; have hb4 := grown_oi B5.out s5 O5.out hg4; obtain ⟨y0, y1, y2⟩ := (KX.out.under hb4 hw1).two; have e6 := (hb4.cell (p := ⟨b, o + k, none⟩) hp).trans e0)
      go_roundw
      case rel => exact ⟨k + 1, s', c', R2, x, by omega, by go_num, rfl, rfl, hRn, hzn, hO4, hb4⟩
      case measure => simp [intOf] <;> omega
    · have hk' : k = t.tops.length := by omega
      subst hk'
      go_wp2_with fail
      go_ret
      refine ⟨⟨s9, c9, ?_, ?_⟩, L1.trans (hb.out.mono (by omega))⟩
      · rw [HE.out, ← hR.out]; rfl
      · rw [HE.out, ← hR.out]; exact hO.out.mono (by omega)
set_option maxRecDepth 100000 in
set_option maxHeartbeats 4000000 in
theorem implSizes_any (t : Tre) (s1 s2 : Option Addr) (c1 c2 B : Nat) (w : World) (hT : InT w B s1 s2 t) (hkt : kTre t) :
    Calls Tryz.prog 13 #[.agg #[.slice s1 t.nodes.length c1, .slice s2 t.tops.length c2]] w fun e w' => (∃ s c, e = .returned (.slice s (sizA t).length c) ∧ OI w' w.heap.size (.slice s (sizA t).length c) (sizA t)) ∧ Below w.heap.size w w' := by
  have hal := alloc_old
  have haf := alloc_oldf
  have k0 := Blk.new w #[.slice s1 t.nodes.length c1, .slice s2 t.tops.length c2] 29
  have L0 := bl_alloc (Below.refl _ w) (.cells #[.slice s1 t.nodes.length c1, .slice s2 t.tops.length c2] 29)
  obtain ⟨x0, x1, x2⟩ := k0.two
  have HT := hid (hT.later L0)
  have HKT := hid hkt
  clear hT hkt
  go_enter Tryz.func13, Tryz.ntmps13
  go_wp2_with fail
  refine (implTreeOk_any t _ _ _ _ _ _ HT.out HKT.out).mono ?_
  rintro e w1 ⟨rfl, hb1⟩
  have L1 := bl_trans L0 hb1
  have k1 := k0.later hb1
  have HT1 := hid (HT.out.later hb1)
  clear x0 x1 x2 k0 hb1 L0 HT
  obtain ⟨x0, x1, x2⟩ := k1.two
  by_cases hp : treP t
  rotate_left
  · have q1 : treB t = false := treB_false hp
    have HE : Hid (sizA t = []) := by show _ = _; unfold sizA; rw [q1]; rfl
    rw [q1]
    clear hp q1
    go_wp2_with fail
    go_ret
    refine ⟨⟨none, 0, ?_, ?_⟩, L1⟩
    · rw [HE.out]; rfl
    · rw [HE.out]; exact OI.nil _ _
  have q1 : treB t = true := treB_true hp
  obtain ⟨hin, hlen⟩ := tops_in hp
  have HIN := hid hin
  have HE : Hid (sizA t = szN t.tops t.tops.length) := by show _ = _; unfold sizA; rw [q1]; rfl
  rw [q1]
  clear hp q1 hin
  have hw1 : w.heap.size < w1.heap.size := k1.lt
  have KX := hid k1
  have sT := HT1
  clear k1
  go_wp2_with fail
  clear x0 x1 x2
  go_loopw [3, 4, 13] (fun v u i wr => ∃ (k : Nat) (s9 : Option Addr) (c9 : Nat) (R : List Int) (z : Int), k ≤ t.tops.length ∧ i = .int .i64 k ∧ u = .int .i64 z ∧ v = .slice s9 R.length c9 ∧ Hid (R = szN t.tops k) ∧ Hid (z = topB t.tops k + 1) ∧ Hid (OI wr w1.heap.size (.slice s9 R.length c9) R) ∧ Hid (Below w1.heap.size w1 wr)) (fun _ _ i _ => t.tops.length - (intOf i).toNat)
  case atStart => exact ⟨0, none, 0, [], 0, Nat.zero_le _, rfl, rfl, rfl, (by simp [Hid, szN]), rfl, OI.nil _ _, Below.refl _ _⟩
  case round =>
    obtain ⟨k, s9, c9, R, z, hk, rfl, rfl, rfl, hR, hz, hO, hb⟩ := hrel
    have hRl : R.length = k := by rw [hR.out, szN_len]
    have bl := KX.out.under hb.out hw1
    obtain ⟨x0, x1, x2⟩ := bl.two
    by_cases hlt : k < t.tops.length
    · obtain ⟨x, hx⟩ := get_some hlt
      have hxi := HIN.out x (List.mem_of_getElem? hx)
      have hzi : 0 ≤ z ∧ z ≤ 4000 := by have := topB_in HIN.out k hk; have := hz.out; omega
      obtain ⟨b, o, rfl, hB, hp, e0⟩ := eInt_cells HT1.out.t hx
      have e5 := (hb.out.cell (p := ⟨b, o + k, none⟩) hp).trans e0
      have hbs := hb.out.size
      have E5 : Hid (Els 1 cInt (wr.alloc (.cells #[.int .i64 (x + 1 - z)] 3)) wr.heap.size (some ⟨wr.heap.size, 0, none⟩) [x + 1 - z]) := Els.one (Blk.new wr #[.int .i64 (x + 1 - z)] 3)
      have O5 : Hid (OI (wr.alloc (.cells #[.int .i64 (x + 1 - z)] 3)) w1.heap.size (.slice s9 R.length c9) R) := hO.out.later (bl_alloc (Below.refl _ _) _)
      have B5 : Hid (Below w1.heap.size w1 (wr.alloc (.cells #[.int .i64 (x + 1 - z)] 3))) := hb.out.alloc (by omega) _
      obtain ⟨R2, hR2⟩ : ∃ R2, Hid (R ++ [x + 1 - z] = R2) := ⟨_, rfl⟩
      have hRn : Hid (R2 = szN t.tops (k + 1)) := by
        show _ = _
        rw [← hR2.out, hR.out, szN_succ, hz.out]; simp [szAt, hx]; omega
      have hzn : Hid (x + 1 = topB t.tops (k + 1) + 1) := by show _ = _; rw [topB_succ hx]
      have s5 : w1.heap.size ≤ (wr.alloc (.cells #[.int .i64 (x + 1 - z)] 3)).heap.size := by simp; omega
      clear hR hz hO hx
      go_wp2_with (at_builtin; refine wpList_append_ints rfl _ _ rfl w1.heap.size s9 c9 R rfl O5.out wr.heap.size _ 1 [x + 1 - z] rfl E5.out R2 hR2.out (by simp; omega) s5 ?_; intro s' c' w4 hO4 hg4 hn4; have hb4 := grown_oi B5.out s5 O5.out hg4; obtain ⟨y0, y1, y2⟩ := (KX.out.under hb4 hw1).two; have e6 := (hb4.cell (p := ⟨b, o + k, none⟩) hp).trans e0)
      go_roundw
      case rel => exact ⟨k + 1, s', c', R2, x + 1, by omega, by go_num, rfl, rfl, hRn, hzn, hO4, hb4⟩
      case measure => simp [intOf] <;> omega
    · have hk' : k = t.tops.length := by omega
      subst hk'
      go_wp2_with fail
      go_ret
      refine ⟨⟨s9, c9, ?_, ?_⟩, L1.trans (hb.out.mono (by omega))⟩
      · rw [HE.out, ← hR.out]; rfl
      · rw [HE.out, ← hR.out]; exact hO.out.mono (by omega)

set_option maxRecDepth 100000 in
set_option maxHeartbeats 4000000 in
theorem markTree_w (lo : Nat) (W1 w0 : World) (s1 s2 : Option Addr) (c1 c2 : Nat) (t : Tre) (k : Int) (w : World) (hT : InT W1 lo s1 s2 t) (hp : 0 < lo) (h : Mr lo W1 w0 w) (hlo : lo ≤ w0.heap.size) (hk : kTre t) (k0 : 1 ≤ k) (k1 : k ≤ 1000) :
    Calls Tryz.prog 10 #[.agg #[.slice s1 t.nodes.length c1, .slice s2 t.tops.length c2], .int .i64 k] w fun e w' => (∃ k', e = .returned (.int .i64 k') ∧ k ≤ k') ∧ Mr lo W1 w0 w' := by
  obtain ⟨⟨m1, m2⟩, m3⟩ := hk
  have B0 := Blk.new w #[.slice s1 t.nodes.length c1, .slice s2 t.tops.length c2] 29
  have hws := h.s1
  have hbs := h.be.size
  have HA := hid (h.alloc hlo (.cells #[.slice s1 t.nodes.length c1, .slice s2 t.tops.length c2] 29))
  have hsz : w.heap.size + 1 = (w.alloc (.cells #[.slice s1 t.nodes.length c1, .slice s2 t.tops.length c2] 29)).heap.size := by simp
  obtain ⟨x0, x1, x2⟩ := B0.two
  go_enter Tryz.func10, Tryz.ntmps10
  go_wp2_with fail
  generalize hX : w.alloc (.cells #[.slice s1 t.nodes.length c1, .slice s2 t.tops.length c2] 29) = X at B0 HA hsz x0 x1 x2 ⊢
  clear hX
  refine (markNode_w lo W1 X s1 c1 t.nodes k X hT.n hp HA.out.re (by omega) m1 m2 k0 k1).mono ?_
  rintro e w2 ⟨⟨q, rfl, q0, q1⟩, hM⟩
  obtain ⟨y0, y1, y2⟩ := (hM.blk (by omega) B0).two
  have HJ := hid (HA.out.join hM)
  clear hM x0 x1 x2 HA h
  go_wp2_with fail
  refine (markI_w lo W1 w0 s2 c2 t.tops q w2 hT.t hp HJ.out m3 (by omega) (by omega)).mono ?_
  rintro e w3 ⟨rfl, hM3⟩
  go_wp2_with fail
  go_ret
  exact ⟨⟨_, rfl, by omega⟩, hM3⟩

theorem OI.mr {lo : Nat} {W1 w0 w : World} {B : Nat} {v : Value} {L : List Int} (h : OI w0 B v L) (hm : Mr lo W1 w0 w) (hv : ∀ g, v.ownBlock = some g → g < lo ∨ W1.heap.size ≤ g) : OI w B v L :=
  h.same fun g hg => (hv g hg).elim (fun q => hm.be.block g q) (fun q => hm.out g q (h.lt g hg).2)
theorem sizA_len (t : Tre) : (sizA t).length ≤ 4398046511104 := by
  unfold sizA
  split
  · rename_i h
    have hp : treP t := by
      by_cases q : treP t
      · exact q
      · rw [treB_false q] at h; cases h
    rw [szN_len]
    have := (tops_in hp).2
    omega
  · simp

set_option maxRecDepth 100000 in
set_option maxHeartbeats 8000000 in
theorem exactSizes_any (a1 a2 : Option Addr) (c1 c2 : Nat) (V : Tre) (w : World) (hV : InT w 0 a1 a2 V) (mV : mTre V) :
    Calls Tryz.prog 4 #[.agg #[.slice a1 V.nodes.length c1, .slice a2 V.tops.length c2]] w fun e w' => e = .returned (.bool true) ∧ Below w.heap.size w w' := by
  have hal := alloc_old
  have haf := alloc_oldf
  have k0 := Blk.new w #[.slice a1 V.nodes.length c1, .slice a2 V.tops.length c2] 25
  have L0 := bl_alloc (Below.refl _ w) (.cells #[.slice a1 V.nodes.length c1, .slice a2 V.tops.length c2] 25)
  have HV := hid (hV.later L0)
  have MV := hid mV
  have hw0 : 0 < (w.alloc (.cells #[.slice a1 V.nodes.length c1, .slice a2 V.tops.length c2] 25)).heap.size := by simp
  clear hV mV
  obtain ⟨x0, x1, x2⟩ := k0.two
  go_enter Tryz.func4, Tryz.ntmps4
  go_wp2_with fail
  generalize hX0 : w.alloc (.cells #[.slice a1 V.nodes.length c1, .slice a2 V.tops.length c2] 25) = X0 at k0 L0 HV x0 x1 x2 hw0 ⊢
  have hX0s : X0.heap.size = w.heap.size + 1 := by rw [← hX0]; simp
  have K0 := hid k0
  clear hX0 k0
  refine (szTree_gen a1 a2 c1 c2 V 0 1048576 _ HV.out MV.out (by omega) (by omega)).mono ?_
  rintro e w1 ⟨⟨r, rfl, hr⟩, hb1⟩
  have hn0 : w.heap.size < X0.heap.size := by omega
  have k1 := K0.out.under hb1 hn0
  clear x0 x1 x2 MV
  obtain ⟨x0, x1, x2⟩ := k1.two
  clear k1
  rcases hr with rfl | ⟨r0, r1, kv⟩
  · go_wp2_with fail
    go_ret
    exact ⟨rfl, L0.trans (hb1.mono (by omega))⟩
  have t1 : decide (r < 0) = false := by simp; omega
  have KV : Hid (kTre V) := kv
  have lR : Hid ((sizA V).length ≤ 4398046511104) := sizA_len V
  have L1 : Hid (Below X0.heap.size X0 w1) := hb1
  clear kv hb1
  go_wp2_with fail
  -- the model's answer
  refine (toTree_made a1 a2 c1 c2 V 0 _ (HV.out.later L1.out) KV.out).mono ?_
  rintro e w2 ⟨⟨g1, g2, rfl, d2⟩, hb2⟩
  have L2 := hid (bl_trans L1.out hb2)
  have D2 := hid (d2.drop (Nat.zero_le _))
  have k2 := K0.out.under L2.out hn0
  clear t1 r1 r0 hb2 d2 L1 x0 x1 x2
  obtain ⟨x0, x1, x2⟩ := k2.two
  clear k2
  go_wp2_with fail
  refine (specSizes_any V _ _ _ _ 0 _ D2.out KV.out).mono ?_
  rintro e w3 ⟨⟨sW, cW, rfl, hW⟩, hb3⟩
  have L3 := hid (bl_trans L2.out hb3)
  have hWl : Hid (∀ g, (Value.slice sW (sizA V).length cW).ownBlock = some g → g < w3.heap.size) := fun g hg => (hW.lt g hg).2
  have hW3 : Hid (OI w3 0 (.slice sW (sizA V).length cW) (sizA V)) := hW.mono (Nat.zero_le _)
  have k3 := K0.out.under L3.out hn0
  clear hW hb3 L2 D2 x0 x1 x2
  obtain ⟨x0, x1, x2⟩ := k3.two
  clear k3
  go_wp2_with fail
  -- the argument's copy
  refine (toTree_made a1 a2 c1 c2 V 0 _ (HV.out.later L3.out) KV.out).mono ?_
  rintro e W1 ⟨⟨h1, h2, rfl, dx⟩, hbx⟩
  have L4 := hid (bl_trans L3.out hbx)
  have hs3 : X0.heap.size ≤ w3.heap.size := L3.out.size
  have hs4 : w3.heap.size ≤ W1.heap.size := hbx.size
  have k4 := K0.out.under L4.out hn0
  have kX := Blk.new W1 #[.slice (some ⟨h1, 0, none⟩) V.nodes.length V.nodes.length, .slice (some ⟨h2, 0, none⟩) V.tops.length V.tops.length] 29
  have LY : Below W1.heap.size W1 (W1.alloc (.cells #[.slice (some ⟨h1, 0, none⟩) V.nodes.length V.nodes.length, .slice (some ⟨h2, 0, none⟩) V.tops.length V.tops.length] 29)) := bl_alloc (Below.refl _ _) _
  have DX : Hid (InT W1 w3.heap.size (some ⟨h1, 0, none⟩) (some ⟨h2, 0, none⟩) V) := dx
  have hW4 := hid ((hW3.out.later hbx).later LY)
  clear dx hW3 hbx x0 x1 x2
  obtain ⟨x0, x1, x2⟩ := kX.two
  go_wp2_with fail
  generalize hZ : W1.alloc (.cells #[.slice (some ⟨h1, 0, none⟩) V.nodes.length V.nodes.length, .slice (some ⟨h2, 0, none⟩) V.tops.length V.tops.length] 29) = Z at kX LY hW4 x0 x1 x2 ⊢
  have hZs : Z.heap.size = W1.heap.size + 1 := by rw [← hZ]; simp
  have KX := hid kX
  have L5 := hid (bl_trans L4.out LY)
  have LZ : Hid (Below W1.heap.size W1 Z) := LY
  have hZn : W1.heap.size < Z.heap.size := by omega
  clear hZ kX LY k4 L4
  -- the program's answer
  refine (implSizes_any V _ _ _ _ 0 Z ((DX.out.later LZ.out).drop (Nat.zero_le _)) KV.out).mono ?_
  rintro e w5 ⟨⟨sG, cG, rfl, hG⟩, hb5⟩
  obtain ⟨R, hR⟩ : ∃ R, sizA V = R := ⟨_, rfl⟩
  rw [hR] at lR hWl hW4 hG
  rw [hR]
  have HR := hid hR
  clear hR
  have hGl : Hid (∀ g, (Value.slice sG R.length cG).ownBlock = some g → Z.heap.size ≤ g) := fun g hg => (hG.lt g hg).1
  have hG5 : Hid (OI w5 Z.heap.size (.slice sG R.length cG) R) := hG
  have hW5 := hid (hW4.out.later hb5)
  have L6 := hid (bl_trans L5.out hb5)
  have LZ5 : Hid (Below Z.heap.size Z w5) := hb5
  clear hG hW4 hb5 L5 x0 x1 x2
  go_wp2_with fail
  refine (eqI_more _ _ _ _ R _ _ w5 hG5.out.els hW5.out.els lR.out).mono ?_
  rintro e w6 ⟨rfl, hb6⟩
  have hW6 := hid (hW5.out.later hb6)
  have hG6 := hid (hG5.out.later hb6)
  have L7 := hid (bl_trans L6.out hb6)
  have LZ6 := hid (bl_trans LZ5.out hb6)
  have kA := K0.out.under L7.out hn0
  have kB := KX.out.under LZ6.out hZn
  obtain ⟨x0, x1, x2⟩ := kA.two
  obtain ⟨y0, y1, y2⟩ := kB.two
  have KA : Hid (Blk w6 w.heap.size #[.slice a1 V.nodes.length c1, .slice a2 V.tops.length c2] 25) := kA
  have KB : Hid (Blk w6 W1.heap.size #[.slice (some ⟨h1, 0, none⟩) V.nodes.length V.nodes.length, .slice (some ⟨h2, 0, none⟩) V.tops.length V.tops.length] 29) := kB
  have HV6 := hid (HV.out.later L7.out)
  have HX6 := hid ((DX.out.later LZ.out).later LZ6.out)
  clear hW5 hG5 L6 hb6 LZ5 kA kB
  go_wp2_with fail
  go_region_held3 (fun w' => w'.cell? ⟨W1.heap.size, 0, none⟩ = some (.slice (some ⟨h1, 0, none⟩) V.nodes.length V.nodes.length) ∧ w'.cell? ⟨W1.heap.size, 1, none⟩ = some (.slice (some ⟨h2, 0, none⟩) V.tops.length V.tops.length) ∧ w'.cell? ⟨w.heap.size, 0, none⟩ = some (.slice a1 V.nodes.length c1) ∧ w'.cell? ⟨w.heap.size, 1, none⟩ = some (.slice a2 V.tops.length c2)) (simp [x0, x1, y0, y1])
    (first
      | (go_at_call 7; refine (toTree_made a1 a2 c1 c2 V 0 _ (HV6.out.later (bl_drew (Below.refl _ _))) KV.out).mono ?_; rintro e wg ⟨⟨q1, q2, rfl, hIg⟩, hbg⟩; have hwg : Below w6.heap.size w6 wg := bl_trans (bl_drew (Below.refl _ _)) hbg; obtain ⟨x0, x1, x2⟩ := (KA.out.later hwg).two; obtain ⟨y0, y1, y2⟩ := (KB.out.later hwg).two)
      | (go_at_call 9; refine (eqTree_self _ _ _ _ _ _ _ _ V _ _ wg (HX6.out.later hwg) hIg KV.out).mono ?_; rintro e w8 ⟨rfl, hbh⟩; have h68 : Below w6.heap.size w6 w8 := bl_trans hwg hbh; obtain ⟨x0, x1, x2⟩ := (KA.out.later h68).two; obtain ⟨y0, y1, y2⟩ := (KB.out.later h68).two))
  have hW8 := hid (hW6.out.later h68)
  have hG8 := hid (hG6.out.later h68)
  have L8 := hid (bl_trans L7.out h68)
  have LZ8 := hid (bl_trans LZ6.out h68)
  clear hW6 hG6 L7 LZ6 h68 KA KB HV6 HX6 hwg hbg hIg hbh
  -- marks
  go_wp2_with fail
  refine (markTree_w w3.heap.size W1 w8 _ _ _ _ V 1 _ DX.out (by omega) (Mr.start (bl_trans LZ.out LZ8.out) _) (by have := LZ8.out.size; omega) KV.out (by omega) (by omega)).mono ?_
  rintro e w9 ⟨⟨q, rfl, q0⟩, hM⟩
  have L9 := hid (L8.out.trans (hM.be.mono hs3))
  have hW9 : Hid (OI w9 0 (.slice sW R.length cW) R) := hW8.out.mr hM (fun g hg => Or.inl (hWl.out g hg))
  have hG9 : Hid (OI w9 Z.heap.size (.slice sG R.length cG) R) := hG8.out.mr hM (fun g hg => Or.inr (by have := hGl.out g hg; omega))
  have hS9 : w3.heap.size ≤ w9.heap.size := by have := hM.s1; omega
  have qn : decide (q < 0) = false := by simp; omega
  have k9 := K0.out.under L9.out hn0
  clear hM hW8 hG8 L8 LZ8 DX x0 x1 x2 y0 y1 y2
  obtain ⟨x0, x1, x2⟩ := k9.two
  clear k9
  go_wp2_with fail
  refine (eqI_more _ _ _ _ R _ _ w9 hG9.out.els hW9.out.els lR.out).mono ?_
  rintro e wa ⟨rfl, hba⟩
  have La := hid (bl_trans L9.out hba)
  have hWa := hid (hW9.out.later hba)
  have hGa := hid (hG9.out.later hba)
  have hSa : w3.heap.size ≤ wa.heap.size := by have := hba.size; omega
  clear hW9 hG9 L9 hba qn q0 x0 x1 x2
  go_wp2_with fail
  refine (markI_full Z.heap.size _ _ R wa hGa.out lR.out).mono ?_
  rintro e wb ⟨rfl, hGb, hgb⟩
  have hbb : Below w3.heap.size wa wb := (Below.refl _ _).grown hgb (by omega) (fun g hg => by have := hGl.out g hg; omega)
  have Lb := hid (La.out.trans (hbb.mono hs3))
  have hWb : Hid (OI wb 0 (.slice sW R.length cW) R) := hWa.out.same (fun g hg => hbb.block g (hWl.out g hg))
  have hGb : Hid (Els 1 cInt wb Z.heap.size sG (ims 1 R.length)) := by
    have h5 := hGb
    rw [show (Value.slice sG R.length cG) = .slice sG (ims 1 R.length).length cG by rw [ims_len]] at h5
    exact h5.els
  clear hWa hGa La hbb hgb
  go_wp2_with fail
  refine (heldI_full Z.heap.size sG R.length cG wb hGb.out lR.out).mono ?_
  rintro e wc ⟨rfl, hbc⟩
  have Lc := hid (bl_trans Lb.out hbc)
  have hWc := hid (hWb.out.later hbc)
  have hGc := hid (hGb.out.later cInt_keeps hbc)
  have qn : decide ((1 : Int) + (R.length : Int) < 0) = false := by simp; omega
  have qm : (((1 : Int) + (R.length : Int)) != (1 + (R.length : Int))) = false := by simp
  have kc := K0.out.under Lc.out hn0
  clear hWb hGb Lb hbc
  obtain ⟨x0, x1, x2⟩ := kc.two
  clear kc
  -- another call
  go_wp2_with fail
  refine (toTree_made a1 a2 c1 c2 V 0 _ (HV.out.later Lc.out) KV.out).mono ?_
  rintro e wd ⟨⟨g3, g4, rfl, dd⟩, hbd⟩
  have Ld := hid (bl_trans Lc.out hbd)
  have hWd := hid (hWc.out.later hbd)
  have hGd := hid (hGc.out.later cInt_keeps hbd)
  have DD := hid (dd.drop (Nat.zero_le _))
  clear hWc hGc Lc hbd dd x0 x1 x2
  go_wp2_with fail
  refine (implSizes_any V _ _ _ _ 0 wd DD.out KV.out).mono ?_
  rintro e we ⟨⟨sH, cH, rfl, hH⟩, hbe⟩
  rw [HR.out] at hH
  rw [HR.out]
  have Le := hid (bl_trans Ld.out hbe)
  have hWe := hid (hWd.out.later hbe)
  have hGe := hid (hGd.out.later cInt_keeps hbe)
  have hHe := hid hH
  clear hWd hGd Ld hbe hH DD
  go_wp2_with fail
  refine (eqI_more _ _ _ _ R _ _ we hHe.out.els hWe.out.els lR.out).mono ?_
  rintro e wf ⟨rfl, hbf⟩
  have Lf := hid (bl_trans Le.out hbf)
  have hGf := hid (hGe.out.later cInt_keeps hbf)
  clear hWe hGe hHe Le hbf
  go_wp2_with fail
  refine (heldI_full Z.heap.size sG R.length cG wf hGf.out lR.out).mono ?_
  rintro e wg ⟨rfl, hbg⟩
  have Lg := bl_trans Lf.out hbg
  clear hGf Lf hbg
  go_wp2_with fail
  go_ret
  exact ⟨rfl, L0.trans (Lg.mono (by omega))⟩
end Go.Proofs.YtknallkcengbbaaGreatDoor
