import Derived.Test.YtbgeobpdojmdaaaGreatSq42
import Derived.Test.YtbgeobpdojmdaaaGreatSq35
namespace Go.Proofs.YtbgeobpdojmdaaaGreat
set_option linter.unusedVariables false
set_option linter.unusedSimpArgs false
section
open Go.RowKit
theorem put5 {w : World} {B g n k : Nat} {T : TypeId} {A C : List Value} {x0 x1 x2 x3 x4 u0 u1 u2 u3 u4 : Value} (hA : A.length = k * 5) (h : w.ownsRow B T 5 (.slice (some ⟨g, 0, none⟩) n n) n (A ++ ([x0, x1, x2, x3, x4] ++ C))) : (((((w.setCell ⟨g, k * 5, none⟩ u0).setCell ⟨g, k * 5 + 1, none⟩ u1).setCell ⟨g, k * 5 + 2, none⟩ u2).setCell ⟨g, k * 5 + 3, none⟩ u3).setCell ⟨g, k * 5 + 4, none⟩ u4).ownsRow B T 5 (.slice (some ⟨g, 0, none⟩) n n) n (A ++ ([u0, u1, u2, u3, u4] ++ C)) := by
 have h1 := (World.ownsRow.stored h (A.length + 0) u0).1
 rw [set_mid _ _ _ _ _ (by simp)] at h1
 have h2 := (World.ownsRow.stored h1 (A.length + 1) u1).1
 rw [set_mid _ _ _ _ _ (by simp)] at h2
 have h3 := (World.ownsRow.stored h2 (A.length + 2) u2).1
 rw [set_mid _ _ _ _ _ (by simp)] at h3
 have h4 := (World.ownsRow.stored h3 (A.length + 3) u3).1
 rw [set_mid _ _ _ _ _ (by simp)] at h4
 have h5 := (World.ownsRow.stored h4 (A.length + 4) u4).1
 rw [set_mid _ _ _ _ _ (by simp), hA] at h5
 exact h5
theorem Tryz.infoC : (Tryz.prog.info? 77).map (fun i => (i.zero, i.size, i.bytes)) = some (some (.agg #[.int .i64 0, .int .i64 0, .int .i64 0, .float .f64 0, .float .f64 0]), 5, 40) := by kernel_rfl
set_option maxHeartbeats 1000000 in
theorem toCell_any (p0 p1 p2 : Int) (p3 p4 : Nat) (w : World) :
  Calls Tryz.prog 32 #[.agg #[.int .i64 p0, .int .i64 p1, .int .i64 p2, .float .f64 p3, .float .f64 p4]] w fun e w' => e = .returned (.agg #[.int .i64 p0, .int .i64 p1, .int .i64 p2, .float .f64 p3, .float .f64 p4]) ∧ Below w.heap.size w w' := by
 have hal := alloc_old
 have haf := alloc_oldf
 go_enter Tryz.func32, Tryz.ntmps32
 go_wp2_with fail; refine (toVal_any p1 p2 p3 p4 _).mono ?_
 rintro e w1 ⟨rfl, hb1⟩
 obtain ⟨k0, k1, k2⟩ := blk3t w #[.int .i64 p0, .int .i64 p1, .int .i64 p2, .float .f64 p3, .float .f64 p4] #[.int .i64 0, .int .i64 0, .int .i64 0, .float .f64 0, .float .f64 0] #[.int .i64 p0, .int .i64 0, .int .i64 0, .float .f64 0, .float .f64 0] 81 77 77
 have K1 := k1.later hb1
 have K2 := k2.later hb1
 have L1 : Below w.heap.size w w1 := blq
 have y0 := K1.cell 0
 have y1 := K1.cell 1
 have y2 := K1.cell 2
 have y3 := K1.cell 3
 have y4 := K1.cell 4
 have y5 := K1.frozen
 have z0 := K2.cell 0
 have z1 := K2.cell 1
 have z2 := K2.cell 2
 have z3 := K2.cell 3
 have z4 := K2.cell 4
 have z5 := K2.frozen
 have n1 : ¬ w.heap.size + 1 = w.heap.size + 1 + 1 := by omega
 clear k0 k1 k2 hb1 K1 K2; go_wp2_with fail; refine bodyPost_ret (v := .agg #[.int .i64 p0, .int .i64 p1, .int .i64 p2, .float .f64 p3, .float .f64 p4]) (by simp [results, Tryz.results32, go_sem, y0, y1, y2, y3, y4]) rfl ⟨rfl, ?_⟩
 repeat (first | with_reducible exact L1 | with_reducible refine Below.setCell ?_ (by simp <;> omega) _)
set_option maxHeartbeats 4000000 in
theorem toCellS_made (s : Option Addr) (c : Nat) (L : List C5) (B : Nat) (w : World) (hL : Els 5 cCell w B s L) (hl : L.length ≤ 1048576) :
  Calls Tryz.prog 10 #[.slice s L.length c] w fun e w' => Made 5 cCell w L e w' := by
 obtain ⟨i0, hi, hz0, hz1, hz2⟩ := info_parts Tryz.infoC
 go_enter Tryz.func10, Tryz.ntmps10
 go_wp2_with (at_make; refine wpList_make_full _ rfl _ _ 50 rfl w.heap.size 77 i0 (.agg #[.int .i64 0, .int .i64 0, .int .i64 0, .float .f64 0, .float .f64 0]) 5 Tryz.underlying50 hi hz0 hz1 .i64 .i64 _ _ L.length rfl rfl rfl rfl (by rw [hz2]; omega) (by unfold maxLen; omega) (Nat.le_refl _) ?_)
 intro w1 hown hgrow
 have hrow : Hid (Mk 5 cCell [.int .i64 0, .int .i64 0, .int .i64 0, .float .f64 0, .float .f64 0] 77 w1 w.heap.size w.heap.size L 0) := Mk.start (z := #[.int .i64 0, .int .i64 0, .int .i64 0, .float .f64 0, .float .f64 0]) rfl hown
 have hbel : Hid (Below w.heap.size w w1) := (Below.refl _ w).grown hgrow (Nat.le_refl _) (fun k h => by cases h)
 clear hown hgrow hi hz0 hz1 hz2; go_wp2_with fail; go_loopw [4] (fun i wr => ∃ k : Nat, k ≤ L.length ∧ i = .int .i64 k ∧ Hid (Mk 5 cCell [.int .i64 0, .int .i64 0, .int .i64 0, .float .f64 0, .float .f64 0] 77 wr w.heap.size w.heap.size L k) ∧ Hid (Below w.heap.size w wr)) (fun i _ => L.length - (intOf i).toNat)
 case atStart => exact ⟨0, Nat.zero_le _, rfl, hrow, hbel⟩
 obtain ⟨k, hk, rfl, hrow, hbel⟩ := hrel
 by_cases hlt : k < L.length
 ·
  obtain ⟨a, ha⟩ := get_some hlt
  obtain ⟨b, o, rfl, hB, hp, hok, e0, e1, e2, e3, e4⟩ := eCell_cells (hL.later cCell_keeps hbel.out) ha
  obtain ⟨p0, p1, p2, p3, p4⟩ := a
  have HO : Hid (okV (p1, p2, p3, p4)) := hok
  clear hL hok; go_wp2_with fail; refine (toCell_any p0 p1 p2 p3 p4 _).mono ?_
  rintro e w2 ⟨rfl, hb2⟩
  have hr2 := hrow.out.later cCell_keeps hb2
  have L2 : Hid (Below w.heap.size w w2) := bl_trans hbel.out hb2
  obtain ⟨_, hg, fz, cz⟩ := hr2.at hlt
  have g0 := cz 0 _ rfl
  have g1 := cz 1 _ rfl
  have g2 := cz 2 _ rfl
  have g3 := cz 3 _ rfl
  have g4 := cz 4 _ rfl
  rw [Nat.add_zero] at g0
  have hputH : Hid (Mk 5 cCell [.int .i64 0, .int .i64 0, .int .i64 0, .float .f64 0, .float .f64 0] 77 (((((w2.setCell ⟨w.heap.size, k * 5, none⟩ (.int .i64 p0)).setCell ⟨w.heap.size, k * 5 + 1, none⟩ (.int .i64 p1)).setCell ⟨w.heap.size, k * 5 + 2, none⟩ (.int .i64 p2)).setCell ⟨w.heap.size, k * 5 + 3, none⟩ (.float .f64 p3)).setCell ⟨w.heap.size, k * 5 + 4, none⟩ (.float .f64 p4)) w.heap.size w.heap.size L (k + 1)) :=
   hr2.push cCell_keeps ha (c := ccells (p0, p1, p2, p3, p4)) rfl ⟨rfl, HO.out⟩ (by repeat (first | with_reducible exact Kept.refl _ _ | with_reducible refine Kept.trans ?_ (Kept.set _ (by simp) _))) (fun A C hA h => put5 hA h)
  clear hr2 hrow ha cz; go_wp2_with fail; go_roundw
  case rel => exact ⟨k + 1, by omega, by go_num, hputH, ((((L2.out.setCell (Nat.le_refl _) _).setCell (Nat.le_refl _) _).setCell (Nat.le_refl _) _).setCell (Nat.le_refl _) _).setCell (Nat.le_refl _) _⟩
  case measure => simp [intOf]; omega
 have hm' : k = L.length := by omega
 subst hm'
 go_wp2_with fail; go_ret; exact ⟨_, rfl, Nat.le_refl _, hrow.out.done cCell_drops, hbel.out⟩
end
section
open Go.RowKit Go.Maps Go.WideMaps
set_option maxRecDepth 100000
def CRow (w : World) (B : Nat) (v : Value) (L : List C5) : Prop := w.ownsRow B 77 5 v L.length (L.flatMap ccells)
theorem ccells_len (a : C5) : (ccells a).length = 5 := rfl
theorem CRow.slice {w : World} {B : Nat} {v : Value} {L : List C5} (h : CRow w B v L) (ok : ∀ a ∈ L, okV a.2) : ∃ s c, v = .slice s L.length c ∧ Els 5 cCell w B s L := by
 rcases h.2 with ⟨h1, h2⟩ | ⟨g, cap, cur, rfl, hb, hg, r⟩
 ·
  have := List.length_eq_zero_iff.1 h2
  subst this
  exact ⟨none, 0, h1, Els.nil⟩
 exact ⟨_, cap, rfl, els_of_row ccells_len h (fun a ha => ⟨rfl, ok a ha⟩)⟩
def outL (L : List C5) : Nat → List C5
 | 0 => []
 | n + 1 => outL L n ++ L.filter (fun a => a.1 == (n : Int))
theorem outL_sub (L : List C5) : ∀ n, ∀ a ∈ outL L n, a ∈ L
 | 0, a, h => by simp [outL] at h
 | n + 1, a, h => by
  rw [outL, List.mem_append] at h
  rcases h with h | h
  ·
   exact outL_sub L n a h
  exact (List.mem_filter.1 h).1
def sokB (A : List (ByteArray × Int)) (O : List C5) (j : Nat) : Bool := (O[j]?).elim true fun a => fitB A a.1 a.2 && !(decide (0 < j) && (O[j - 1]?).elim false fun p => p.1 == a.1)
def sortB (A : List (ByteArray × Int)) (L : List C5) : Bool := decide (L.length ≤ A.length) && ((List.range (outL L A.length).length).all (sokB A (outL L A.length)) && decide ((outL L A.length).length = L.length))
theorem sortB_at {A : List (ByteArray × Int)} {L O : List C5} {j : Nat} (e : O = outL L A.length) (hj : j < O.length) (h : sokB A O j = false) : false = sortB A L := by
 cases hs : sortB A L
 ·
  rfl
 simp only [sortB, Bool.and_eq_true, List.all_eq_true, List.mem_range] at hs
 subst e
 have := hs.2.1 j hj
 rw [h] at this; cases this
theorem sortB_all {A : List (ByteArray × Int)} {L O : List C5} (hl : L.length ≤ A.length) (e : O = outL L A.length) (h : ∀ (j : Nat), j < O.length → sokB A O j = true) : decide ((O.length : Int) = (L.length : Int)) = sortB A L := by
 subst e
 have h1 : (List.range (outL L A.length).length).all (sokB A (outL L A.length)) = true := by
  simp only [List.all_eq_true, List.mem_range]; exact h
 simp only [sortB, h1, hl, decide_true, Bool.true_and]
 rw [decide_eq_decide]; omega
end
section
open Go.RowKit Go.Maps Go.WideMaps
theorem outL_lt (L : List C5) : ∀ n, ∀ a ∈ outL L n, 0 ≤ a.1 ∧ a.1 < (n : Int)
 | 0, a, h => by simp [outL] at h
 | n + 1, a, h => by
  rw [outL, List.mem_append] at h
  rcases h with h | h
  ·
   have := outL_lt L n a h; omega
  have := (List.mem_filter.1 h).2
  simp at this
  omega
theorem outL_perm (L : List C5) : ∀ n : Nat, (outL L n).Perm (L.filter (fun a => decide (0 ≤ a.1) && decide (a.1 < (n : Int))))
 | 0 => by
  have : L.filter (fun a => decide (0 ≤ a.1) && decide (a.1 < ((0 : Nat) : Int))) = [] := by
   rw [List.filter_eq_nil_iff]
   intro a _ h
   simp at h
   omega
  rw [this]
  exact List.Perm.refl _
 | n + 1 => by
  have h := outL_perm L n
  rw [outL]
  have e := (List.filter_append_perm (fun a : C5 => decide (a.1 < (n : Int))) (L.filter (fun a => decide (0 ≤ a.1) && decide (a.1 < ((n + 1 : Nat) : Int))))).symm
  rw [List.filter_filter, List.filter_filter] at e
  refine List.Perm.trans ?_ e.symm
  refine List.Perm.append ?_ ?_
  ·
   refine h.trans (List.Perm.of_eq (List.filter_congr fun a _ => ?_))
   rw [Bool.eq_iff_iff]; simp; omega
  refine List.Perm.of_eq (List.filter_congr fun a _ => ?_)
  rw [Bool.eq_iff_iff]; simp; omega
theorem outL_sorted (L : List C5) : ∀ n : Nat, (outL L n).Pairwise (fun a b => a.1 ≤ b.1)
 | 0 => by simp [outL]
 | n + 1 => by
  rw [outL, List.pairwise_append]
  refine ⟨outL_sorted L n, ?_, fun a ha b hb => ?_⟩
  ·
   rw [List.pairwise_iff_getElem]
   intro i j hi hj _
   have h1 := (List.mem_filter.1 (List.getElem_mem hi)).2
   have h2 := (List.mem_filter.1 (List.getElem_mem hj)).2
   simp only [beq_iff_eq] at h1 h2
   omega
  have h1 := outL_lt L n a ha
  have h2 := (List.mem_filter.1 hb).2
  simp at h2
  omega
theorem one_at (m : Int) : ∀ L : List C5, (L.map (·.1)).Nodup → (L.filter (fun a => a.1 == m)).length ≤ 1
 | [], _ => by simp
 | a :: L, h => by
  simp only [List.map_cons, List.nodup_cons] at h
  have ih := one_at m L h.2
  rw [List.filter_cons]
  split
  ·
   rename_i hm
   have : L.filter (fun a => a.1 == m) = [] := by
    rw [List.filter_eq_nil_iff]
    intro b hb hbm
    simp at hm hbm
    exact h.1 (List.mem_map.2 ⟨b, hb, by rw [hbm, hm]⟩)
   rw [this]
   simp
  exact ih
theorem outL_len_nodup (L : List C5) (h : (L.map (·.1)).Nodup) : ∀ n, (outL L n).length ≤ n
 | 0 => by simp [outL]
 | n + 1 => by
  have h1 := outL_len_nodup L h n
  have h2 := one_at (n : Int) L h
  rw [outL, List.length_append]
  omega
theorem cellsB_iff (A : List (ByteArray × Int)) (L : List C5) : cellsB A L = true ↔ (∀ a ∈ L, fitB A a.1 a.2 = true) ∧ (L.map (·.1)).Nodup := by
 simp only [cellsB, List.all_eq_true, List.mem_range]
 constructor
 ·
  intro h
  refine ⟨fun a ha => ?_, ?_⟩
  ·
   obtain ⟨j, hj, rfl⟩ := List.getElem_of_mem ha
   have := h j hj
   rw [celB_eq (List.getElem?_eq_getElem hj)] at this
   simp only [Bool.and_eq_true] at this
   exact this.1
  unfold List.Nodup
  rw [List.pairwise_iff_getElem]
  intro i j hi hj hij he
  have hj' : j < L.length := by simpa using hj
  have := h j hj'
  rw [celB_eq (List.getElem?_eq_getElem hj')] at this
  simp only [Bool.and_eq_true, Bool.not_eq_true', decide_eq_false_iff_not] at this
  refine this.2 (List.mem_map.2 ⟨L[i]'(by omega), ?_, by simpa using he⟩)
  rw [List.mem_take_iff_getElem]
  exact ⟨i, by omega, rfl⟩
 rintro ⟨h1, h2⟩ j hj
 rw [celB_eq (List.getElem?_eq_getElem hj), h1 _ (List.getElem_mem hj)]
 simp only [Bool.true_and, Bool.not_eq_true', decide_eq_false_iff_not]
 intro hm
 obtain ⟨a, ha, he⟩ := List.mem_map.1 hm
 obtain ⟨i, hi, rfl⟩ := List.mem_take_iff_getElem.1 ha
 unfold List.Nodup at h2
 rw [List.pairwise_iff_getElem] at h2
 exact h2 i j (by simp; omega) (by simpa using hj) (by omega) (by simpa using he)
theorem sortB_iff (A : List (ByteArray × Int)) (L : List C5) : sortB A L = true ↔ (∀ a ∈ L, fitB A a.1 a.2 = true) ∧ (L.map (·.1)).Nodup := by
 have hp := outL_perm L A.length
 constructor
 ·
  intro h
  simp only [sortB, Bool.and_eq_true, decide_eq_true_eq, List.all_eq_true, List.mem_range] at h
  obtain ⟨_, h2, h3⟩ := h
  have h4 : ∀ a ∈ L, (decide (0 ≤ a.1) && decide (a.1 < (A.length : Int))) = true := by
   rw [← List.length_filter_eq_length_iff]
   rw [← hp.length_eq]
   exact h3
  have hpl : (outL L A.length).Perm L := by
   have e : L.filter (fun a => decide (0 ≤ a.1) && decide (a.1 < (A.length : Int))) = L := List.filter_eq_self.2 h4
   rw [e] at hp
   exact hp
  have h5 : ∀ (j : Nat) (hj : j < (outL L A.length).length), fitB A (outL L A.length)[j].1 (outL L A.length)[j].2 = true ∧ (0 < j → ∀ hk : j - 1 < (outL L A.length).length, ¬ (outL L A.length)[j - 1].1 = (outL L A.length)[j].1) := by
   intro j hj
   have := h2 j hj
   unfold sokB at this
   rw [List.getElem?_eq_getElem hj] at this
   simp only [Option.elim, Bool.and_eq_true, Bool.not_eq_true'] at this
   refine ⟨this.1, fun hz hk he => ?_⟩
   have h6 := this.2
   rw [List.getElem?_eq_getElem hk] at h6
   simp [hz, he] at h6
  refine ⟨fun a ha => ?_, ?_⟩
  ·
   obtain ⟨j, hj, rfl⟩ := List.getElem_of_mem (hpl.mem_iff.2 ha)
   exact (h5 j hj).1
  rw [← (hpl.map (·.1)).nodup_iff]
  unfold List.Nodup
  rw [List.pairwise_iff_getElem]
  intro i j hi hj hij he
  have hj' : j < (outL L A.length).length := by simpa using hj
  have hs := List.pairwise_iff_getElem.1 (outL_sorted L A.length)
  have e1 : (outL L A.length)[i].1 ≤ (outL L A.length)[j - 1].1 := by
   by_cases e : i = j - 1
   ·
    subst e; exact Int.le_refl _
   exact hs i (j - 1) (by omega) (by omega) (by omega)
  have e2 := hs (j - 1) j (by omega) hj' (by omega)
  have e3 : (outL L A.length)[i].1 = (outL L A.length)[j].1 := by simpa using he
  exact (h5 j hj').2 (by omega) (by omega) (by omega)
 rintro ⟨h1, h2⟩
 have h4 : ∀ a ∈ L, (decide (0 ≤ a.1) && decide (a.1 < (A.length : Int))) = true := by
  intro a ha
  have := h1 a ha
  simp only [fitB, cmpB, Bool.and_eq_true] at this
  simp only [Bool.and_eq_true]
  exact this.1
 have hpl : (outL L A.length).Perm L := by
  have e : L.filter (fun a => decide (0 ≤ a.1) && decide (a.1 < (A.length : Int))) = L := List.filter_eq_self.2 h4
  rw [e] at hp
  exact hp
 have h5 := outL_len_nodup L h2 A.length
 have h6 := hpl.length_eq
 have h7 : ((outL L A.length).map (·.1)).Nodup := ((hpl.map (·.1)).nodup_iff).2 h2
 simp only [sortB, Bool.and_eq_true, decide_eq_true_eq, List.all_eq_true, List.mem_range]
 refine ⟨by omega, fun j hj => ?_, h6⟩
 unfold sokB
 rw [List.getElem?_eq_getElem hj]
 simp only [Option.elim, Bool.and_eq_true, Bool.not_eq_true']
 refine ⟨h1 _ (hpl.mem_iff.1 (List.getElem_mem hj)), ?_⟩
 by_cases hz : 0 < j
 ·
  have hk : j - 1 < (outL L A.length).length := by omega
  rw [List.getElem?_eq_getElem hk]
  unfold List.Nodup at h7
  have h8 := List.pairwise_iff_getElem.1 h7 (j - 1) j (by simpa using hk) (by simpa using hj) (by omega)
  simp at h8
  simp [hz, h8]
 simp [hz]
theorem sort_cells (A : List (ByteArray × Int)) (L : List C5) : sortB A L = cellsB A L := by
 rw [Bool.eq_iff_iff, sortB_iff, cellsB_iff]
end
section
open Go.RowKit Go.Maps Go.WideMaps
set_option maxRecDepth 100000
theorem OR.on.later {w w' : World} {B : Nat} {r : OR} (h : r.on w B) (hb : Below w.heap.size w w') : r.on w' B := h.same fun g hg => hb.block g (h.lt g hg).2
end
end Go.Proofs.YtbgeobpdojmdaaaGreat
