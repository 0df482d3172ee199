import Derived.Test.YtaakjcjhmeeclaaK6
import Derived.ChangeKeysEq
import Derived.Laws.CopyOwn
namespace Go.Proofs.Ytaakjcjhmeeclaa
open Go.RowKit
set_option linter.unusedVariables false
set_option linter.unusedSimpArgs false

/-- booleans, as cells. -/
def tch (xs : List Bool) : Array Value := (xs.map Value.bool).toArray
theorem tch_size (xs : List Bool) : (tch xs).size = xs.length := by simp [tch]
theorem tch_cell {xs : List Bool} {d : Nat} (h : d < xs.length) : (tch xs)[d]? = some (.bool (xs.getD d false)) := by simp [tch, h]
theorem tch_set (xs : List Bool) (d : Nat) (x : Bool) : (tch xs).setIfInBounds d (.bool x) = tch (xs.set d x) := by simp [tch, List.map_set]
theorem tch_one (xs : List Bool) : (tch xs).all (·.oneCell') = true := by
  rw [Array.all_eq_true_iff_forall_mem]
  intro v hv
  simp only [tch, List.mem_toArray, List.mem_map] at hv
  obtain ⟨x, _, rfl⟩ := hv
  rfl
def seg (i : Nat) (xs : List Bool) : List Bool := (xs.drop (i * 12)).take 12
theorem seg_len {i : Nat} {xs : List Bool} (hi : i < 9) (h : xs.length = 108) : (seg i xs).length = 12 := by simp [seg]; omega
theorem tch_extract (xs : List Bool) (i : Nat) : (tch xs).extract (i * 12) (i * 12 + 12) = tch (seg i xs) := by
  apply Array.ext_getElem?
  intro j
  simp only [tch, seg, Array.getElem?_extract, List.getElem?_toArray, List.getElem?_map, List.getElem?_take, List.getElem?_drop, List.size_toArray, List.length_map]
  by_cases h1 : j < 12
  · by_cases h2 : i * 12 + j < xs.length
    · simp [h1, h2, show j < min (i * 12 + 12) xs.length - i * 12 by omega]
    · simp [h1, h2, show xs.length ≤ i * 12 + j by omega]
  · simp [h1, show ¬ j < min (i * 12 + 12) xs.length - i * 12 by omega]

theorem Try.infoBo : (Try.prog.info? 4).map (fun i => (i.zero, i.size, i.bytes)) = some (some (.bool false), 1, 1) := by kernel_rfl
theorem Try.cellsB : Try.prog.cellsOf 4 = 1 := by kernel_rfl
theorem Try.infoNS : (Try.prog.info? 62).map (·.size) = some 12 := by kernel_rfl
theorem Try.cellsNS : Try.prog.cellsOf 62 = 12 := by kernel_rfl
theorem Try.infoTo : (Try.prog.info? 64).map (·.size) = some 108 := by kernel_rfl
theorem Try.zeroT : (Try.prog.info? 64).map (·.zero) = some (some (.agg (tch (List.replicate 108 false)))) := by kernel_rfl
theorem zero_tch (w : World) : (zeroValue 64).run Try.prog w = .ok (.agg (tch (List.replicate 108 false))) w := by
  have h := Try.zeroT
  cases hq : Try.prog.info? 64 with
  | none => rw [hq] at h; cases h
  | some i =>
    rw [hq] at h
    simp only [Option.map_some, Option.some.injEq] at h
    simp [zeroValue, typeInfo, hq, h]

theorem bit_items (d : Nat) (xs ys : List Bool) (hx : xs.length = 12) (hy : ys.length = 12) (w : World) : ∀ (l : List Nat), (∀ i ∈ l, i < 12) →
    (Op.eqItems (d + 1) 4 1 (tch xs) (tch ys) l).run Try.prog w = .ok (l.all fun i => xs.getD i false == ys.getD i false) w := by
  intro l
  induction l with
  | nil => intro _; simp [Op.eqItems]
  | cons i l ih =>
    intro hl
    have hi : i < 12 := hl i (by simp)
    have px : (Go.part 4 (tch xs) (i * 1)).run Try.prog w = .ok (.bool (xs.getD i false)) w := by
      simp [Go.part, isAgg, run_underlying Try.underlying4, tch, show i < xs.length by omega]
    have py : (Go.part 4 (tch ys) (i * 1)).run Try.prog w = .ok (.bool (ys.getD i false)) w := by
      simp [Go.part, isAgg, run_underlying Try.underlying4, tch, show i < ys.length by omega]
    have pe := run_equalIn_bool (P := Try.prog) w d 4 (xs.getD i false) (ys.getD i false) Try.underlying4
    simp only [Op.eqItems, Sem.run_bind, px, py, pe, Result.andThen_ok, List.all_cons]
    cases hb : (xs.getD i false == ys.getD i false)
    · simp
    · simpa using ih fun j hj => hl j (by simp [hj])
theorem all_list (n : Nat) (xs ys : List Bool) (hx : xs.length = n) (hy : ys.length = n) : ((List.range n).all fun i => xs.getD i false == ys.getD i false) = decide (xs = ys) := by
  rw [Bool.eq_iff_iff, List.all_eq_true, decide_eq_true_eq]
  constructor
  · intro h
    apply List.ext_getElem (by omega)
    intro i h1 h2
    have := h i (by simp; omega)
    rw [beq_iff_eq] at this
    simpa [h1, h2] using this
  · rintro rfl i hi
    simp
theorem set_items (d : Nat) (xs ys : List Bool) (hx : xs.length = 108) (hy : ys.length = 108) (w : World) : ∀ (l : List Nat), (∀ i ∈ l, i < 9) →
    (Op.eqItems (d + 1 + 1) 62 12 (tch xs) (tch ys) l).run Try.prog w = .ok (l.all fun i => decide (seg i xs = seg i ys)) w := by
  obtain ⟨i0, hi0, _⟩ := info_parts Try.infoBo
  have hz : (sizeOf 62).run Try.prog w = .ok 12 w := by
    have h1 := Try.infoNS
    cases hq : Try.prog.info? 62 with
    | none => rw [hq] at h1; cases h1
    | some i =>
      rw [hq] at h1
      simp only [Option.map_some, Option.some.injEq] at h1
      simp [sizeOf, typeInfo, hq, h1]
  intro l
  induction l with
  | nil => intro _; simp [Op.eqItems]
  | cons i l ih =>
    intro hl
    have hi : i < 9 := hl i (by simp)
    have hp : ∀ zs : List Bool, (Go.part 62 (tch zs) (i * 12)).run Try.prog w = .ok (.agg (tch (seg i zs))) w := by
      intro zs
      have ha : (isAgg 62).run Try.prog w = .ok true w := by simp [isAgg, run_underlying Try.underlying62]
      simp only [Go.part, Sem.run_bind, ha, Result.andThen_ok, if_true, hz, Sem.run_pure, tch_extract]
    have pe : (Op.equalIn (d + 1 + 1) 62 (.agg (tch (seg i xs))) (.agg (tch (seg i ys)))).run Try.prog w = .ok (decide (seg i xs = seg i ys)) w := by
      rw [run_equalIn_array w (d + 1) _ _ Try.underlying62 hi0, Try.cellsB, bit_items d _ _ (seg_len hi hx) (seg_len hi hy) w _ (fun j hj => by simpa using hj), all_list 12 _ _ (seg_len hi hx) (seg_len hi hy)]
    simp only [Op.eqItems, Sem.run_bind, hp, pe, Result.andThen_ok, List.all_cons]
    cases hb : decide (seg i xs = seg i ys)
    · simp
    · simpa using ih fun j hj => hl j (by simp [hj])
theorem seg_all (xs ys : List Bool) (hx : xs.length = 108) (hy : ys.length = 108) : ((List.range 9).all fun i => decide (seg i xs = seg i ys)) = decide (xs = ys) := by
  rw [Bool.eq_iff_iff, List.all_eq_true, decide_eq_true_eq]
  constructor
  · intro h
    apply List.ext_getElem (by omega)
    intro i h1 h2
    have := of_decide_eq_true (h (i / 12) (by simp; omega))
    have := congrArg (fun l => l[i % 12]?) this
    simp only [seg, List.getElem?_take, List.getElem?_drop, show i % 12 < 12 by omega, if_true, show i / 12 * 12 + i % 12 = i by omega] at this
    simpa [h1, h2] using this
  · rintro rfl i hi
    simp
theorem sets_equal (xs ys : List Bool) (hx : xs.length = 108) (hy : ys.length = 108) (w : World) :
    (Op.equalIn 10000 64 (.agg (tch xs)) (.agg (tch ys))).run Try.prog w = .ok (decide (xs = ys)) w := by
  have h1 : ∃ i, Try.prog.info? 62 = some i := by
    have h1 := Try.infoNS
    cases hq : Try.prog.info? 62 with
    | none => rw [hq] at h1; cases h1
    | some i => exact ⟨i, rfl⟩
  obtain ⟨i0, hi⟩ := h1
  rw [show (10000 : Nat) = 9997 + 1 + 1 + 1 from rfl, run_equalIn_array w (9997 + 1 + 1) _ _ Try.underlying64 hi, Try.cellsNS, set_items 9997 xs ys hx hy w _ (fun i hi => by simpa using hi), seg_all xs ys hx hy]

theorem run_storeCells_row (w : World) (g : Nat) (t ty : TypeId) (old cells : Array Value) (hg : w.heap[g]? = some (.cells old t (0, 0))) (hi : (Try.prog.info? ty).map (·.size) = some cells.size)
    (ho : old.size = cells.size) (h1 : cells.all (·.oneCell') = true) : (storeCells ⟨g, 0, none⟩ cells.toList 0).run Try.prog w = .ok () (w.setRow g cells) := by
  have := run_storeVar_row (P := Try.prog) w g t ty old cells hg hi ho h1
  cases hq : Try.prog.info? ty with
  | none => simp [hq] at hi
  | some i =>
    have hs : cells.size = i.size := by simp [hq] at hi; omega
    simpa [storeVar, sizeOf, typeInfo, hq, Value.cells, hs] using this
/-- the set of flags alone. -/
def flg (a b : Bool) : List Bool := ((List.replicate 108 false).set 96 a).set 97 b
theorem flg_len (a b : Bool) : (flg a b).length = 108 := by simp [flg]
theorem flg_none : flg false false = List.replicate 108 false := by decide
theorem flg_inj {a b c d : Bool} : flg a b = flg c d ↔ a = c ∧ b = d := by
  cases a <;> cases b <;> cases c <;> cases d <;> decide

set_option maxRecDepth 100000 in
set_option maxHeartbeats 4000000 in
theorem flagsOf_any (s0 s1 s2 s3 s4 s5 s6 s7 : Option Addr) (c0 c1 c2 c3 c4 c5 c6 c7 : Nat) (e : Ef) (w : World) :
    Calls Try.prog 33 #[.agg #[.slice s0 e.l0.length c0, .slice s1 e.l1.length c1, .slice s2 e.l2.length c2, .slice s3 e.l3.length c3, .slice s4 e.l4.length c4, .slice s5 e.l5.length c5, .slice s6 e.l6.length c6, .slice s7 e.l7.length c7, .bool e.sp, .bool e.kl]] w fun z w' => z = .returned (.agg (tch (flg e.sp e.kl))) ∧ Below w.heap.size w w' := by
  have hz := zero_tch
  have hsz : (tch (List.replicate 108 false)).size = 108 := by simp [tch_size]
  generalize hT : tch (List.replicate 108 false) = Z at hz hsz
  go_enter Try.func33, Try.ntmps33
  go_wp2_with fail
  clear hz
  have hz : (Z.setIfInBounds 96 (.bool e.sp)).setIfInBounds 97 (.bool e.kl) = tch (flg e.sp e.kl) := by rw [← hT, tch_set, tch_set]; rfl
  rw [hz, ← hT]
  clear hz
  obtain ⟨k0, k1, k2, LX⟩ := blkThreeE w #[.slice s0 e.l0.length c0, .slice s1 e.l1.length c1, .slice s2 e.l2.length c2, .slice s3 e.l3.length c3, .slice s4 e.l4.length c4, .slice s5 e.l5.length c5, .slice s6 e.l6.length c6, .slice s7 e.l7.length c7, .bool e.sp, .bool e.kl] (tch (List.replicate 108 false)) (tch (flg e.sp e.kl)) 45 64 64
  clear k0
  generalize hX : ((w.alloc (.cells #[.slice s0 e.l0.length c0, .slice s1 e.l1.length c1, .slice s2 e.l2.length c2, .slice s3 e.l3.length c3, .slice s4 e.l4.length c4, .slice s5 e.l5.length c5, .slice s6 e.l6.length c6, .slice s7 e.l7.length c7, .bool e.sp, .bool e.kl] 45)).alloc (.cells (tch (List.replicate 108 false)) 64)).alloc (.cells (tch (flg e.sp e.kl)) 64) = X at k1 k2 LX ⊢
  clear hX
  have hst := run_storeCells_row X (w.heap.size + 1) _ 64 _ (tch (flg e.sp e.kl)) k1 (by rw [Try.infoTo, tch_size, flg_len]) (by simp [tch_size, flg_len]) (tch_one _)
  have hk := setRow_heap X (w.heap.size + 1) _ (tch (flg e.sp e.kl)) _ _ k1
  have hbX := below_setRow LX (show w.heap.size ≤ w.heap.size + 1 by omega) (tch (flg e.sp e.kl))
  refine wp_load_row _ (.tmp 3) rfl _ rfl _ _ _ _ k2 Try.underlying64 rfl (by rw [Try.infoTo, tch_size, flg_len]) ?_
  go_wp2_with fail
  refine bodyPost_ret (v := .agg (tch (flg e.sp e.kl))) (results_cell_row (P := Try.prog) Try.results33 _ _ (w.heap.size + 1) _ _ _ _ rfl hk Try.underlying64 rfl (by rw [Try.infoTo, tch_size, flg_len])) rfl ⟨rfl, hbX⟩

theorem one8 {p0 p1 p2 p3 p4 p5 p6 p7 : Option Addr} {n0 n1 n2 n3 n4 n5 n6 n7 : Nat} {m0 m1 m2 m3 m4 m5 m6 m7 : Nat} : (#[.slice p0 n0 m0, .slice p1 n1 m1, .slice p2 n2 m2, .slice p3 n3 m3, .slice p4 n4 m4, .slice p5 n5 m5, .slice p6 n6 m6, .slice p7 n7 m7] : Array Value).all (·.oneCell') = true := by simp [Value.oneCell']
theorem Try.infoLs : (Try.prog.info? 59).map (·.size) = some 8 := by kernel_rfl
set_option maxRecDepth 100000 in
set_option maxHeartbeats 4000000 in
theorem listsOf_any (s0 s1 s2 s3 s4 s5 s6 s7 : Option Addr) (c0 c1 c2 c3 c4 c5 c6 c7 : Nat) (e : Ef) (w : World) :
    Calls Try.prog 32 #[.agg #[.slice s0 e.l0.length c0, .slice s1 e.l1.length c1, .slice s2 e.l2.length c2, .slice s3 e.l3.length c3, .slice s4 e.l4.length c4, .slice s5 e.l5.length c5, .slice s6 e.l6.length c6, .slice s7 e.l7.length c7, .bool e.sp, .bool e.kl]] w fun z w' => z = .returned (.agg #[.slice s0 e.l0.length c0, .slice s1 e.l1.length c1, .slice s2 e.l2.length c2, .slice s3 e.l3.length c3, .slice s4 e.l4.length c4, .slice s5 e.l5.length c5, .slice s6 e.l6.length c6, .slice s7 e.l7.length c7]) ∧ Below w.heap.size w w' := by
  obtain ⟨k0, k1, LX⟩ := blkTwoE w #[.slice s0 e.l0.length c0, .slice s1 e.l1.length c1, .slice s2 e.l2.length c2, .slice s3 e.l3.length c3, .slice s4 e.l4.length c4, .slice s5 e.l5.length c5, .slice s6 e.l6.length c6, .slice s7 e.l7.length c7, .bool e.sp, .bool e.kl] #[.slice s0 e.l0.length c0, .slice s1 e.l1.length c1, .slice s2 e.l2.length c2, .slice s3 e.l3.length c3, .slice s4 e.l4.length c4, .slice s5 e.l5.length c5, .slice s6 e.l6.length c6, .slice s7 e.l7.length c7] 45 59
  go_enter Try.func32, Try.ntmps32
  go_wp2_with fail
  refine bodyPost_ret (v := .agg #[.slice s0 e.l0.length c0, .slice s1 e.l1.length c1, .slice s2 e.l2.length c2, .slice s3 e.l3.length c3, .slice s4 e.l4.length c4, .slice s5 e.l5.length c5, .slice s6 e.l6.length c6, .slice s7 e.l7.length c7]) (results_cell_row (P := Try.prog) Try.results32 _ _ (w.heap.size + 1) _ _ _ _ rfl k1 Try.underlying59 rfl (by rw [Try.infoLs]; rfl)) rfl ⟨rfl, LX⟩
def Ef.lst (e : Ef) : Nat → List Int
  | 0 => e.l0
  | 1 => e.l1
  | 2 => e.l2
  | 3 => e.l3
  | 4 => e.l4
  | 5 => e.l5
  | 6 => e.l6
  | 7 => e.l7
  | _ => []
theorem Ef.lst_len {e : Ef} (h : kEf e) (i : Nat) : (e.lst i).length ≤ 1048576 := by
  obtain ⟨m0, m1, m2, m3, m4, m5, m6, m7⟩ := h
  match i with
  | 0 => exact m0
  | 1 => exact m1
  | 2 => exact m2
  | 3 => exact m3
  | 4 => exact m4
  | 5 => exact m5
  | 6 => exact m6
  | 7 => exact m7
  | n + 8 => simp [Ef.lst]
theorem InE.at {w : World} {B : Nat} {s0 s1 s2 s3 s4 s5 s6 s7 : Option Addr} {e : Ef} (h : InE w B s0 s1 s2 s3 s4 s5 s6 s7 e) (c0 c1 c2 c3 c4 c5 c6 c7 : Nat) {i : Nat} (hi : i < 8) :
    ∃ s c, (#[.slice s0 e.l0.length c0, .slice s1 e.l1.length c1, .slice s2 e.l2.length c2, .slice s3 e.l3.length c3, .slice s4 e.l4.length c4, .slice s5 e.l5.length c5, .slice s6 e.l6.length c6, .slice s7 e.l7.length c7] : Array Value)[i]? = some (.slice s (e.lst i).length c) ∧ Els 1 cInt w B s (e.lst i) := by
  match i, hi with
  | 0, _ => exact ⟨s0, c0, rfl, h.p0⟩
  | 1, _ => exact ⟨s1, c1, rfl, h.p1⟩
  | 2, _ => exact ⟨s2, c2, rfl, h.p2⟩
  | 3, _ => exact ⟨s3, c3, rfl, h.p3⟩
  | 4, _ => exact ⟨s4, c4, rfl, h.p4⟩
  | 5, _ => exact ⟨s5, c5, rfl, h.p5⟩
  | 6, _ => exact ⟨s6, c6, rfl, h.p6⟩
  | 7, _ => exact ⟨s7, c7, rfl, h.p7⟩
theorem idx_row (cs : Array Value) (i : Nat) (hi : i < 8) (s : Option Addr) (n c : Nat) (h : cs[i]? = some (.slice s n c)) (w : World) : (Instr.index 59 (.agg cs) (.int .i64 (i : Int))).run Try.prog w = .ok (.slice s n c) w := by
  have hz : (sizeOf 22).run Try.prog w = .ok 1 w := by
    have h1 : (Try.prog.info? 22).map (·.size) = some 1 := by kernel_rfl
    cases hq : Try.prog.info? 22 with
    | none => rw [hq] at h1; cases h1
    | some i =>
      rw [hq] at h1
      simp only [Option.map_some, Option.some.injEq] at h1
      simp [sizeOf, typeInfo, hq, h1]
  have px : (Go.part 22 cs i).run Try.prog w = .ok (.slice s n c) w := by
    simp [Go.part, isAgg, run_underlying Try.underlying22, h]
  simp [Instr.index, asIntOf, run_underlying Try.underlying59, hz, px, show (i : Int) < 8 by omega, hi]

end Go.Proofs.Ytaakjcjhmeeclaa
