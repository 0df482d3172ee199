import Derived.Test.YtbgeobpdojmdaaaGreatSq05
import Derived.ProofKit
import Derived.OpenShut
import Derived.ChangeOld
import Derived.Lib.SmallJoins
namespace Go.Proofs.YtbgeobpdojmdaaaGreat
set_option linter.unusedVariables false
set_option linter.unusedSimpArgs false
section
open Go.ChangeShapes Go.WideShapes Go.ChangeAt Go.RowKit Go.Joins
set_option maxRecDepth 100000
theorem Tryz.own : ownKnob Tryz.prog.godebug = none := by kernel_rfl
theorem Tryz.laidOut : laidOutB Tryz.prog = true := by kernel_rfl
theorem Tryz.cellsI : Tryz.prog.cellsOf 3 = 1 := by kernel_rfl
theorem Tryz.cellsF : Tryz.prog.cellsOf 73 = 1 := by kernel_rfl
theorem Tryz.cellsEnt : Tryz.prog.cellsOf 177 = 2 := by kernel_rfl
theorem Tryz.cellsEnts : Tryz.prog.cellsOf 27 = 2 := by kernel_rfl
theorem Tryz.cellsVal : Tryz.prog.cellsOf 79 = 4 := by kernel_rfl
theorem Tryz.cellsVs : Tryz.prog.cellsOf 29 = 1 := by kernel_rfl
theorem Tryz.cellsVss : Tryz.prog.cellsOf 106 = 1 := by kernel_rfl
theorem Tryz.cellsIs : Tryz.prog.cellsOf 25 = 1 := by kernel_rfl
theorem Tryz.cellsEs : Tryz.prog.cellsOf 105 = 1 := by kernel_rfl
theorem Tryz.cellsTab : Tryz.prog.cellsOf 108 = 3 := by kernel_rfl
theorem Tryz.cellsTs : Tryz.prog.cellsOf 28 = 1 := by kernel_rfl
theorem Tryz.cellsWd : Tryz.prog.cellsOf 31 = 4 := by kernel_rfl
section
variable {H : Type} {enc : TypeId × Value → H} {w : World} {base : Nat} {spare : Nat → Bool} {held : Bool}
theorem trod_float {P : Program} {t : TypeId} {k : FloatKind} {fuel : Nat} {cs : List Value} {x : DataW H × List MemPlace} (ht : P.underlying t = some (.float k)) (h : DataW.trod enc P w base spare held fuel t cs = some x) :
  ∃ n, cs = [.float k n] ∧ x = (.lit (.float k n), []) ∧ (Lit.float k n).wf = true := by
 cases fuel with
 | zero => simp [DataW.trod] at h
 | succ n =>
  unfold DataW.trod at h
  rw [ht] at h
  split at h <;> simp_all
theorem lt_of_wf {x : Nat} (h : (Lit.float .f64 x).wf = true) : x < 18446744073709551616 := by simpa [Lit.wf] using h
theorem bd_of_wf {n : Int} (h : (Lit.int .i64 n).wf = true) : -9223372036854775808 ≤ n ∧ n ≤ 9223372036854775807 := by
 have e1 : IntKind.i64.min = -9223372036854775808 := by decide +kernel
 have e2 : IntKind.i64.max = 9223372036854775807 := by decide +kernel
 simp only [Lit.wf, Bool.and_eq_true, decide_eq_true_eq, e1, e2] at h
 exact h
theorem openEls {α : Type} {t e : TypeId} {k : Nat} {E : World → Nat → List Value → α → Prop} {ok : α → Prop} (ht : Tryz.prog.underlying t = some (.slice e)) (hc : Tryz.prog.cellsOf e = k) (hk : 0 < k)
  (one : ∀ (m : Nat) (cs : List Value) (y : DataW H × List MemPlace), DataW.trod enc Tryz.prog w base spare held m e cs = some y → ∃ a, E w 0 cs a ∧ ok a)
  {fuel : Nat} {cs0 : List Value} {y : DataW H × List MemPlace} (h : DataW.trod enc Tryz.prog w base spare held fuel t cs0 = some y) :
  ∃ s c L, cs0 = [.slice s (List.length (α := α) L) c] ∧ Els k E w 0 s L ∧ (∀ a ∈ L, ok a) ∧ L.length ≤ 9223372036854775807 := by
 subst hc
 rcases DataW.trod_slice ht h with ⟨hcs, _⟩ | ⟨a, len, cap, elems, rest, n, _, hcs, _, hb, hl, hm, hlen, hel, _, _⟩
 ·
  exact ⟨none, 0, [], hcs, Or.inl rfl, fun a ha => by simp at ha, by simp⟩
 have each : ∀ i, i < len → ∃ (x : α) (cs : List Value), cs.length = Tryz.prog.cellsOf e ∧ (∀ j, j < Tryz.prog.cellsOf e → w.cell? ((a.add (i * Tryz.prog.cellsOf e)).add j) = cs[j]?) ∧ E w 0 cs x ∧ ok x := by
  intro i hi
  have := hel i hi
  obtain ⟨q, hq⟩ : ∃ q, elems[i]? = some q := ⟨elems[i], by simp [hlen, hi]⟩
  rw [hq, Option.bind_eq_some_iff] at this
  obtain ⟨cs, hcs', hy⟩ := this
  have hc := World.cells?_some hcs'
  obtain ⟨x, hx, hok⟩ := one _ _ _ hy
  exact ⟨x, cs, hc.2.1, hc.2.2, hx, hok⟩
 by_cases h0 : len = 0
 ·
  subst h0
  exact ⟨some a, cap, [], by simpa using hcs, Or.inl rfl, fun a ha => by simp at ha, by simp⟩
 have hlenm : len ≤ 9223372036854775807 := by unfold maxLen at hm; omega
 let g : Nat → α := fun i => if h : i < len then Classical.choose (each i h) else Classical.choose (each 0 (by omega))
 have hg : ∀ i, i < len → ∃ cs, cs.length = Tryz.prog.cellsOf e ∧ (∀ j, j < Tryz.prog.cellsOf e → w.cell? ((a.add (i * Tryz.prog.cellsOf e)).add j) = cs[j]?) ∧ E w 0 cs (g i) ∧ ok (g i) := by
  intro i hi
  have : g i = Classical.choose (each i hi) := by simp [g, hi]
  rw [this]
  exact Classical.choose_spec (each i hi)
 have hL : ((List.range len).map g).length = len := by simp
 obtain ⟨b, off, spot⟩ := a
 obtain ⟨cs00, c00, c01, _⟩ := hg 0 (by omega)
 have h00 := c01 0 hk
 obtain ⟨u0, hu0⟩ : ∃ u, cs00[0]? = some u := ⟨cs00[0], by simp [c00, hk]⟩
 rw [hu0] at h00
 have hspot : spot = none := by simpa [Addr.add] using World.cell?_spot h00
 subst hspot
 refine ⟨some ⟨b, off, none⟩, cap, (List.range len).map g, by rw [hL]; exact hcs, Or.inr ⟨b, off, rfl, Nat.zero_le _, ?_, fun j x hx => ?_, fun h => absurd h (by omega)⟩, ?_, by rw [hL]; exact hlenm⟩
 ·
  have := World.block_lt_of_cell? _ _ h00
  simpa [Addr.add] using this
 ·
  have hj : j < len := by
   have := (List.getElem?_eq_some_iff.1 hx).1
   simpa using this
  obtain ⟨cs, d1, d2, d3, d4⟩ := hg j hj
  have ex : x = g j := by simp [hj] at hx; exact hx.symm
  subst ex
  refine ⟨cs, d1, fun i u hu => ?_, d3⟩
  have hi : i < Tryz.prog.cellsOf e := by rw [← d1]; exact (List.getElem?_eq_some_iff.1 hu).1
  have := d2 i hi
  rw [hu] at this
  rw [Addr.add_add, add_plain, ← Nat.add_assoc] at this
  exact this
 intro x hx
 simp only [List.mem_map, List.mem_range] at hx
 obtain ⟨i, hi, rfl⟩ := hx
 obtain ⟨_, _, _, _, d4⟩ := hg i hi
 exact d4
theorem oneInt (m : Nat) (cs : List Value) (y : DataW H × List MemPlace) (h : DataW.trod enc Tryz.prog w base spare held m 3 cs = some y) : ∃ a, cInt w 0 cs a ∧ True := by
 obtain ⟨n, e0, _, _⟩ := DataW.trod_int Tryz.underlying3 h
 exact ⟨n, e0, trivial⟩
theorem oneVal (m : Nat) (cs : List Value) (y : DataW H × List MemPlace) (h : DataW.trod enc Tryz.prog w base spare held m 79 cs = some y) : ∃ a, cVal w 0 cs a ∧ True := by
 obtain ⟨y0, y1, y2, y3, n, _, hlen, h0, h1, h2, h3⟩ := trod_struct4 Tryz.underlying79 h
 rw [Tryz.cellsVal] at hlen
 match cs, hlen with
 | [v0, v1, v2, v3], _ =>
  simp [Tryz.cellsI, Tryz.cellsF] at h0 h1 h2 h3
  obtain ⟨a, e0, _, _⟩ := DataW.trod_int Tryz.underlying3 h0
  obtain ⟨b, e1, _, wb⟩ := DataW.trod_int Tryz.underlying3 h1
  obtain ⟨c, e2, _, wc⟩ := trod_float Tryz.underlying73 h2
  obtain ⟨d, e3, _, wd⟩ := trod_float Tryz.underlying73 h3
  simp only [List.cons.injEq, and_true] at e0 e1 e2 e3
  subst e0 e1 e2 e3
  exact ⟨(a, b, c, d), ⟨rfl, bd_of_wf wb, lt_of_wf wc, lt_of_wf wd⟩, trivial⟩
theorem oneVals (m : Nat) (cs : List Value) (y : DataW H × List MemPlace) (h : DataW.trod enc Tryz.prog w base spare held m 29 cs = some y) : ∃ a, cVals w 0 cs a ∧ a.length ≤ 9223372036854775807 := by
 obtain ⟨s, c, L, rfl, h1, _, h2⟩ := openEls Tryz.underlying29 Tryz.cellsVal (by omega) oneVal h
 exact ⟨L, ⟨s, c, rfl, h1⟩, h2⟩
end
end
section
open Go.RowKit
theorem neq_self (x : Nat) : (FloatKind.f64.format.order x x != some Ordering.eq) = nanB x := by
 have := order_self x
 rw [bne, show FloatKind.f64.format = Ieee.double from rfl, this, Bool.not_not]
theorem sameB_nan {x y : Nat} (h : nanB x = true ∨ nanB y = true) : (nanB x && nanB y) = sameB x y := by
 unfold sameB
 rcases h with h | h <;> simp [h]
theorem sameB_zero {x y : Nat} (hx : (x == 0 || x == 9223372036854775808) = true) (hy : (y == 0 || y == 9223372036854775808) = true) : (plusB x == plusB y) = sameB x y := by
 simp only [Bool.or_eq_true, beq_iff_eq] at hx hy
 rcases hx with rfl | rfl <;> rcases hy with rfl | rfl <;> decide +kernel
theorem sameB_other {x y : Nat} (lx : x < 18446744073709551616) (ly : y < 18446744073709551616) (nx : nanB x = false) (ny : nanB y = false) (h : ((x == 0 || x == 9223372036854775808) && (y == 0 || y == 9223372036854775808)) = false) :
  (FloatKind.f64.format.order x y == some Ordering.eq) = sameB x y := by
 have := order_eq x y lx ly nx ny
 rw [show FloatKind.f64.format = Ieee.double from rfl, this]
 unfold sameB
 rw [nx, ny]
 have e : (x % 9223372036854775808 == 0 && y % 9223372036854775808 == 0) = false := by
  rw [← h, Bool.eq_iff_iff]; simp; omega
 rw [e]; simp
set_option maxHeartbeats 400000 in
theorem lsame_nan (x y : Nat) (w : World) (h : nanB x = true ∨ nanB y = true) :
  Calls Tryz.prog 115 #[.float .f64 x, .float .f64 y] w fun e w' => e = .returned (.bool (sameB x y)) ∧ w' = w := by
 have e := sameB_nan h
 have E : Hid ((nanB x && nanB y) = sameB x y) := e
 clear e; have n1 := neq_self x
 have n2 := neq_self y
 cases hx : nanB x <;> cases hy : nanB y
 ·
  simp [hx, hy] at h
 all_goals
  rw [hx] at n1 E
  rw [hy] at n2 E
  clear h hx hy; go_enter Tryz.func115, Tryz.ntmps115
  go_wp2
  go_ret; exact ⟨ret_bool E.out, rfl⟩
theorem one_div {x : Nat} (h : (x == 0 || x == 9223372036854775808) = true) : ∃ r, floatBits .quo .f64 4607182418800017408 x = some r ∧ (FloatKind.f64.format.order r 0 == some Ordering.gt) = plusB x := by
 simp only [Bool.or_eq_true, beq_iff_eq] at h
 rcases h with rfl | rfl
 ·
  exact ⟨_, div_one_pos, inf_pos⟩
 exact ⟨_, div_one_neg, inf_neg⟩
theorem eq_zero' {x : Nat} (lx : x < 18446744073709551616) : (FloatKind.f64.format.order x 0 == some Ordering.eq) = (x == 0 || x == 9223372036854775808) := order_zero x lx
set_option maxHeartbeats 400000 in
theorem lsame_zero (x y : Nat) (w : World) (lx : x < 18446744073709551616) (ly : y < 18446744073709551616) (nx : nanB x = false) (ny : nanB y = false) (hx : (x == 0 || x == 9223372036854775808) = true) (hy : (y == 0 || y == 9223372036854775808) = true) :
  Calls Tryz.prog 115 #[.float .f64 x, .float .f64 y] w fun e w' => e = .returned (.bool (sameB x y)) ∧ w' = w := by
 have E : Hid ((plusB x == plusB y) = sameB x y) := sameB_zero hx hy
 have n1 := neq_self x
 have n2 := neq_self y
 rw [nx] at n1
 rw [ny] at n2
 have z1 := eq_zero' lx
 have z2 := eq_zero' ly
 rw [hx] at z1
 rw [hy] at z2
 obtain ⟨r, hr, gr⟩ := one_div hx
 obtain ⟨s, hs, gs⟩ := one_div hy
 have d1 := fun t w => run_float_arith (P := Tryz.prog) w .quo t .f64 4607182418800017408 x r hr
 have d2 := fun t w => run_float_arith (P := Tryz.prog) w .quo t .f64 4607182418800017408 y s hs
 clear nx ny lx ly hx hy hr hs; go_enter Tryz.func115, Tryz.ntmps115
 go_wp2
 go_ret; exact ⟨ret_bool E.out, rfl⟩
set_option maxHeartbeats 400000 in
theorem lsame_other (x y : Nat) (w : World) (lx : x < 18446744073709551616) (ly : y < 18446744073709551616) (nx : nanB x = false) (ny : nanB y = false) (h : ((x == 0 || x == 9223372036854775808) && (y == 0 || y == 9223372036854775808)) = false) :
  Calls Tryz.prog 115 #[.float .f64 x, .float .f64 y] w fun e w' => e = .returned (.bool (sameB x y)) ∧ w' = w := by
 have E : Hid ((FloatKind.f64.format.order x y == some Ordering.eq) = sameB x y) := sameB_other lx ly nx ny h
 have n1 := neq_self x
 have n2 := neq_self y
 rw [nx] at n1
 rw [ny] at n2
 have z1 := eq_zero' lx
 have z2 := eq_zero' ly
 cases hx : (x == 0 || x == 9223372036854775808)
 ·
  rw [hx] at z1
  clear nx ny lx ly hx h z2; go_enter Tryz.func115, Tryz.ntmps115
  go_wp2
  go_ret; exact ⟨ret_bool E.out, rfl⟩
 have hy : (y == 0 || y == 9223372036854775808) = false := by rw [hx] at h; simpa using h
 rw [hx] at z1
 rw [hy] at z2
 clear nx ny lx ly hx hy h; go_enter Tryz.func115, Tryz.ntmps115
 go_wp2
 go_ret; exact ⟨ret_bool E.out, rfl⟩
theorem lsame_any (x y : Nat) (w : World) (lx : x < 18446744073709551616) (ly : y < 18446744073709551616) :
  Calls Tryz.prog 115 #[.float .f64 x, .float .f64 y] w fun e w' => e = .returned (.bool (sameB x y)) ∧ w' = w := by
 cases nx : nanB x
 ·
  cases ny : nanB y
  ·
   cases h : ((x == 0 || x == 9223372036854775808) && (y == 0 || y == 9223372036854775808))
   ·
    exact lsame_other x y w lx ly nx ny h
   rw [Bool.and_eq_true] at h
   exact lsame_zero x y w lx ly nx ny h.1 h.2
  exact lsame_nan x y w (Or.inr ny)
 exact lsame_nan x y w (Or.inl nx)
def eqB (k i : Int) (x y : Nat) (l j : Int) (u v : Nat) : Bool := k == l && i == j && sameB x u && sameB y v
set_option maxHeartbeats 400000 in
theorem eqVal_any (k i : Int) (x y : Nat) (l j : Int) (u v : Nat) (w : World) (lx : x < 18446744073709551616) (ly : y < 18446744073709551616) (lu : u < 18446744073709551616) (lv : v < 18446744073709551616) :
  Calls Tryz.prog 80 #[.agg #[.int .i64 k, .int .i64 i, .float .f64 x, .float .f64 y], .agg #[.int .i64 l, .int .i64 j, .float .f64 u, .float .f64 v]] w fun e w' => e = .returned (.bool (eqB k i x y l j u v)) ∧ Below w.heap.size w w' := by
 cases h1 : ((k == l) : Bool)
 ·
  have g1 : (k != l) = true := by simp [bne, h1]
  have E : Hid (false = eqB k i x y l j u v) := by simp [Hid, eqB, h1]
  go_enter Tryz.func80, Tryz.ntmps80
  go_wp2
  go_ret; refine ⟨ret_bool E.out, ?_⟩
  exact blq
 have g1 : (k != l) = false := by simp [bne, h1]
 cases h2 : ((i == j) : Bool)
 ·
  have g2 : (i != j) = true := by simp [bne, h2]
  have E : Hid (false = eqB k i x y l j u v) := by simp [Hid, eqB, h2]
  go_enter Tryz.func80, Tryz.ntmps80
  go_wp2
  go_ret; refine ⟨ret_bool E.out, ?_⟩
  exact blq
 have g2 : (i != j) = false := by simp [bne, h2]
 have E : Hid ((sameB x u && sameB y v) = eqB k i x y l j u v) := by simp [Hid, eqB, h1, h2]
 clear h1 h2; cases h3 : sameB x u
 ·
  rw [h3] at E
  go_enter Tryz.func80, Tryz.ntmps80
  go_wp2_with (go_at_call 115; refine (lsame_any _ _ _ (by assumption) (by assumption)).mono ?_; rintro e w' ⟨rfl, rfl⟩)
  go_ret; refine ⟨ret_bool E.out, ?_⟩
  exact blq
 rw [h3] at E
 cases h4 : sameB y v
 all_goals
  rw [h4] at E
  go_enter Tryz.func80, Tryz.ntmps80
  go_wp2_with (go_at_call 115; refine (lsame_any _ _ _ (by assumption) (by assumption)).mono ?_; rintro e w' ⟨rfl, rfl⟩)
  go_ret; refine ⟨ret_bool E.out, ?_⟩
  exact blq
end
section
open Go.RowKit
theorem flat_at {k : Nat} : ∀ (U : List (List Value)) (j : Nat) (c : List Value), (∀ c ∈ U, c.length = k) → U[j]? = some c → ∀ i, i < k → U.flatten[j * k + i]? = c[i]?
 | q :: U, 0, c, hU, h, i, hi => by
  simp at h; subst h
  rw [List.flatten_cons, List.getElem?_append_left (by rw [hU q (by simp)]; omega)]
  congr 1; omega
 | q :: U, j + 1, c, hU, h, i, hi => by
  have := flat_at U j c (fun c hc => hU c (by simp [hc])) (by simpa using h) i hi
  have hq := hU q (by simp)
  rw [List.flatten_cons, List.getElem?_append_right (by rw [hq, Nat.succ_mul]; omega), hq, ← this]
  congr 1; rw [Nat.succ_mul]; omega
theorem flat_size {k : Nat} : ∀ U : List (List Value), (∀ c ∈ U, c.length = k) → U.flatten.length = U.length * k
 | [], _ => by simp
 | q :: U, hU => by
  have := flat_size U (fun c hc => hU c (by simp [hc]))
  rw [List.flatten_cons, List.length_append, hU q (by simp), this, List.length_cons, Nat.succ_mul]; omega
def Mk {α : Type} (q : Nat) (E : World → Nat → List Value → α → Prop) (z : List Value) (T : TypeId) (w : World) (B g : Nat) (L : List α) (k : Nat) : Prop :=
 z.length = q ∧ k ≤ L.length ∧ ∃ U : List (List Value), U.length = k ∧ (∀ c ∈ U, c.length = q) ∧ (∀ (j : Nat) c a, U[j]? = some c → L[j]? = some a → E w (g + 1) c a) ∧ w.ownsRow B T q (.slice (some ⟨g, 0, none⟩) L.length L.length) L.length (U ++ List.replicate (L.length - k) z).flatten
theorem made_flat (z : Array Value) (n : Nat) : (madeCells z (n * z.size)).toList = (List.replicate n z.toList).flatten := by
 apply List.ext_getElem?
 intro j
 have hU : ∀ c ∈ List.replicate n z.toList, c.length = z.size := fun c hc => by rw [List.eq_of_mem_replicate hc]; simp
 by_cases hj : j < n * z.size
 ·
  have hz : 0 < z.size := by
   rcases Nat.eq_zero_or_pos z.size with h | h
   ·
    rw [h] at hj; omega
   exact h
  have hi : j / z.size < n := Nat.div_lt_of_lt_mul (by rw [Nat.mul_comm]; exact hj)
  have hm : j % z.size < z.size := Nat.mod_lt _ hz
  have := flat_at (k := z.size) (List.replicate n z.toList) (j / z.size) z.toList hU (by simp [hi]) (j % z.size) hm
  rw [Nat.mul_comm, Nat.div_add_mod] at this
  rw [this]
  simp [madeCells, hj, hm]
 rw [List.getElem?_eq_none (by simp [madeCells]; omega), List.getElem?_eq_none (by rw [flat_size _ hU]; simp; omega)]
theorem Mk.start {α : Type} {q : Nat} {E : World → Nat → List Value → α → Prop} {z : Array Value} {T : TypeId} {w : World} {B g : Nat} {L : List α} (hq : z.size = q) (h : w.ownsRow B T q (.slice (some ⟨g, 0, none⟩) L.length L.length) L.length (madeCells z (L.length * q)).toList) : Mk q E z.toList T w B g L 0 := by
 subst hq
 refine ⟨by simp, Nat.zero_le _, [], rfl, fun c hc => by simp at hc, fun j c a hc => by simp at hc, ?_⟩
 rw [made_flat] at h
 simpa using h
theorem Mk.later {α : Type} {q : Nat} {E : World → Nat → List Value → α → Prop} (hE : KeepsE E) {z : List Value} {T : TypeId} {w w' : World} {B g : Nat} {L : List α} {k : Nat} (h : Mk q E z T w B g L k) (hb : Below w.heap.size w w') : Mk q E z T w' B g L k := by
 obtain ⟨h1, h2, U, h3, h4, h5, h6⟩ := h
 refine ⟨h1, h2, U, h3, h4, fun j c a hc ha => hE _ _ _ _ _ (Kept.of hb _) (h5 j c a hc ha), ?_⟩
 refine World.ownsRow.kept h6 (grown_of_below hb) ?_
 cases (Value.slice (some ⟨g, 0, none⟩) L.length L.length).ownBlock with
 | none => exact Or.inl rfl
 | some b => exact Or.inr (by simp)
theorem Mk.at {α : Type} {q : Nat} {E : World → Nat → List Value → α → Prop} {z : List Value} {T : TypeId} {w : World} {B g : Nat} {L : List α} {k : Nat} (h : Mk q E z T w B g L k) (hk : k < L.length) : B ≤ g ∧ g < w.heap.size ∧ (∀ o, w.frozen? ⟨g, o, none⟩ = false) ∧ ∀ i u, z[i]? = some u → w.cell? ⟨g, k * q + i, none⟩ = some u := by
 obtain ⟨h1, h2, U, h3, h4, h5, h6⟩ := h
 have hlt := World.ownsRow.lt h6 g rfl
 refine ⟨hlt.1, hlt.2, fun o => World.ownsRow.frozenAt h6 o, fun i u hu => ?_⟩
 have hi : i < q := by rw [← h1]; exact (List.getElem?_eq_some_iff.1 hu).1
 have hx : (k + 1) * q ≤ L.length * q := Nat.mul_le_mul_right _ hk
 rw [Nat.succ_mul] at hx
 have hU : ∀ c ∈ U ++ List.replicate (L.length - k) z, c.length = q := by
  intro c hc
  rcases List.mem_append.1 hc with hc | hc
  ·
   exact h4 c hc
  rw [List.eq_of_mem_replicate hc]; exact h1
 have hz : (U ++ List.replicate (L.length - k) z)[k]? = some z := by
  rw [List.getElem?_append_right (by omega), h3, Nat.sub_self, List.getElem?_replicate, if_pos (by omega)]
 rw [World.ownsRow.cellAt h6 (k * q + i) (by omega), flat_at _ k z hU hz i hi, hu]
theorem Mk.push {α : Type} {q : Nat} {E : World → Nat → List Value → α → Prop} (hE : KeepsE E) {z c : List Value} {T : TypeId} {w w' : World} {B g : Nat} {L : List α} {k : Nat} {a : α} (h : Mk q E z T w B g L k) (hk : L[k]? = some a) (hc : c.length = q) (hEc : E w (g + 1) c a) (hkept : Kept (g + 1) w w')
  (hrow : ∀ A C : List Value, A.length = k * q → w.ownsRow B T q (.slice (some ⟨g, 0, none⟩) L.length L.length) L.length (A ++ (z ++ C)) → w'.ownsRow B T q (.slice (some ⟨g, 0, none⟩) L.length L.length) L.length (A ++ (c ++ C))) : Mk q E z T w' B g L (k + 1) := by
 obtain ⟨h1, h2, U, h3, h4, h5, h6⟩ := h
 have hlt : k < L.length := (List.getElem?_eq_some_iff.1 hk).1
 refine ⟨h1, hlt, U ++ [c], by simp [h3], ?_, ?_, ?_⟩
 ·
  intro d hd
  rcases List.mem_append.1 hd with hd | hd
  ·
   exact h4 d hd
  simp at hd; subst hd; exact hc
 ·
  intro j d b hd hb
  by_cases e : j < k
  ·
   rw [List.getElem?_append_left (by omega)] at hd
   exact hE _ _ _ _ _ hkept (h5 j d b hd hb)
  have ej : j = k := by
   have := (List.getElem?_eq_some_iff.1 hd).1
   simp [h3] at this; omega
  subst ej
  rw [hk] at hb
  cases hb
  rw [List.getElem?_append_right (by omega), h3] at hd
  simp at hd
  subst hd
  exact hE _ _ _ _ _ hkept hEc
 have e : L.length - k = (L.length - (k + 1)) + 1 := by omega
 rw [e, List.replicate_succ] at h6
 have := hrow U.flatten (List.replicate (L.length - (k + 1)) z).flatten (by rw [flat_size U h4, h3]) (by simpa using h6)
 simpa using this
theorem Mk.done {α : Type} {q : Nat} {E : World → Nat → List Value → α → Prop} (hD : DropsE E) {z : List Value} {T : TypeId} {w : World} {B g : Nat} {L : List α} (h : Mk q E z T w B g L L.length) : Els q E w g (some ⟨g, 0, none⟩) L := by
 obtain ⟨h1, h2, U, h3, h4, h5, h6⟩ := h
 have hlt := World.ownsRow.lt h6 g rfl
 rw [Nat.sub_self] at h6
 simp only [List.replicate_zero, List.append_nil] at h6
 refine Or.inr ⟨g, 0, rfl, Nat.le_refl _, hlt.2, fun j a ha => ?_, fun _ j => World.ownsRow.frozenAt h6 j⟩
 have hj : j < L.length := (List.getElem?_eq_some_iff.1 ha).1
 obtain ⟨c, hc⟩ := get_some (L := U) (k := j) (by omega)
 refine ⟨c, h4 c (List.mem_of_getElem? hc), fun i u hu => ?_, hD _ _ _ _ _ (Nat.le_succ g) (h5 j c a hc ha)⟩
 have hi : i < q := by rw [← h4 c (List.mem_of_getElem? hc)]; exact (List.getElem?_eq_some_iff.1 hu).1
 have hx : (j + 1) * q ≤ L.length * q := Nat.mul_le_mul_right _ hj
 rw [Nat.succ_mul] at hx
 rw [Nat.zero_add, World.ownsRow.cellAt h6 (j * q + i) (by omega), flat_at U j c h4 hc i hi, hu]
theorem put1 {w : World} {B g n q k : Nat} {T : TypeId} {A C : List Value} {x u : Value} (hq : q = 1) (hA : A.length = k * q) (h : w.ownsRow B T q (.slice (some ⟨g, 0, none⟩) n n) n (A ++ ([x] ++ C))) : (w.setCell ⟨g, k, none⟩ u).ownsRow B T q (.slice (some ⟨g, 0, none⟩) n n) n (A ++ ([u] ++ C)) := by
 subst hq
 have := (World.ownsRow.stored h (A.length + 0) u).1
 rw [set_mid _ _ _ _ _ (by simp)] at this
 have e : A.length + 0 = k := by omega
 rw [e] at this
 exact this
theorem put2 {w : World} {B g n k : Nat} {T : TypeId} {A C : List Value} {x y u v : Value} (hA : A.length = k * 2) (h : w.ownsRow B T 2 (.slice (some ⟨g, 0, none⟩) n n) n (A ++ ([x, y] ++ C))) : ((w.setCell ⟨g, k * 2, none⟩ u).setCell ⟨g, k * 2 + 1, none⟩ v).ownsRow B T 2 (.slice (some ⟨g, 0, none⟩) n n) n (A ++ ([u, v] ++ C)) := by
 have h1 := (World.ownsRow.stored h (A.length + 0) u).1
 rw [set_mid _ _ _ _ _ (by simp)] at h1
 have h2 := (World.ownsRow.stored h1 (A.length + 1) v).1
 rw [set_mid _ _ _ _ _ (by simp), hA] at h2
 exact h2
theorem put3 {w : World} {B g n k : Nat} {T : TypeId} {A C : List Value} {x0 x1 x2 u0 u1 u2 : Value} (hA : A.length = k * 3) (h : w.ownsRow B T 3 (.slice (some ⟨g, 0, none⟩) n n) n (A ++ ([x0, x1, x2] ++ C))) : (((w.setCell ⟨g, k * 3, none⟩ u0).setCell ⟨g, k * 3 + 1, none⟩ u1).setCell ⟨g, k * 3 + 2, none⟩ u2).ownsRow B T 3 (.slice (some ⟨g, 0, none⟩) n n) n (A ++ ([u0, u1, u2] ++ C)) := by
 have h1 := (World.ownsRow.stored h (A.length + 0) u0).1
 rw [set_mid _ _ _ _ _ (by simp)] at h1
 have h2 := (World.ownsRow.stored h1 (A.length + 1) u1).1
 rw [set_mid _ _ _ _ _ (by simp)] at h2
 have h3 := (World.ownsRow.stored h2 (A.length + 2) u2).1
 rw [set_mid _ _ _ _ _ (by simp), hA] at h3
 exact h3
theorem put4 {w : World} {B g n k : Nat} {T : TypeId} {A C : List Value} {x0 x1 x2 x3 u0 u1 u2 u3 : Value} (hA : A.length = k * 4) (h : w.ownsRow B T 4 (.slice (some ⟨g, 0, none⟩) n n) n (A ++ ([x0, x1, x2, x3] ++ C))) : ((((w.setCell ⟨g, k * 4, none⟩ u0).setCell ⟨g, k * 4 + 1, none⟩ u1).setCell ⟨g, k * 4 + 2, none⟩ u2).setCell ⟨g, k * 4 + 3, none⟩ u3).ownsRow B T 4 (.slice (some ⟨g, 0, none⟩) n n) n (A ++ ([u0, u1, u2, u3] ++ C)) := by
 have h1 := (World.ownsRow.stored h (A.length + 0) u0).1
 rw [set_mid _ _ _ _ _ (by simp)] at h1
 have h2 := (World.ownsRow.stored h1 (A.length + 1) u1).1
 rw [set_mid _ _ _ _ _ (by simp)] at h2
 have h3 := (World.ownsRow.stored h2 (A.length + 2) u2).1
 rw [set_mid _ _ _ _ _ (by simp)] at h3
 have h4 := (World.ownsRow.stored h3 (A.length + 3) u3).1
 rw [set_mid _ _ _ _ _ (by simp), hA] at h4
 exact h4
end
section
open Go.RowKit
theorem Rows2.ints {w : World} {B g f : Nat} {G F : List Int} (h : Rows2 w B g f G F) : Ints w (some ⟨g, 0, none⟩) G ∧ Ints w (some ⟨f, 0, none⟩) F := ⟨h.1.ints.1, h.2.1.ints.1⟩
end
section
open Go.RowKit
theorem Blk.one {w : World} {n : Nat} {a b : Value} {t : TypeId} (h : Blk w n #[a, b] t) : w.cell? ⟨n, 0, none⟩ = some a ∧ w.cell? ⟨n, 1, none⟩ = some b := ⟨h.cell 0, h.cell 1⟩
set_option maxHeartbeats 1000000 in
theorem toEnt_any (a g : Int) (w : World) :
  Calls Tryz.prog 118 #[.agg #[.int .i64 a, .int .i64 g]] w fun e w' => e = .returned (.agg #[.int .i64 a, .int .i64 g]) ∧ Below w.heap.size w w' := by
 go_enter Tryz.func118, Tryz.ntmps118
 go_wp2_with fail; refine bodyPost_ret (v := .agg #[.int .i64 a, .int .i64 g]) (by simp [results, Tryz.results118, go_sem]) rfl ⟨rfl, ?_⟩
 exact blq
theorem mem_take_false {F : List Int} {k : Nat} {v : Int} (hk : k < F.length) (h : ¬ v ∈ F.take k) (hx : ¬ F[k]?.getD 0 = v) : ¬ v ∈ F.take (k + 1) := by
 rw [take_succ' F k hk, List.mem_append]
 rintro (h1 | h1)
 ·
  exact h h1
 simp at h1; exact hx h1.symm
set_option maxHeartbeats 1000000 in
theorem index_any (s : Option Addr) (c : Nat) (F : List Int) (v : Int) (w : World) (h : Ints w s F) (hl : F.length ≤ 1048576) :
  Calls Tryz.prog 108 #[.slice s F.length c, .int .i64 v] w fun e w' => ∃ r : Int, e = .returned (.int .i64 r) ∧ (decide (0 ≤ r) = decide (v ∈ F)) ∧ Below w.heap.size w w' := by
 go_enter Tryz.func108, Tryz.ntmps108
 go_wp2_with fail; go_loop [8] (fun i => ∃ k : Nat, k ≤ F.length ∧ i = .int .i64 k ∧ Hid (¬ v ∈ F.take k)) (fun i => F.length - (intOf i).toNat)
 case atStart => exact ⟨0, Nat.zero_le _, rfl, by simp [Hid]⟩
 obtain ⟨k, hk, rfl, hall⟩ := hrel
 by_cases hlt : k < F.length
 ·
  obtain ⟨pb, po, rfl, hp, hc⟩ := h.get hlt
  obtain ⟨x, hx⟩ : ∃ x, Hid (F[k]?.getD 0 = x) := ⟨_, rfl⟩
  have d1 : w.cell? ⟨pb, po + k, none⟩ = some (.int .i64 x) := by rw [← hx.out]; exact hc k hlt
  by_cases he : v = x
  ·
   have g : (v == x) = true := by simp [he]
   have hmem : Hid (v ∈ F) := by rw [he, ← hx.out]; exact getD_mem hlt
   clear hc h he; go_wp2_with fail; go_ret; refine ⟨_, rfl, ?_, Below.refl _ _⟩
   simp [hmem.out]
  have g : (v == x) = false := by simp [he]
  have hstep : Hid (¬ v ∈ F.take (k + 1)) := mem_take_false hlt hall.out (by rw [hx.out]; exact fun h => he h.symm)
  clear hc h he; go_wp2_with fail; go_round
  case rel => exact ⟨k + 1, by omega, by go_num, hstep⟩
  case measure => simp [intOf]; omega
 have hno : Hid (¬ v ∈ F) := by
  have := hall.out
  rw [List.take_of_length_le (by omega)] at this
  exact this
 go_wp2_with fail; go_ret; refine ⟨_, rfl, ?_, Below.refl _ _⟩
 simp [hno.out]
set_option maxHeartbeats 1000000 in
theorem contains_any (s : Option Addr) (c : Nat) (F : List Int) (v : Int) (w : World) (h : Ints w s F) (hl : F.length ≤ 1048576) :
  Calls Tryz.prog 70 #[.slice s F.length c, .int .i64 v] w fun e w' => e = .returned (.bool (decide (v ∈ F))) ∧ Below w.heap.size w w' := by
 go_enter Tryz.func70, Tryz.ntmps70
 go_wp2_with fail; refine (index_any s c F v _ h hl).mono ?_
 rintro e w1 ⟨r, rfl, hr, hb1⟩
 have E : Hid (decide (0 ≤ r) = decide (v ∈ F)) := hr
 clear hr; go_wp2_with fail; go_ret; exact ⟨ret_bool' E.out, hb1⟩
end
end Go.Proofs.YtbgeobpdojmdaaaGreat
