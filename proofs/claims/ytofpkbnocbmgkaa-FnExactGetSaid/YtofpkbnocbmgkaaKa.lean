import Derived.Test.YtofpkbnocbmgkaaTe
import Derived.Deep.RegionHeld3
import Derived.Test.YtofpkbnocbmgkaaMm
namespace Go.Proofs.Ytofpkbnocbmgkaa
open Go.RowKit Go.Maps Go.WideMaps
set_option linter.unusedVariables false
set_option linter.unusedSimpArgs false
set_option maxRecDepth 100000

theorem boxTwo (w : World) (c d : Array Value) (t u : TypeId) : Blk ((w.alloc (.cells c t)).alloc (.cells d u)) w.heap.size c t ∧ Blk ((w.alloc (.cells c t)).alloc (.cells d u)) (w.heap.size + 1) d u ∧ Below w.heap.size w ((w.alloc (.cells c t)).alloc (.cells d u)) :=
  ⟨(blk2 w c d t u).1, (blk2 w c d t u).2, bl_alloc (bl_alloc (Below.refl _ _) _) _⟩
/-- the number of a column. -/
def cmpB (A : List (ByteArray × Int)) (c : Int) : Bool := decide (0 ≤ c) && decide (c < (A.length : Int))
def okV4 (v : V4) : Bool := okB v.1 v.2.1 v.2.2.1 v.2.2.2
/-- a right value of a kind. -/
def vofB (k : Int) (v : V4) : Bool := v.1 == k && okV4 v
/-- a column's number with a right value of its kind. -/
def fitB (A : List (ByteArray × Int)) (c : Int) (v : V4) : Bool := cmpB A c && vofB (dAt A c.toNat).2 v

theorem kcell {W w1 : World} {b o : Nat} {v : Value} (hb : Below W.heap.size W w1) (h : W.cell? ⟨b, o, none⟩ = some v) : w1.cell? ⟨b, o, none⟩ = some v := (hb.cell (p := ⟨b, o, none⟩) (World.block_lt_of_cell? _ _ h)).trans h

set_option maxHeartbeats 400000 in
theorem compOk_any (s1 s2 s3 : Option Addr) (c1 c2 c3 : Nat) (A B C : List (ByteArray × Int)) (c : Int) (w : World) (l1 : A.length ≤ 1048576) :
    Calls Try.prog 109 #[.agg #[.slice s1 A.length c1, .slice s2 B.length c2, .slice s3 C.length c3], .int .i64 c] w fun e w' => e = .returned (.bool (cmpB A c)) ∧ Below w.heap.size w w' := by
  obtain ⟨x0, x1, x2, x3⟩ := (Blk.new w #[.slice s1 A.length c1, .slice s2 B.length c2, .slice s3 C.length c3] 43).three'
  by_cases h : 0 ≤ c
  · have E : Hid (decide (c < (A.length : Int)) = cmpB A c) := by simp [Hid, cmpB, h]
    go_enter Try.func109, Try.ntmps109
    go_wp2_with fail
    go_ret
    exact ⟨ret_bool' E.out, bl_alloc (Below.refl _ _) _⟩
  · have E : Hid (false = cmpB A c) := by simp [Hid, cmpB, h]
    go_enter Try.func109, Try.ntmps109
    go_wp2_with fail
    go_ret
    exact ⟨ret_bool' E.out, bl_alloc (Below.refl _ _) _⟩

set_option maxHeartbeats 400000 in
theorem valOf_any (k : Int) (v : V4) (w : World) :
    Calls Try.prog 108 #[.int .i64 k, .agg #[.int .i64 v.1, .int .i64 v.2.1, .float .f64 v.2.2.1, .float .f64 v.2.2.2]] w fun e w' => e = .returned (.bool (vofB k v)) ∧ Below w.heap.size w w' := by
  obtain ⟨v1, v2, v3, v4⟩ := v
  obtain ⟨x0, x1, x2, x3, x4⟩ := (Blk.new w #[.int .i64 v1, .int .i64 v2, .float .f64 v3, .float .f64 v4] 38).four'
  cases h : (v1 == k : Bool)
  · have E : Hid (false = vofB k (v1, v2, v3, v4)) := by simp [Hid, vofB, h]
    go_enter Try.func108, Try.ntmps108
    go_wp2_with fail
    go_ret
    exact ⟨ret_bool' E.out, bl_alloc (Below.refl _ _) _⟩
  · have E : Hid (okB v1 v2 v3 v4 = vofB k (v1, v2, v3, v4)) := by simp [Hid, vofB, okV4, h]
    go_enter Try.func108, Try.ntmps108
    go_wp2_with fail
    refine (implOk_any v1 v2 v3 v4 _).mono ?_
    rintro e w1 ⟨rfl, rfl⟩
    go_wp2_with fail
    go_ret
    exact ⟨ret_bool' E.out, bl_alloc (bl_alloc (Below.refl _ _) _) _⟩

/-- the resources' values: as many as declared, each right and of its kind. -/
def resB (B : List (ByteArray × Int)) (R : List V4) : Bool := decide (R.length = B.length) && (List.range R.length).all fun j => R[j]?.elim true (vofB (dAt B j).2)
theorem resB_len {B : List (ByteArray × Int)} {R : List V4} (h : ¬ R.length = B.length) : false = resB B R := by simp [resB, h]
theorem resB_at {B : List (ByteArray × Int)} {R : List V4} {j : Nat} {v : V4} (hv : R[j]? = some v) (h : vofB (dAt B j).2 v = false) : false = resB B R := by
  cases hs : resB B R
  · rfl
  · simp only [resB, Bool.and_eq_true, decide_eq_true_eq, List.all_eq_true, List.mem_range] at hs
    have := hs.2 j (by have := (List.getElem?_eq_some_iff.mp hv).1; exact this)
    rw [hv] at this
    simp only [Option.elim] at this
    rw [h] at this; cases this
theorem resB_all {B : List (ByteArray × Int)} {R : List V4} (hn : R.length = B.length) (h : ∀ (j : Nat) v, R[j]? = some v → vofB (dAt B j).2 v = true) : true = resB B R := by
  symm
  simp only [resB, Bool.and_eq_true, decide_eq_true_eq, List.all_eq_true, List.mem_range]
  refine ⟨hn, fun j hj => ?_⟩
  rw [List.getElem?_eq_getElem hj]
  exact h j _ (List.getElem?_eq_getElem hj)

set_option maxHeartbeats 2000000 in
theorem ressOk_any (s1 s2 s3 : Option Addr) (c1 c2 c3 : Nat) (A B C : List (ByteArray × Int)) (sr : Option Addr) (cr : Nat) (R : List V4) (Bs : Nat) (w : World) (hB : Decls w s2 B) (hR : Els 4 cVal w Bs sr R) (l2 : B.length ≤ 1048576) (lr : R.length ≤ 1048576) :
    Calls Try.prog 80 #[.agg #[.slice s1 A.length c1, .slice s2 B.length c2, .slice s3 C.length c3], .slice sr R.length cr] w fun e w' => e = .returned (.bool (resB B R)) ∧ Below w.heap.size w w' := by
  have hal := alloc_old
  have haf := alloc_oldf
  have k0 := Blk.new w #[.slice s1 A.length c1, .slice s2 B.length c2, .slice s3 C.length c3] 43
  have L0 : Below w.heap.size w (w.alloc (.cells #[.slice s1 A.length c1, .slice s2 B.length c2, .slice s3 C.length c3] 43)) := bl_alloc (Below.refl _ _) _
  obtain ⟨x0, x1, x2, x3⟩ := k0.three'
  by_cases hn : R.length = B.length
  · have t0 : ((R.length : Int) != (B.length : Int)) = false := by simp [hn]
    have HN : Hid (R.length = B.length) := hn
    clear hn
    go_enter Try.func80, Try.ntmps80
    go_wp2_with fail
    clear t0 x0 x1 x2 x3
    generalize hX : w.alloc (.cells #[.slice s1 A.length c1, .slice s2 B.length c2, .slice s3 C.length c3] 43) = X at k0 L0 ⊢
    clear hX
    have HB1 : Hid (Decls X s2 B) := hB.later L0
    have HR1 : Hid (Els 4 cVal X Bs sr R) := hR.later cVal_keeps L0
    have HX : Hid (Below w.heap.size w X) := L0
    have hX0 : w.heap.size < X.heap.size := k0.lt
    clear hB hR L0 k0
    go_loopw [16] (fun i wr => ∃ (m : Nat), m ≤ B.length ∧ i = .int .i64 m ∧ Hid (Below X.heap.size X wr ∧ ∀ (j : Nat) v, j < m → R[j]? = some v → vofB (dAt B j).2 v = true)) (fun i _ => B.length - (intOf i).toNat)
    case atStart => exact ⟨0, Nat.zero_le _, rfl, Below.refl _ _, fun j v hj => absurd hj (Nat.not_lt_zero _)⟩
    case round =>
      obtain ⟨m, hm, rfl, hN⟩ := hrel
      by_cases hlt : m < B.length
      · obtain ⟨v, hv⟩ : ∃ v, R[m]? = some v := ⟨_, List.getElem?_eq_getElem (by rw [HN.out]; exact hlt)⟩
        obtain ⟨pb, po, rfl, hp, e1, e2⟩ := (HB1.out.later hN.out.1).get hlt
        obtain ⟨qb, qo, rfl, hq1, hq2, hok, f1, f2, f3, f4⟩ := eVal_cells (HR1.out.later cVal_keeps hN.out.1) hv
        obtain ⟨p, hp0⟩ : ∃ p, Hid (dAt B m = p) := ⟨_, rfl⟩
        rw [hp0.out] at e1 e2
        obtain ⟨p1, p2⟩ := p
        have hltR : m < R.length := by rw [HN.out]; exact hlt
        have HV : Hid (R[m]? = some v) := hv
        clear hv hok
        go_wp2_with fail
        have KD := Blk.new wr #[.string p1, .int .i64 p2] 137
        have d1 := KD.cell 1
        have g1 := hal wr (.cells #[.string p1, .int .i64 p2] 137) qb (qo + m * 4) (by rw [f1]; rfl)
        have g2 := hal wr (.cells #[.string p1, .int .i64 p2] 137) qb (qo + m * 4 + 1) (by rw [f2]; rfl)
        have g3 := hal wr (.cells #[.string p1, .int .i64 p2] 137) qb (qo + m * 4 + 2) (by rw [f3]; rfl)
        have g4 := hal wr (.cells #[.string p1, .int .i64 p2] 137) qb (qo + m * 4 + 3) (by rw [f4]; rfl)
        rw [f1] at g1
        rw [f2] at g2
        rw [f3] at g3
        rw [f4] at g4
        have hY0 : Hid (Below X.heap.size X (wr.alloc (.cells #[.string p1, .int .i64 p2] 137))) := bl_alloc hN.out.1 _
        generalize hY : wr.alloc (.cells #[.string p1, .int .i64 p2] 137) = Y at KD d1 g1 g2 g3 g4 hY0 ⊢
        clear hY f1 f2 f3 f4 e1 e2
        go_region_held3 (fun w' => w'.cell? ⟨wr.heap.size, 1, none⟩ = some (.int .i64 p2) ∧ w'.cell? ⟨qb, qo + m * 4, none⟩ = some (.int .i64 v.1) ∧ w'.cell? ⟨qb, qo + m * 4 + 1, none⟩ = some (.int .i64 v.2.1) ∧ w'.cell? ⟨qb, qo + m * 4 + 2, none⟩ = some (.float .f64 v.2.2.1) ∧ w'.cell? ⟨qb, qo + m * 4 + 3, none⟩ = some (.float .f64 v.2.2.2)) (simp [d1, g1, g2, g3, g4]) (first | (go_at_call 108; refine (valOf_any p2 v _).mono ?_; rintro e w2 ⟨rfl, hb2⟩; have hw2 : Hid (Below X.heap.size X w2) := bl_trans (bl_drew hY0.out) hb2; have hb3 : Below Y.heap.size Y w2 := bl_trans (bl_drew (Below.refl _ _)) hb2; have d1 := kcell hb3 d1; have g1 := kcell hb3 g1; have g2 := kcell hb3 g2; have g3 := kcell hb3 g3; have g4 := kcell hb3 g4))
        cases hvo : vofB p2 v
        · all_goals
            go_wp2_with fail
            go_ret
            exact ⟨ret_bool' (resB_at HV.out (by rw [hp0.out]; exact hvo)), bl_trans HX.out hw2.out⟩
        · all_goals
            go_wp2_with fail
            go_roundw
            case rel => exact ⟨m + 1, by omega, by go_num, hw2.out, fun j u hj hu => by
              by_cases hjm : j = m
              · subst hjm
                rw [HV.out] at hu
                cases hu
                rw [hp0.out]
                exact hvo
              · exact hN.out.2 j u (by omega) hu⟩
            case measure => simp [intOf]; omega
      · have hm' : m = B.length := by omega
        subst hm'
        go_wp2_with fail
        go_ret
        exact ⟨ret_bool' (resB_all HN.out (fun j v hv => hN.out.2 j v (by have := (List.getElem?_eq_some_iff.mp hv).1; rw [← HN.out]; exact this) hv)), bl_trans HX.out hN.out.1⟩
  · have t0 : ((R.length : Int) != (B.length : Int)) = true := by simp; omega
    go_enter Try.func80, Try.ntmps80
    go_wp2_with fail
    go_ret
    exact ⟨ret_bool' (resB_len hn), L0⟩
end Go.Proofs.Ytofpkbnocbmgkaa
