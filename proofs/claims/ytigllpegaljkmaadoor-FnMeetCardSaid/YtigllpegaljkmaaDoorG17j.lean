import Derived.Test.YtigllpegaljkmaaDoorG13j
import Derived.Test.YtigllpegaljkmaaDoorG16j
namespace Go.Proofs.YtigllpegaljkmaaDoor
open Go.RowKit
set_option linter.unusedVariables false
set_option linter.unusedSimpArgs false

/-- is a number ready, by the edges themselves? -/
def rdL (L : List (Int × Int)) (S : Nat → Bool) (x : Nat) : Bool := !S x && L.all fun e => !(decide (e.2 = (x : Int)) && !S e.1.toNat)
theorem rdL_eq {n : Nat} {L : List (Int × Int)} (hin : Inn n L) (hn : n ≤ 16) (S : Nat → Bool) {x : Nat} (hx : x < n) : rdL L S x = rdy (eF L) n S x := by
  rw [Bool.eq_iff_iff]
  unfold rdL rdy
  simp only [Bool.and_eq_true, decide_eq_true_eq, List.all_eq_true, List.mem_range, Bool.not_eq_true', Bool.and_eq_false_iff, decide_eq_false_iff_not, Bool.not_eq_false']
  constructor
  · rintro ⟨h1, h2⟩
    refine ⟨hx, h1, fun i _ => ?_⟩
    cases h : eF L x i
    · exact Or.inl rfl
    · have := h2 _ (of_decide_eq_true h)
      simp at this
      exact Or.inr this
  · rintro ⟨_, h1, h2⟩
    refine ⟨h1, fun e he => ?_⟩
    obtain ⟨p, q⟩ := e
    have hr := hin _ he
    simp at hr
    by_cases e : q = (x : Int)
    · right
      obtain ⟨a, rfl⟩ : ∃ a : Nat, p = (a : Int) := ⟨p.toNat, by omega⟩
      have := h2 a (by omega)
      subst e
      rw [show eF L x a = true by simp [eF, eR, he]] at this
      simpa using this
    · exact Or.inl e

set_option maxHeartbeats 2000000 in
theorem l14Ready_any (s : Option Addr) (c sb B n x : Nat) (L : List (Int × Int)) (S : Nat → Bool) (w : World) (hL : Eds w s L) (hl : L.length ≤ 1048576) (hin : Inn n L) (hn : n ≤ 16) (hS : Fl w B sb n S) (hx : x < n) :
    Calls Tryd.prog 23 #[.slice s L.length c, .slice (some ⟨sb, 0, none⟩) n n, .int .i64 x] w fun e w' => e = .returned (.bool (rdL L S x)) ∧ w' = w := by
  have HI : Hid (Inn n L) := hin
  clear hin
  obtain ⟨c0, f0⟩ := hS.cell hx
  cases hs : S x
  · rw [hs] at c0
    go_enter Tryd.func23, Tryd.ntmps23
    go_wp2_with fail
    go_loop [7] (fun i => ∃ k : Nat, k ≤ L.length ∧ i = .int .i64 k ∧ Hid (∀ e ∈ L.take k, (!(decide (e.2 = (x : Int)) && !S e.1.toNat)) = true)) (fun i => L.length - (intOf i).toNat)
    case atStart => exact ⟨0, Nat.zero_le _, rfl, by simp [Hid]⟩
    case round =>
      obtain ⟨k, hk, rfl, hall⟩ := hrel
      by_cases hlt : k < L.length
      · obtain ⟨b, o, rfl, hp, e1, e2⟩ := hL.get hlt
        obtain ⟨⟨p1, p2⟩, hxx⟩ : ∃ x, Hid (L[k]?.getD (0, 0) = x) := ⟨_, rfl⟩
        have hi := HI.out _ (memE hlt)
        rw [hxx.out] at e1 e2 hi
        obtain ⟨⟨i1, i2⟩, i3, i4⟩ := hi
        obtain ⟨q1, rfl⟩ : ∃ q : Nat, p1 = (q : Int) := ⟨p1.toNat, by simp at i1; omega⟩
        obtain ⟨q2, rfl⟩ : ∃ q : Nat, p2 = (q : Int) := ⟨p2.toNat, by simp at i3; omega⟩
        have h1 : q1 < n := by simp at i2; omega
        clear i1 i2 i3 i4
        obtain ⟨c1, f1⟩ := hS.cell h1
        have hnew : Hid ((!(decide ((q2 : Int) = (x : Int)) && !S q1)) = true → ∀ e ∈ L.take (k + 1), (!(decide (e.2 = (x : Int)) && !S e.1.toNat)) = true) := by
          intro hh g hg
          rw [takeE_succ L k hlt, List.mem_append] at hg
          rcases hg with hg | hg
          · exact hall.out g hg
          · simp only [List.mem_singleton] at hg; subst hg; rw [hxx.out]; exact hh
        have hbd : Hid ((!(decide ((q2 : Int) = (x : Int)) && !S q1)) = false → rdL L S x = false) := by
          intro hh
          unfold rdL
          rw [hs]
          simp only [Bool.not_false, Bool.true_and]
          rw [List.all_eq_false]
          refine ⟨_, memE hlt, ?_⟩
          rw [hxx.out]; simp only [Int.toNat_natCast]; rw [hh]; simp
        by_cases he : q2 = x
        · subst he
          have t0 : ((q2 : Int) == (q2 : Int)) = true := by simp
          cases hq : S q1
          · rw [hq] at c1
            have hA : Hid (rdL L S q2 = false) := hbd.out (by simp [hq])
            go_wp2_with fail
            go_ret
            exact ⟨ret_bool' hA.out.symm, rfl⟩
          · rw [hq] at c1
            have hst : Hid (∀ e ∈ L.take (k + 1), (!(decide (e.2 = (q2 : Int)) && !S e.1.toNat)) = true) := hnew.out (by simp [hq])
            go_wp2_with fail
            go_round
            case rel => exact ⟨k + 1, by omega, by go_num, hst⟩
            case measure => simp [intOf]; omega
        · have t0 : ((q2 : Int) == (x : Int)) = false := by simp; omega
          have hst : Hid (∀ e ∈ L.take (k + 1), (!(decide (e.2 = (x : Int)) && !S e.1.toNat)) = true) := hnew.out (by
            have : decide ((q2 : Int) = (x : Int)) = false := by simp; omega
            simp [this])
          go_wp2_with fail
          go_round
          case rel => exact ⟨k + 1, by omega, by go_num, hst⟩
          case measure => simp [intOf]; omega
      · have hA : Hid (rdL L S x = true) := by
          have := hall.out
          rw [List.take_of_length_le (by omega)] at this
          unfold rdL
          rw [hs]
          simp only [Hid, Bool.not_false, Bool.true_and, List.all_eq_true]
          exact this
        go_wp2_with fail
        go_ret
        exact ⟨ret_bool' hA.out.symm, rfl⟩
  · rw [hs] at c0
    have hA : Hid (rdL L S x = false) := by simp [Hid, rdL, hs]
    go_enter Tryd.func23, Tryd.ntmps23
    go_wp2_with fail
    go_ret
    exact ⟨ret_bool' hA.out.symm, rfl⟩

/-- the least number that is ready, with O standing; the canonical order's first k. -/
def cStep (L : List (Int × Int)) (n : Nat) (O : List Int) : Option Nat := (List.range n).find? fun x => rdy (eF L) n (stands O) x
def cSeq (L : List (Int × Int)) (n : Nat) : Nat → Option (List Int)
  | 0 => some []
  | k + 1 => (cSeq L n k).bind fun O => (cStep L n O).map fun q => O ++ [(q : Int)]
theorem cStep_lt {L : List (Int × Int)} {n q : Nat} {O : List Int} (h : cStep L n O = some q) : q < n ∧ rdy (eF L) n (stands O) q = true := by
  unfold cStep at h
  exact ⟨by simpa using List.mem_of_find?_eq_some h, by simpa using List.find?_some h⟩
theorem cSeq_stop {L : List (Int × Int)} {n k : Nat} {O : List Int} (h : cSeq L n k = some O) (hs : cStep L n O = none) : ∀ m, cSeq L n (k + 1 + m) = none
  | 0 => by simp [cSeq, h, hs]
  | m + 1 => by
    have := cSeq_stop h hs m
    show cSeq L n ((k + 1 + m) + 1) = none
    simp [cSeq, this]
/-- what is asked for: the order, if there is one. -/
def canB (n : Int) (L : List (Int × Int)) : Option (List Int) := if gOk n L = true then cSeq L n.toNat n.toNat else none
/-- the least from j on. -/
def lsF (p : Nat → Bool) (j m : Nat) : Int := (((List.range' j m).find? p).map Int.ofNat).getD (-1)
theorem lsF_hit (p : Nat → Bool) (j m : Nat) (h : p j = true) : lsF p j (m + 1) = (j : Int) := by simp [lsF, List.range'_succ, h]
theorem lsF_miss (p : Nat → Bool) (j m : Nat) (h : p j = false) : lsF p j (m + 1) = lsF p (j + 1) m := by simp [lsF, List.range'_succ, h]
theorem lsF_none (p : Nat → Bool) (n : Nat) (h : (List.range n).find? p = none) : lsF p 0 n = -1 := by
  rw [List.range_eq_range'] at h; simp [lsF, h]
theorem lsF_some (p : Nat → Bool) (n q : Nat) (h : (List.range n).find? p = some q) : lsF p 0 n = (q : Int) := by
  rw [List.range_eq_range'] at h; simp [lsF, h]

theorem VRow.up {w : World} {B g n d : Nat} {O : List Int} (h : VRow w 0 (.slice (some ⟨g, 0, none⟩) n d) O) (hB : B ≤ g) : VRow w B (.slice (some ⟨g, 0, none⟩) n d) O := by
  refine ⟨h.1, ?_⟩
  rcases h.2 with ⟨h', _⟩ | ⟨g', cap', cur, h', hb, r⟩
  · simp at h'
  · have e := h'
    simp only [Value.slice.injEq, Option.some.injEq, Addr.mk.injEq, and_true, true_and] at h'
    obtain ⟨rfl, -⟩ := h'
    exact Or.inr ⟨_, cap', cur, e, hB, r⟩
theorem VRow.apart {w : World} {B : Nat} {v : Value} {O : List Int} (h : VRow w B v O) {m : Nat} {c : Array Value} {t : TypeId} {fr : Nat × Nat} (hb : w.heap[m]? = some (.cells c t fr)) (ht : ¬ t = 3) : ¬ v.ownBlock = some m := by
  rcases h.2 with ⟨rfl, _⟩ | ⟨g, cap, cur, rfl, _, hg, _⟩
  · simp [Value.ownBlock]
  · simp only [Value.ownBlock, Option.some.injEq]
    intro e
    subst e
    rw [hg] at hb
    simp at hb
    exact ht hb.2.1.symm
theorem Fl.blk {w : World} {B sb n : Nat} {f : Nat → Bool} (h : Fl w B sb n f) : ∃ c fr, w.heap[sb]? = some (.cells c 4 fr) := by
  rcases h.2 with ⟨h', _⟩ | ⟨g, cap, cur, h', _, hg, _⟩
  · simp at h'
  · simp only [Value.slice.injEq, Option.some.injEq, Addr.mk.injEq, and_true] at h'
    obtain ⟨rfl, -⟩ := h'
    exact ⟨cur, _, hg⟩
theorem Fl.kept {w w' : World} {B sb n : Nat} {f : Nat → Bool} {r : Option Nat} (h : Fl w B sb n f) (hg : w.grownBy w' r) (hr : ¬ r = some sb) : Fl w' B sb n f :=
  World.ownsRow.kept h hg (Or.inr (by simp [Value.ownBlock]; exact fun e => hr e.symm))
end Go.Proofs.YtigllpegaljkmaaDoor
