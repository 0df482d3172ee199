import Derived.Test.YtigllpegaljkmaaDoorG7j
import Derived.Test.YtigllpegaljkmaaDoorG9j
namespace Go.Proofs.YtigllpegaljkmaaDoor
open Go.RowKit
set_option linter.unusedVariables false
set_option linter.unusedSimpArgs false

/-- a row of flags of the call's own. -/
def Fl (w : World) (B sb n : Nat) (f : Nat → Bool) : Prop := w.ownsRow B 4 1 (.slice (some ⟨sb, 0, none⟩) n n) n ((List.range n).map fun i => Value.bool (f i))
theorem Fl.congr {w : World} {B sb n : Nat} {f g : Nat → Bool} (h : Fl w B sb n f) (e : ∀ i, i < n → f i = g i) : Fl w B sb n g := by
  unfold Fl at h ⊢
  rw [List.map_congr_left (g := fun i => Value.bool (f i)) (fun i hi => by rw [e i (by simpa using hi)])]
  exact h
theorem Fl.new {w : World} {B sb n : Nat} (h : w.ownsRow B 4 1 (.slice (some ⟨sb, 0, none⟩) n n) n (List.replicate n (.bool false))) : Fl w B sb n fun _ => false := by
  unfold Fl
  rw [List.map_const', List.length_range]; exact h
theorem Fl.cell {w : World} {B sb n : Nat} {f : Nat → Bool} (h : Fl w B sb n f) {p : Nat} (hp : p < n) : w.cell? ⟨sb, p, none⟩ = some (.bool (f p)) ∧ w.frozen? ⟨sb, p, none⟩ = false := by
  refine ⟨?_, World.ownsRow.frozenAt h p⟩
  rw [World.ownsRow.cellAt h p (by omega)]
  simp [hp]
theorem Fl.set {w : World} {B sb n : Nat} {f : Nat → Bool} (h : Fl w B sb n f) {p : Nat} (hp : p < n) (b : Bool) : Fl (w.setCell ⟨sb, p, none⟩ (.bool b)) B sb n fun i => if i = p then b else f i := by
  have := (World.ownsRow.stored h p (.bool b)).1
  unfold Fl
  have e : ((List.range n).map fun i => Value.bool (f i)).set p (.bool b) = (List.range n).map fun i => Value.bool (if i = p then b else f i) := by
    apply List.ext_getElem?
    intro j
    rw [List.getElem?_set]
    by_cases hj : j < n
    · by_cases e : p = j
      · subst e; simp [hp]
      · simp [e, hj, Ne.symm e]
    · by_cases e : p = j
      · subst e; omega
      · simp [e, hj]
  rw [← e]; exact this
theorem Fl.lt {w : World} {B sb n : Nat} {f : Nat → Bool} (h : Fl w B sb n f) : B ≤ sb ∧ sb < w.heap.size := World.ownsRow.lt h sb rfl
theorem Fl.later {w w' : World} {B sb n : Nat} {f : Nat → Bool} (h : Fl w B sb n f) (hb : Below w.heap.size w w') : Fl w' B sb n f := by
  refine World.ownsRow.kept h (grown_of_below hb) (Or.inr (by simp [Value.ownBlock]))
theorem Fl.other {w : World} {B sb n : Nat} {f : Nat → Bool} (h : Fl w B sb n f) {m : Nat} (hm : ¬ sb = m) (o : Nat) (u : Value) : Fl (w.setCell ⟨m, o, none⟩ u) B sb n f := by
  refine ⟨h.1, ?_⟩
  rcases h.2 with h' | ⟨g, cap, cur, h', hB, hg, r⟩
  · exact Or.inl h'
  · simp only [Value.slice.injEq, Option.some.injEq, Addr.mk.injEq, and_true, true_and] at h'
    obtain ⟨rfl, rfl⟩ := h'
    exact Or.inr ⟨_, _, cur, rfl, hB, by rw [Below.heap_setCell _ _ _ _ hm]; exact hg, r⟩

/-- all ends of edges lie below n. -/
def Inn (n : Nat) (L : List (Int × Int)) : Prop := ∀ e ∈ L, (0 ≤ e.1 ∧ e.1 < n) ∧ 0 ≤ e.2 ∧ e.2 < n
theorem Inn.sup {n : Nat} {L : List (Int × Int)} (h : Inn n L) : Sup (eR L) n := by
  intro i j hij
  have := h _ (of_decide_eq_true hij)
  simp at this; omega
/-- who can be come to from f by one of the edges. -/
def nxt (L : List (Int × Int)) (f : Nat → Bool) (y : Nat) : Bool := L.any fun e => f e.1.toNat && decide (e.2 = (y : Int))
theorem nxt_rch {n : Nat} {L : List (Int × Int)} (h : Inn n L) (a d y : Nat) : nxt L (rch (eR L) n a d) y = rch (eR L) n a (d + 1) y := by
  rw [Bool.eq_iff_iff]
  simp only [nxt, rch, List.any_eq_true, Bool.and_eq_true, decide_eq_true_eq, List.mem_range, eR]
  constructor
  · rintro ⟨⟨p, q⟩, he, h1, h2⟩
    have := h _ he
    simp at this h1 h2
    subst h2
    refine ⟨p.toNat, by omega, h1, ?_⟩
    rw [show ((p.toNat : Nat) : Int) = p by omega]; exact he
  · rintro ⟨x, _, h1, h2⟩
    exact ⟨_, h2, by simpa using h1, rfl⟩
theorem nxt_snoc (L : List (Int × Int)) (f : Nat → Bool) (p q y : Nat) : nxt (L ++ [((p : Int), (q : Int))]) f y = (nxt L f y || (f p && decide (y = q))) := by
  unfold nxt
  rw [List.any_append]
  simp only [List.any_cons, List.any_nil, Bool.or_false, Int.toNat_natCast]
  have : decide (((q : Nat) : Int) = (y : Int)) = decide (y = q) := by simp; omega
  rw [this]

set_option maxHeartbeats 4000000 in
theorem l14Way_any (n a b : Nat) (s : Option Addr) (c : Nat) (L : List (Int × Int)) (w : World) (hL : Eds w s L) (hl : L.length ≤ 1048576) (hin : Inn n L) (hn : n ≤ 16) (ha : a < n) (hb0 : b < n) :
    Calls Tryd.prog 28 #[.int .i64 n, .slice s L.length c, .int .i64 a, .int .i64 b] w fun e w' => e = .returned (.int .i64 (wayF (eR L) n a b)) ∧ Below w.heap.size w w' := by
  have HL : Hid (Eds w s L) := hL
  have HI : Hid (Inn n L) := hin
  clear hL hin
  obtain ⟨i0, hi, hz0, hz1, hz2⟩ := info_parts Tryd.infoB
  have hz2' : i0.bytes ≤ 1 := by omega
  go_enter Tryd.func28, Tryd.ntmps28
  go_wp2_with (at_make; refine wpList_make_full _ rfl _ _ 58 rfl w.heap.size 4 i0 (.bool false) 1 Tryd.underlying58 hi hz0 hz1 .i64 .i64 _ _ n rfl rfl rfl rfl (by rw [hz2]; omega) (by unfold maxLen; omega) (Nat.le_refl _) ?_)
  intro w1 hown hgrow
  have hf : Fl w1 w.heap.size w.heap.size n fun _ => false := by
    rw [toList_madeCells_one] at hown
    exact Fl.new hown
  have hbel : Below w.heap.size w w1 := (Below.refl _ w).grown hgrow (Nat.le_refl _) (fun k h => by cases h)
  clear hown hgrow
  obtain ⟨c1, f1⟩ := hf.cell ha
  have hf2 : Hid (Fl (w1.setCell ⟨w.heap.size, a, none⟩ (.bool true)) w.heap.size w.heap.size n (rch (eR L) n a 0)) := (hf.set ha true).congr fun i hi => by unfold rch; by_cases e : i = a <;> simp [e]
  have hb2 : Hid (Below w.heap.size w (w1.setCell ⟨w.heap.size, a, none⟩ (.bool true))) := hbel.setCell (Nat.le_refl _) _
  clear hf hbel
  go_wp2_with fail
  generalize w1.setCell ⟨w.heap.size, a, none⟩ (.bool true) = X at hf2 hb2 ⊢
  clear c1 f1
  go_loopw [9, 10] (fun av dv wr => ∃ k sb : Nat, k ≤ n ∧ dv = .int .i64 ((k : Int) + 1) ∧ av = .slice (some ⟨sb, 0, none⟩) n n ∧ Hid (Fl wr w.heap.size sb n (rch (eR L) n a k)) ∧ Hid (∀ e, e < k → rch (eR L) n a (e + 1) b = false) ∧ Hid (Below w.heap.size w wr)) (fun _ dv _ => n + 1 - (intOf dv).toNat)
  case atStart => exact ⟨0, w.heap.size, Nat.zero_le _, rfl, rfl, hf2, fun e he => absurd he (by omega), hb2⟩
  case round =>
    clear hf2 hb2
    obtain ⟨k, sb, hk, rfl, rfl, hf, hno, hb⟩ := hrel
    by_cases hlt : k < n
    · have t0 : decide ((k : Int) + 1 ≤ (n : Int)) = true := by simp; omega
      have t1 : (k : Int) + 1 ≤ (n : Int) := by omega
      go_wp2_with (at_make; refine wpList_make_full _ rfl _ _ 58 rfl w.heap.size 4 i0 (.bool false) 1 Tryd.underlying58 hi hz0 hz1 .i64 .i64 _ _ n rfl rfl rfl rfl (by rw [hz2]; omega) (by unfold maxLen; omega) hb.out.size ?_)
      intro w2 hown hgrow
      obtain ⟨nb', hnb⟩ : ∃ q, Hid (q = wr.heap.size) := ⟨_, rfl⟩
      have m12 : Below wr.heap.size wr w2 := (Below.refl _ wr).grown hgrow (Nat.le_refl _) (fun k h => by cases h)
      rw [← hnb.out] at hown ⊢
      have hg : Hid (Fl w2 w.heap.size nb' n (nxt (L.take 0) (rch (eR L) n a k))) := by
        rw [toList_madeCells_one] at hown
        exact (Fl.new hown).congr fun i _ => by simp [nxt]
      have hne : Hid (sb < nb') := by rw [hnb.out]; exact hf.out.lt.2
      have hf : Hid (Fl w2 w.heap.size sb n (rch (eR L) n a k)) := hf.out.later m12
      have hb : Hid (Below w.heap.size w w2) := bl_trans hb.out m12
      clear hown hgrow m12 hnb
      go_wp2_with fail
      go_loopw [12] (fun i wr => ∃ m : Nat, m ≤ L.length ∧ i = .int .i64 m ∧ Hid (Fl wr w.heap.size nb' n (nxt (L.take m) (rch (eR L) n a k))) ∧ Hid (Fl wr w.heap.size sb n (rch (eR L) n a k)) ∧ Hid (Below w.heap.size w wr)) (fun i _ => L.length - (intOf i).toNat)
      case atStart => exact ⟨0, Nat.zero_le _, rfl, hg, hf, hb⟩
      case round =>
        clear hg hf hb
        obtain ⟨m, hm, rfl, hg, hf, hb⟩ := hrel
        by_cases hml : m < L.length
        · obtain ⟨gb, o, rfl, hp, e1, e2⟩ := (HL.out.later hb.out).get hml
          obtain ⟨⟨p1, p2⟩, hx⟩ : ∃ x, Hid (L[m]?.getD (0, 0) = x) := ⟨_, rfl⟩
          have hi' := HI.out _ (memE hml)
          rw [hx.out] at e1 e2 hi'
          obtain ⟨⟨i1, i2⟩, i3, i4⟩ := hi'
          obtain ⟨q1, rfl⟩ : ∃ q : Nat, p1 = (q : Int) := ⟨p1.toNat, by simp at i1; omega⟩
          obtain ⟨q2, rfl⟩ : ∃ q : Nat, p2 = (q : Int) := ⟨p2.toNat, by simp at i3; omega⟩
          have h1 : q1 < n := by simp at i2; omega
          have h2 : q2 < n := by simp at i4; omega
          clear i1 i2 i3 i4
          have HS : Hid (∀ y, nxt (L.take (m + 1)) (rch (eR L) n a k) y = (nxt (L.take m) (rch (eR L) n a k) y || (rch (eR L) n a k q1 && decide (y = q2)))) := by
            intro y
            rw [takeE_succ L m hml, hx.out]; exact nxt_snoc _ _ _ _ _
          obtain ⟨c1, f1⟩ := hf.out.cell h1
          obtain ⟨c2, f2⟩ := hg.out.cell h2
          cases hq : rch (eR L) n a k q1
          · rw [hq] at c1
            have hg' : Hid (Fl wr w.heap.size nb' n (nxt (L.take (m + 1)) (rch (eR L) n a k))) := hg.out.congr fun i _ => by rw [HS.out i, hq]; simp
            go_wp2_with fail
            go_roundw
            case rel => exact ⟨m + 1, by omega, by go_num, hg', hf, hb⟩
            case measure => simp [intOf]; omega
          · rw [hq] at c1
            obtain ⟨bo, hbo⟩ : ∃ z, Hid (nxt (L.take m) (rch (eR L) n a k) q2 = z) := ⟨_, rfl⟩
            rw [hbo.out] at c2
            have hg' : Hid (Fl (wr.setCell ⟨nb', q2, none⟩ (.bool true)) w.heap.size nb' n (nxt (L.take (m + 1)) (rch (eR L) n a k))) := (hg.out.set h2 true).congr fun i _ => by
              rw [HS.out i, hq]
              by_cases e : i = q2 <;> simp [e]
            have hf' : Hid (Fl (wr.setCell ⟨nb', q2, none⟩ (.bool true)) w.heap.size sb n (rch (eR L) n a k)) := hf.out.other (by have := hne.out; omega) _ _
            have hb' : Hid (Below w.heap.size w (wr.setCell ⟨nb', q2, none⟩ (.bool true))) := hb.out.setCell hg.out.lt.1 _
            go_wp2_with fail
            go_roundw
            case rel => exact ⟨m + 1, by omega, by go_num, hg', hf', hb'⟩
            case measure => simp [intOf]; omega
        · have hg : Hid (Fl wr w.heap.size nb' n (rch (eR L) n a (k + 1))) := by
            have := hg.out
            rw [List.take_of_length_le (by omega)] at this
            exact this.congr fun i _ => nxt_rch HI.out a k i
          obtain ⟨c1, f1⟩ := hg.out.cell hb0
          cases hq : rch (eR L) n a (k + 1) b
          · rw [hq] at c1
            have hno' : Hid (∀ e, e < k + 1 → rch (eR L) n a (e + 1) b = false) := by
              intro e he
              by_cases e' : e < k
              · exact hno.out e e'
              · have : e = k := by omega
                subst this; exact hq
            go_wp2_with fail
            go_roundw
            case rel => exact ⟨k + 1, nb', by omega, by go_num, rfl, hg, hno', hb⟩
            case measure => simp [intOf]; omega
          · rw [hq] at c1
            have hw : Hid (wayF (eR L) n a b = k + 1) := wayF_some hlt hq hno.out
            go_wp2_with fail
            go_ret
            refine ⟨?_, hb.out⟩
            rw [hw.out]; rfl
    · have hw : Hid (wayF (eR L) n a b = 0) := wayF_none fun d hd => hno.out d (by omega)
      have t0 : decide ((k : Int) + 1 ≤ (n : Int)) = false := by simp; omega
      go_wp2_with fail
      go_ret
      refine ⟨?_, hb.out⟩
      rw [hw.out]; rfl
end Go.Proofs.YtigllpegaljkmaaDoor
