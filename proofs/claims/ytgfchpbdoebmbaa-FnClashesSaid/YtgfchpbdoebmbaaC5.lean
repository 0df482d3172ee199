import Derived.Test.YtgfchpbdoebmbaaC3
import Derived.Test.YtgfchpbdoebmbaaC4
import Derived.Test.YtgfchpbdoebmbaaAh
namespace Go.Proofs
open Go.Shelf
shelf_lay_g Lays8.n4 Nm8 4 at Try 41 as Try.laysGrowK
end Go.Proofs
namespace Go.Proofs.Ytgfchpbdoebmbaa
open Go.RowKit
set_option linter.unusedVariables false
set_option linter.unusedSimpArgs false

theorem KRow.cap {w : World} {B : Nat} {s : Option Addr} {n c : Nat} {L : List (Int × Int)} (h : KRow w B (.slice s n c) L) : n ≤ c := by
  obtain ⟨h1, h2⟩ := h
  rcases h2 with ⟨h2, h3⟩ | ⟨g, cap, cur, e, hb, hg, hc, _⟩
  · cases h2; exact Nat.le_refl _
  · cases e; omega
theorem KRow.els {w : World} {B : Nat} {s : Option Addr} {c : Nat} {L : List (Int × Int)} (h : KRow w B (.slice s L.length c) L) : Els 2 cEnt w B s L := by
  rcases h.form with ⟨e, rfl⟩ | ⟨g, cap, e, h1, h2, h3⟩
  · exact Els.nil
  · simp only [Value.slice.injEq, true_and] at e
    obtain ⟨rfl, rfl⟩ := e
    refine Or.inr ⟨g, 0, rfl, h1, h2, fun j p hp => ⟨[.int .i64 p.1, .int .i64 p.2], rfl, fun i u hu => ?_, rfl⟩, fun _ j => World.ownsRow.frozenAt h j⟩
    obtain ⟨q1, q2, _, _⟩ := h3 j p hp
    have hi : i < 2 := by have := (List.getElem?_eq_some_iff.1 hu).1; simpa using this
    match i, hi, hu with
    | 0, _, hu => simp at hu; subst hu; rw [show 0 + j * 2 + 0 = 2 * j by omega]; exact q1
    | 1, _, hu => simp at hu; subst hu; rw [show 0 + j * 2 + 1 = 2 * j + 1 by omega]; exact q2
theorem run_append_noneK (w : World) (ty : TypeId) (b : Option Addr) (l c d : Nat) (h : l ≤ c) : (Builtin.append_ #[26, 26] ty #[.slice b l c, .slice none 0 d]).run Try.prog w = .ok (.slice b l c) w := by
  obtain ⟨i0, hi, hz0, hz1, hz2⟩ := info_parts Try.infoClash
  cases b with
  | none => simp [Builtin.append_, run_underlying Try.underlying26, sizeOf, typeInfo, hi, Builtin.lenOf, h, run_firstCells_none]
  | some a => simp [Builtin.append_, run_underlying Try.underlying26, sizeOf, typeInfo, hi, Builtin.lenOf, h, run_firstCells_none, storeCells]
def NearK (w : World) (v v' : Value) : Prop := ∀ g, v'.ownBlock = some g → v.ownBlock = some g ∨ g = w.heap.size
theorem append_clashes (w : World) (ty : TypeId) (Bs : Nat) (s : Option Addr) (c : Nat) (L : List (Int × Int)) (hv : KRow w Bs (.slice s L.length c) L) (B0 : Nat) (t : Option Addr) (d : Nat) (M : List (Int × Int)) (hM : Els 2 cEnt w B0 t M) (hl : L.length + M.length ≤ 4398046511104) (hB : Bs ≤ w.heap.size) :
    ∃ s' c' w', (Builtin.append_ #[26, 26] ty #[.slice s L.length c, .slice t M.length d]).run Try.prog w = .ok (.slice s' (L ++ M).length c') w' ∧ KRow w' Bs (.slice s' (L ++ M).length c') (L ++ M) ∧ w.grownBy w' (Value.slice s L.length c).ownBlock ∧ NearK w (.slice s L.length c) (.slice s' (L ++ M).length c') := by
  have hnone : t = none → M = [] := by
    rintro rfl
    rcases hM with h | ⟨b, o, e, _⟩
    · exact h
    · cases e
  cases t with
  | none =>
    have := hnone rfl
    subst this
    refine ⟨s, c, w, ?_, ?_, grown_refl _ _, ?_⟩
    · rw [List.append_nil]; exact run_append_noneK w ty s L.length c d hv.cap
    · rw [List.append_nil]; exact hv
    · intro g hg; rw [List.append_nil] at hg; exact Or.inl hg
  | some a =>
    obtain ⟨i0, hi, hz0, hz1, hz2⟩ := info_parts Try.infoClash
    have hnews : ∀ j u, (ecells M)[j]? = some u → w.cell? (a.add j) = some u := by
      intro j u hu
      have hj : j < M.length * 2 := by have := (List.getElem?_eq_some_iff.1 hu).1; rw [ecells_len] at this; exact this
      rcases hM with h | ⟨b, o, e, _, _, h3, _⟩
      · subst h; simp at hj
      · cases e
        obtain ⟨p, hp⟩ := get_some (L := M) (k := j / 2) (by omega)
        obtain ⟨cs, e1, e2, e3⟩ := h3 (j / 2) p hp
        have e3 : cs = [.int .i64 p.1, .int .i64 p.2] := e3
        subst e3
        obtain ⟨g1, g2⟩ := ecells_get M (j / 2) p hp
        rw [Go.WideShapes.add_plain]
        by_cases hm : j % 2 = 0
        · rw [show 2 * (j / 2) = j by omega, hu] at g1
          cases g1
          have := e2 0 _ rfl
          rw [show o + j / 2 * 2 + 0 = o + j by omega] at this
          exact this
        · rw [show 2 * (j / 2) + 1 = j by omega, hu] at g2
          cases g2
          have := e2 1 _ rfl
          rw [show o + j / 2 * 2 + 1 = o + j by omega] at this
          exact this
    obtain ⟨v', w', hrun, h2, h3, _, h5⟩ := run_append_own_at (P := Try.prog) w Bs 26 ty 42 i0 (.agg #[.int .i64 0, .int .i64 0]) 2 16 Try.underlying26 hi hz0 hz1 hz2 rfl (by decide) (.slice s L.length c) L.length (ecells L) hv a M.length d (ecells M) (ecells_len M) hnews (by intro u hu; unfold ecells at hu; obtain ⟨x, _, hx⟩ := List.mem_flatMap.1 hu; simp at hx; rcases hx with rfl | rfl <;> rfl) (by unfold maxLen; omega) (by omega) hB
    have hO : KRow w' Bs v' (L ++ M) := by
      unfold KRow
      rw [List.length_append, ecells_app]
      exact h2
    obtain ⟨s', c', rfl⟩ := hO.shape
    refine ⟨s', c', w', hrun, hO, h3, ?_⟩
    intro q hq
    rcases h5 with h5 | h5
    · left; rw [← h5]; exact hq
    · right; rw [h5] at hq; cases hq; rfl
theorem wpList_append_clashes {w : World} {ops : Array Oper} {rest : List Oper} {o : Oper} {a : Act} {Q : Exit → Act → World → Prop}
    (hgd : o.guard = none) (s x : Operand) (hop : o.op = Op.call { callee := Callee.builtin Builtin.append, args := #[s, x], argTypes := #[26, 26] })
    (Bs : Nat) (s0 : Option Addr) (c0 : Nat) (L : List (Int × Int)) (hs : a.eval s = .slice s0 L.length c0) (hv : KRow w Bs (.slice s0 L.length c0) L) (B0 : Nat) (t : Option Addr) (d : Nat) (M : List (Int × Int)) (hx : a.eval x = .slice t M.length d) (hM : Els 2 cEnt w B0 t M) (R : List (Int × Int)) (hR : L ++ M = R) (hl : L.length + M.length ≤ 4398046511104) (hB : Bs ≤ w.heap.size)
    (h : ∀ s' c' w', KRow w' Bs (.slice s' R.length c') R → w.grownBy w' (Value.slice s0 L.length c0).ownBlock → NearK w (.slice s0 L.length c0) (.slice s' R.length c') → wpList Try.prog ops Q rest (a.put o.dst (.slice s' R.length c')) w') :
    wpList Try.prog ops Q (o :: rest) a w := by
  refine wpList_plain hgd fun K hK => ?_
  obtain ⟨s', c', w', hrun, h1, h2, h3⟩ := append_clashes w o.type Bs s0 c0 L hv B0 t d M hM hl hB
  rw [hR] at hrun h1 h3
  unfold Oper.wp
  simp [execOp, hop, resolve, invoke, builtin, hs, hx, hrun, Result.andThen]
  exact hK _ _ (h s' c' w' h1 h2 h3)
/-- a list of lists of clashes, in memory. -/
def cKs (w : World) (B : Nat) (cs : List Value) (L : List (Int × Int)) : Prop := ∃ s c, cs = [.slice s L.length c] ∧ Els 2 cEnt w B s L
theorem cKs_keeps : KeepsE cKs := fun _ _ _ _ _ hk ⟨s, c, e, h⟩ => ⟨s, c, e, h.kept cEnt_keeps hk⟩
theorem cKs_drops : DropsE cKs := fun _ _ _ _ _ hB ⟨s, c, e, h⟩ => ⟨s, c, e, h.drop cEnt_drops hB⟩
theorem eKs_cells {w : World} {B : Nat} {s : Option Addr} {L : List (List (Int × Int))} (h : Els 1 cKs w B s L) {j : Nat} {a : List (Int × Int)} (ha : L[j]? = some a) :
    ∃ b o, s = some ⟨b, o, none⟩ ∧ B ≤ b ∧ b < w.heap.size ∧ ∃ s' c', w.cell? ⟨b, o + j, none⟩ = some (.slice s' a.length c') ∧ Els 2 cEnt w B s' a := by
  rcases h with rfl | ⟨b, o, rfl, h1, h2, h3, hz⟩
  · simp at ha
  · obtain ⟨cs, e1, e2, s', c', rfl, e4⟩ := h3 j a ha
    exact ⟨b, o, rfl, h1, h2, s', c', by simpa using e2 0 _ rfl, e4⟩
/-- how many there are in the first k lists. -/
def totK (Ls : List (List (Int × Int))) (k : Nat) : Nat := (Ls.take k).flatten.length
theorem flatK_succ {Ls : List (List (Int × Int))} {k : Nat} {a : List (Int × Int)} (h : Ls[k]? = some a) : (Ls.take (k + 1)).flatten = (Ls.take k).flatten ++ a := by
  rw [List.take_add_one, h]; simp
theorem totK_succ {Ls : List (List (Int × Int))} {k : Nat} {a : List (Int × Int)} (h : Ls[k]? = some a) : totK Ls (k + 1) = totK Ls k + a.length := by
  unfold totK; rw [flatK_succ h]; simp
theorem totK_le (Ls : List (List (Int × Int))) (k : Nat) : totK Ls k ≤ Ls.flatten.length := by
  unfold totK
  rw [show Ls.flatten.length = ((Ls.take k).flatten ++ (Ls.drop k).flatten).length by rw [← List.flatten_append, List.take_append_drop]]
  simp

theorem grow_nilK (n : Nat) (w : World) (hn : n ≤ 1099511627776) :
    Calls Try.prog 41 #[.slice none 0 0, .int .i64 n] w fun e w' => ∃ s c, e = .returned (.slice s 0 c) ∧ KRow w' w.heap.size (.slice s 0 c) [] ∧ Below w.heap.size w w' := by
  by_cases h0 : n = 0
  · subst h0
    refine (Any8.slices_Grow_room Try.laysGrowK none 0 0 0 w (by omega) (by omega) (by omega) (by omega)).mono ?_
    rintro e w' ⟨rfl, rfl⟩
    exact ⟨none, 0, rfl, KRow.nil _ _, Below.refl _ _⟩
  · obtain ⟨i0, hi, hz0, hz1, hz2⟩ := info_parts Try.infoClash
    refine (Any8.slices_Grow_grow Try.laysGrowK i0 (.agg #[.int .i64 0, .int .i64 0]) hi hz0 (by omega) none 0 0 n [] w (by omega) (by omega) (by rw [hz2]; omega) (by omega) (by simp) (fun _ => rfl) (fun a h => by cases h)).mono ?_
    rintro e w' ⟨rfl, rfl⟩
    have hG := grownCap_ge w (0 + n) 0 42
    have hm := grownCap_le_maxLen w (0 + n) 0 42 (by unfold maxLen; omega)
    have hG' : 0 + n ≤ grownCap w (0 + n) 0 (Try.laysGrowK_ren.t 25) := hG
    generalize hg : grownCap w (0 + n) 0 (Try.laysGrowK_ren.t 25) = G at hG' ⊢
    have hm : G ≤ maxLen := by rw [← hg]; exact hm
    clear hg hG
    refine ⟨some ⟨w.heap.size, 0, none⟩, G, rfl, ⟨rfl, Or.inr ⟨w.heap.size, G, _, rfl, Nat.le_refl _, heap_alloc_new w.drew _, Nat.zero_le _, hm, ?_, by simp [ecells]⟩⟩, bl_alloc (bl_drew (Below.refl _ _)) _⟩
    simp [Builtin.zeroCells, Value.cells]
    omega

set_option maxRecDepth 100000 in
set_option maxHeartbeats 4000000 in
theorem concatK_any (s : Option Addr) (c : Nat) (Ls : List (List (Int × Int))) (B : Nat) (w : World) (hL : Els 1 cKs w B s Ls) (hl : Ls.length ≤ 1048576) (ht : Ls.flatten.length ≤ 1099511627776) :
    Calls Try.prog 26 #[.slice s Ls.length c] w fun e w' => (∃ s' c' R, e = .returned (.slice s' (List.length (α := Int × Int) R) c') ∧ KRow w' w.heap.size (.slice s' R.length c') R ∧ R = Ls.flatten) ∧ Below w.heap.size w w' := by
  have HL : Hid (Els 1 cKs w B s Ls) := hL
  have HT : Hid (∀ k, totK Ls k ≤ 1099511627776) := fun k => by have := totK_le Ls k; omega
  clear hL ht
  go_enter Try.func26, Try.ntmps26
  go_wp2_with fail
  go_loopw [3, 11] (fun z i wr => ∃ k : Nat, k ≤ Ls.length ∧ i = .int .i64 k ∧ z = .int .i64 (totK Ls k : Nat) ∧ Hid (Below w.heap.size w wr)) (fun _ i _ => Ls.length - (intOf i).toNat)
  case atStart => exact ⟨0, Nat.zero_le _, rfl, by simp [totK], Below.refl _ _⟩
  case round =>
    obtain ⟨k, hk, rfl, rfl, hb⟩ := hrel
    by_cases hlt : k < Ls.length
    · obtain ⟨a, ha⟩ := get_some hlt
      obtain ⟨b1, o1, rfl, _, hp1, s1, c1, x1, hE⟩ := eKs_cells (HL.out.later cKs_keeps hb.out) ha
      have h1 := HT.out k
      have h2 := HT.out (k + 1)
      have h3 := totK_succ ha
      rw [h3] at h2
      have HS : Hid (totK Ls (k + 1) = totK Ls k + a.length) := h3
      clear h3 hE ha
      generalize totK Ls k = m at h1 h2 HS ⊢
      have hw : IntKind.i64.wrap ((m : Int) + (a.length : Int)) = (m : Int) + (a.length : Int) := by rw [IntKind.wrap_i64]; omega
      have hd : decide ((m : Int) + (a.length : Int) < 0) = false := by simp; omega
      go_wp2_with fail
      go_roundw
      case rel => exact ⟨k + 1, by omega, by go_num, by rw [HS.out]; simp, hb⟩
      case measure => simp [intOf]; omega
    · have h1 := HT.out k
      generalize totK Ls k = m at h1 ⊢
      go_wp2_with fail
      refine (grow_nilK m _ h1).mono ?_
      rintro e w1 ⟨s1, c1, rfl, hO, hb1⟩
      have HO : Hid (KRow w1 w.heap.size (.slice s1 0 c1) []) := hO.mono hb.out.size
      have HB : Hid (Below w.heap.size w w1) := bl_trans hb.out hb1
      clear hO hb1 hb hlt hk h1
      go_wp2_with fail
      go_loopw [6, 27] (fun v i wr => ∃ (k : Nat) (s9 : Option Addr) (c9 : Nat) (R : List (Int × Int)), k ≤ Ls.length ∧ i = .int .i64 k ∧ v = .slice s9 R.length c9 ∧ Hid (R = (Ls.take k).flatten) ∧ Hid (KRow wr w.heap.size (.slice s9 R.length c9) R) ∧ Hid (Below w.heap.size w wr)) (fun _ i _ => Ls.length - (intOf i).toNat)
      case atStart => exact ⟨0, s1, c1, [], Nat.zero_le _, rfl, rfl, (by simp [Hid]), HO, HB⟩
      case round =>
        clear HO HB
        obtain ⟨k, s9, c9, R, hk, rfl, rfl, hR, hO, hb⟩ := hrel
        by_cases hlt : k < Ls.length
        · obtain ⟨a, ha⟩ := get_some hlt
          obtain ⟨b1, o1, rfl, _, hp1, s2, c2, x1, hE⟩ := eKs_cells (HL.out.later cKs_keeps hb.out) ha
          have h2 := HT.out (k + 1)
          rw [totK_succ ha] at h2
          have h3 : totK Ls k = R.length := by unfold totK; rw [← hR.out]
          rw [h3] at h2
          have E2 : Hid (Els 2 cEnt wr B s2 a) := hE
          obtain ⟨R3, hR3⟩ : ∃ R3, Hid (R ++ a = R3) := ⟨_, (rfl : R ++ a = _)⟩
          have HS3 : Hid (R3 = (Ls.take (k + 1)).flatten) := by show R3 = _; rw [flatK_succ ha, ← hR3.out, ← hR.out]
          clear hE ha h3 hR
          go_wp2_with (at_builtin; refine wpList_append_clashes rfl _ _ rfl w.heap.size s9 c9 R rfl hO.out B s2 c2 a rfl E2.out R3 hR3.out (by omega) hb.out.size ?_; intro s' c' w4 hO4 hg4 hn4)
          have hO4 : Hid (KRow w4 w.heap.size (.slice s' R3.length c') R3) := hO4
          have hb4 : Hid (Below w.heap.size w w4) := grown_k hb.out hb.out.size hO.out hg4
          clear hg4 hn4 hO E2 hb
          go_wp2_with fail
          go_roundw
          case rel => exact ⟨k + 1, s', c', R3, by omega, by go_num, rfl, HS3, hO4, hb4⟩
          case measure => simp [intOf]; omega
        · have HE : Hid (R = Ls.flatten) := by show R = _; rw [hR.out, List.take_of_length_le (by omega)]
          clear hR
          go_wp2_with fail
          go_ret
          exact ⟨⟨s9, c9, R, rfl, hO.out, HE.out⟩, hb.out⟩


/-- a block of lists, as a list of lists. -/
theorem els_blk {α : Type} {E : World → Nat → List Value → α → Prop} {w : World} {b : Nat} {cs : Array Value} {t : TypeId} {L : List α} (h : Blk w b cs t) (hE : ∀ (j : Nat) a, L[j]? = some a → ∃ v, cs[j]? = some v ∧ E w 0 [v] a) : Els 1 E w 0 (some ⟨b, 0, none⟩) L := by
  refine Or.inr ⟨b, 0, rfl, Nat.zero_le _, h.lt, fun j a ha => ?_, fun q => by omega⟩
  obtain ⟨v, hv, he⟩ := hE j a ha
  refine ⟨[v], rfl, fun i u hu => ?_, he⟩
  have hi : i = 0 := by have := (List.getElem?_eq_some_iff.1 hu).1; simp at this; exact this
  subst hi
  simp at hu
  subst hu
  have hh : w.cell? ⟨b, j, none⟩ = cs[j]? := cell_of_row w b j cs t (0, 0) h
  rw [show 0 + j * 1 + 0 = j by omega, hh, hv]
theorem threeI {w : World} {b : Nat} {s0 s1 s2 : Option Addr} {c0 c1 c2 : Nat} {A0 A1 A2 : List Int} {t : TypeId} (h : Blk w b #[.slice s0 A0.length c0, .slice s1 A1.length c1, .slice s2 A2.length c2] t) (h0 : Els 1 cInt w 0 s0 A0) (h1 : Els 1 cInt w 0 s1 A1) (h2 : Els 1 cInt w 0 s2 A2) : Els 1 cIs w 0 (some ⟨b, 0, none⟩) [A0, A1, A2] := by
  refine els_blk h fun j a ha => ?_
  match j, ha with
  | 0, ha => simp at ha; subst ha; exact ⟨_, rfl, _, _, rfl, h0⟩
  | 1, ha => simp at ha; subst ha; exact ⟨_, rfl, _, _, rfl, h1⟩
  | 2, ha => simp at ha; subst ha; exact ⟨_, rfl, _, _, rfl, h2⟩
theorem threeK {w : World} {b : Nat} {s0 s1 s2 : Option Addr} {c0 c1 c2 : Nat} {A0 A1 A2 : List (Int × Int)} {t : TypeId} (h : Blk w b #[.slice s0 A0.length c0, .slice s1 A1.length c1, .slice s2 A2.length c2] t) (h0 : Els 2 cEnt w 0 s0 A0) (h1 : Els 2 cEnt w 0 s1 A1) (h2 : Els 2 cEnt w 0 s2 A2) : Els 1 cKs w 0 (some ⟨b, 0, none⟩) [A0, A1, A2] := by
  refine els_blk h fun j a ha => ?_
  match j, ha with
  | 0, ha => simp at ha; subst ha; exact ⟨_, rfl, _, _, rfl, h0⟩
  | 1, ha => simp at ha; subst ha; exact ⟨_, rfl, _, _, rfl, h1⟩
  | 2, ha => simp at ha; subst ha; exact ⟨_, rfl, _, _, rfl, h2⟩
theorem twoK {w : World} {b : Nat} {s0 s1 : Option Addr} {c0 c1 : Nat} {A0 A1 : List (Int × Int)} {t : TypeId} (h : Blk w b #[.slice s0 A0.length c0, .slice s1 A1.length c1] t) (h0 : Els 2 cEnt w 0 s0 A0) (h1 : Els 2 cEnt w 0 s1 A1) : Els 1 cKs w 0 (some ⟨b, 0, none⟩) [A0, A1] := by
  refine els_blk h fun j a ha => ?_
  match j, ha with
  | 0, ha => simp at ha; subst ha; exact ⟨_, rfl, _, _, rfl, h0⟩
  | 1, ha => simp at ha; subst ha; exact ⟨_, rfl, _, _, rfl, h1⟩

set_option maxRecDepth 100000 in
set_option maxHeartbeats 4000000 in
theorem cloneI_any (s : Option Addr) (c : Nat) (L : List Int) (B : Nat) (w : World) (hL : Els 1 cInt w B s L) (hl : L.length ≤ 1099511627776) :
    Calls Try.prog 47 #[.slice s L.length c] w fun e w' => (∃ s' c', e = .returned (.slice s' L.length c') ∧ OI w' w.heap.size (.slice s' L.length c') L) ∧ Below w.heap.size w w' := by
  have q22 : ∀ (w : World) (a : Option Addr) (n c n' c' : Nat), (binOp .eql 22 (.slice a n c) (.slice none n' c')).run Try.prog w = .ok (.bool a.isNone) w := fun w a n c n' c' => Lib.run_eql_slice_nil w _ _ a n c n' c' Try.underlying22
  cases s with
  | none =>
    have h0 : L = [] := by
      rcases hL with h | ⟨b, o, e, _⟩
      · exact h
      · cases e
    subst h0
    go_enter Try.func47, Try.ntmps47
    go_wp2_with fail
    go_ret
    exact ⟨⟨none, 0, rfl, OI.nil _ _⟩, Below.refl _ _⟩
  | some a =>
    have hb0 : Hid (Below w.heap.size w (w.alloc (.cells #[] 3))) := bl_alloc (Below.refl _ _) _
    have hO0 : Hid (OI (w.alloc (.cells #[] 3)) w.heap.size (.slice (some ⟨w.heap.size, 0, none⟩) 0 0) []) := OI.empty (Blk.new w #[] 3)
    have EA : Hid (Els 1 cInt (w.alloc (.cells #[] 3)) B (some a) L) := hL.later cInt_keeps hb0.out
    clear hL
    go_enter Try.func47, Try.ntmps47
    go_wp2_with (at_builtin; refine wpList_append_ints rfl _ _ rfl w.heap.size _ 0 [] rfl hO0.out B (some a) c L rfl EA.out L (List.nil_append L) (by simp; omega) (by simp) ?_; intro s1 c1 w1 hO1' hg1 hn1; have hb1 : Hid (Below w.heap.size w w1) := grown_oi hb0.out hb0.out.size hO0.out hg1; have hO1 : Hid (OI w1 w.heap.size (.slice s1 L.length c1) L) := hO1'; clear hO1' hg1 hn1)
    go_ret
    exact ⟨⟨s1, c1, rfl, hO1.out⟩, hb1.out⟩

/-- what stands in the other list, too. -/
def inB (A B : List Int) : List Int := A.filter fun x => decide (x ∈ B)
theorem inB_len (A B : List Int) : (inB A B).length ≤ A.length := List.length_filter_le _ _
theorem inB_mem (A B : List Int) (x : Int) : x ∈ inB A B ↔ x ∈ A ∧ x ∈ B := by simp [inB]
theorem inB_in {A B : List Int} {k : Nat} {x : Int} (h : A[k]? = some x) (hx : x ∈ B) : inB (A.take (k + 1)) B = inB (A.take k) B ++ [x] := by
  rw [List.take_add_one, h]; simp [inB, hx]
theorem inB_out {A B : List Int} {k : Nat} {x : Int} (h : A[k]? = some x) (hx : ¬ x ∈ B) : inB (A.take (k + 1)) B = inB (A.take k) B := by
  rw [List.take_add_one, h]; simp [inB, hx]
theorem rising {M : List Int} (hM : M.Pairwise (· ≤ ·)) : ∀ (p q : Nat) a b, p ≤ q → M[p]? = some a → M[q]? = some b → a ≤ b := by
  intro p q a b hpq ha hb
  obtain ⟨a1, rfl⟩ := List.getElem?_eq_some_iff.1 ha
  obtain ⟨a2, rfl⟩ := List.getElem?_eq_some_iff.1 hb
  by_cases e : p = q
  · subst e; exact Int.le_refl _
  · exact List.pairwise_iff_getElem.1 hM p q a1 a2 (by omega)
theorem Fnd.mem {M : List Int} {x : Int} {i : Nat} (h : Fnd M x i) (hM : M.Pairwise (· ≤ ·)) : M[i]? = some x ↔ x ∈ M := by
  constructor
  · exact fun e => List.mem_of_getElem? e
  · intro hx
    obtain ⟨j, hj⟩ := List.mem_iff_getElem?.1 hx
    have hij : ¬ j < i := fun q => by have := h.2.1 j x q hj; omega
    have lj := (List.getElem?_eq_some_iff.1 hj).1
    obtain ⟨y, hy⟩ := get_some (L := M) (k := i) (by omega)
    have h1 := h.2.2 i y (Nat.le_refl _) hy
    have h2 := rising hM i j y x (by omega) hy hj
    rw [hy, show y = x by omega]
theorem sorted_merge (L : List Int) : (L.mergeSort fun x y => decide (x ≤ y)).Pairwise (· ≤ ·) := by
  have := List.pairwise_mergeSort (le := fun x y : Int => decide (x ≤ y)) (fun a b c h1 h2 => by simp at *; omega) (fun a b => by simp; omega) L
  exact this.imp (fun h => by simpa using h)

set_option maxRecDepth 100000 in
set_option maxHeartbeats 8000000 in
theorem inBoth_any (s t : Option Addr) (c d : Nat) (A B : List Int) (B0 C0 : Nat) (w : World) (hA : Els 1 cInt w B0 s A) (hB : Els 1 cInt w C0 t B) (ma : A.length ≤ 1099511627776) (mb : B.length ≤ 1099511627776) :
    Calls Try.prog 43 #[.slice s A.length c, .slice t B.length d] w fun e w' => (∃ s' c' R, e = .returned (.slice s' (List.length (α := Int) R) c') ∧ OI w' w.heap.size (.slice s' R.length c') R ∧ R = inB A B) ∧ Below w.heap.size w w' := by
  have HA := Hid.mk2 hA
  clear hA
  go_enter Try.func43, Try.ntmps43
  go_wp2_with fail
  refine (cloneI_any t d B C0 w hB mb).mono ?_
  rintro e w1 ⟨⟨s1, c1, rfl, o1⟩, b1⟩
  have O1 := Hid.mk2 o1
  have Lb1 := Hid.mk2 b1
  clear hB o1 b1
  go_wp2_with fail
  refine (sort_own s1 c1 w.heap.size B w1 w O1.out Lb1.out Lb1.out.size (by omega)).mono ?_
  rintro e w2 ⟨⟨rfl, o2⟩, b2, z2⟩
  have hM := sorted_merge B
  have hmem : ∀ x, x ∈ (B.mergeSort fun x y => decide (x ≤ y)) ↔ x ∈ B := fun x => List.mem_mergeSort
  have lM : (B.mergeSort fun x y => decide (x ≤ y)).length = B.length := List.length_mergeSort B
  generalize (B.mergeSort fun x y => decide (x ≤ y)) = M at o2 hM hmem lM
  rw [← lM] at o2 mb ⊢
  have SM := Hid.mk2 hM
  have MM := Hid.mk2 hmem
  have EM := Hid.mk2 o2.els
  have L2 := Hid.mk2 b2
  have EA := Hid.mk2 (HA.out.later cInt_keeps b2)
  have Z2 := Hid.mk2 z2
  clear o2 hM hmem b2 lM O1 Lb1 HA z2
  go_wp2_with fail
  go_loopw [6, 17] (fun ov iv wr => ∃ (i : Nat) (s9 : Option Addr) (c9 : Nat) (R : List Int), i ≤ A.length ∧ iv = .int .i64 i ∧ ov = .slice s9 R.length c9 ∧ Hid (R = inB (A.take i) B) ∧ Hid (OI wr w2.heap.size (.slice s9 R.length c9) R) ∧ Hid (Below w2.heap.size w2 wr)) (fun _ iv _ => A.length - (intOf iv).toNat)
  case atStart => exact ⟨0, none, 0, [], Nat.zero_le _, rfl, rfl, (by simp [inB, Hid]), OI.nil _ _, Below.refl _ _⟩
  case round =>
    obtain ⟨i, s9, c9, R, hi, rfl, rfl, hR, hO, hb⟩ := hrel
    by_cases hlt : i < A.length
    · obtain ⟨x, hx⟩ := get_some hlt
      have HXI := Hid.mk2 hx
      clear hx
      obtain ⟨bx, ox, rfl, _, hqx, ex0⟩ := eInt_cells EA.out HXI.out
      have ex := (hb.out.cell (p := ⟨bx, ox + i, none⟩) hqx).trans ex0
      go_wp2_with fail
      refine (binSearch_any s1 c1 M x _ wr (EM.out.later cInt_keeps hb.out) mb (rising SM.out)).mono ?_
      rintro e w' ⟨⟨q, rfl, hF⟩, rfl⟩
      have lR : R.length ≤ 1099511627776 := by have := inB_len (A.take i) B; rw [← hR.out, List.length_take] at this; omega
      by_cases hin : x ∈ B
      · have hq : decide (M[q]? = some x) = true := by rw [decide_eq_true_eq, hF.mem SM.out]; exact (MM.out x).2 hin
        rw [hq]
        obtain ⟨R2, hR2⟩ : ∃ R2, Hid (R ++ [x] = R2) := ⟨_, (rfl : R ++ [x] = _)⟩
        have HS : Hid (R2 = inB (A.take (i + 1)) B) := by show R2 = _; rw [inB_in HXI.out hin, ← hR.out, hR2.out]
        have hb3 : Below w2.heap.size w2 (w'.alloc (.cells #[.int .i64 x] 3)) := bl_alloc hb.out _
        have hO2 : Hid (OI (w'.alloc (.cells #[.int .i64 x] 3)) w2.heap.size (.slice s9 R.length c9) R) := hO.out.later (bl_alloc (Below.refl _ _) _)
        have E5 : Hid (Els 1 cInt (w'.alloc (.cells #[.int .i64 x] 3)) w'.heap.size (some ⟨w'.heap.size, 0, none⟩) [x]) := Els.one (Blk.new w' #[.int .i64 x] 3)
        clear hO hR hF hq hin
        go_wp2_with (at_builtin; refine wpList_append_ints rfl _ _ rfl w2.heap.size s9 c9 R rfl hO2.out w'.heap.size _ 1 [x] rfl E5.out R2 hR2.out (by simp; omega) hb3.size ?_; intro s' c' w4 hO4 hg4 hn4)
        have hO4 : Hid (OI w4 w2.heap.size (.slice s' R2.length c') R2) := hO4
        have hb4 : Hid (Below w2.heap.size w2 w4) := grown_oi hb3 hb3.size hO2.out hg4
        clear hg4 hn4 hO2 E5 hb3 ex hb
        go_wp2_with fail
        go_roundw
        case rel => exact ⟨i + 1, s', c', R2, by omega, by go_num, rfl, HS, hO4, hb4⟩
        case measure => simp [intOf]; omega
      · have hq : decide (M[q]? = some x) = false := by rw [decide_eq_false_iff_not, hF.mem SM.out]; exact fun h => hin ((MM.out x).1 h)
        rw [hq]
        have HS : Hid (R = inB (A.take (i + 1)) B) := by show R = _; rw [inB_out HXI.out hin, ← hR.out]
        clear hR hF hq hin
        go_wp2_with fail
        go_roundw
        case rel => exact ⟨i + 1, s9, c9, R, by omega, by go_num, rfl, HS, hO, hb⟩
        case measure => simp [intOf]; omega
    · have HS : Hid (R = inB A B) := by show R = _; rw [hR.out, List.take_of_length_le (by omega)]
      go_wp2_with fail
      go_ret
      exact ⟨⟨s9, c9, R, rfl, hO.out.mono Z2.out, HS.out⟩, bl_trans L2.out hb.out⟩
end Go.Proofs.Ytgfchpbdoebmbaa
