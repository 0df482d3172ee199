import Derived.Test.YtnbckfeclfbafaaDoorG40
namespace Go.Proofs.YtnbckfeclfbafaaDoor
open Go.RowKit
set_option linter.unusedVariables false
set_option linter.unusedSimpArgs false

theorem Tryd.infoBs : (Tryd.prog.info? 37).map (fun i => (i.zero, i.size, i.bytes)) = some (some (.slice none 0 0), 1, 24) := by kernel_rfl
/-- a list of rows of flags of the call's own. -/
def BB (w : World) (B : Nat) (v : Value) (n : Nat) (rs : List Nat) : Prop := w.ownsRow B 37 1 v rs.length (rs.map fun r => Value.slice (some ⟨r, 0, none⟩) n n)
theorem BB.later {w w' : World} {B n : Nat} {v : Value} {rs : List Nat} (h : BB w B v n rs) (hb : Below w.heap.size w w') : BB w' B v n rs := by
  refine World.ownsRow.kept h (grown_of_below hb) ?_
  cases v.ownBlock with
  | none => exact Or.inl rfl
  | some b => exact Or.inr (by simp)
/-- a block of flags, or of rows of flags. -/
def BlkT (w : World) (m : Nat) (t : TypeId) : Prop := ∃ c fr, w.heap[m]? = some (.cells c t fr)
theorem BlkT.lt {w : World} {m : Nat} {t : TypeId} (h : BlkT w m t) : m < w.heap.size := by
  obtain ⟨c, fr, h⟩ := h
  exact (Array.getElem?_eq_some_iff.1 h).1
/-- who is ahead of whom, as it can be read. -/
def AllR (w : World) (v : Value) (n : Nat) (R : Nat → Nat → Bool) : Prop := ∃ g c, v = .slice (some ⟨g, 0, none⟩) n c ∧ BlkT w g 37 ∧ ∀ a, a < n → ∃ r, BlkT w r 4 ∧ w.cell? ⟨g, a, none⟩ = some (.slice (some ⟨r, 0, none⟩) n n) ∧ ∀ b, b < n → w.cell? ⟨r, b, none⟩ = some (.bool (R a b))
theorem AllR.kept {w w' : World} {v : Value} {n : Nat} {R : Nat → Nat → Bool} {q : Option Nat} (h : AllR w v n R) (hg : w.grownBy w' q) (hq : ∀ m t, BlkT w m t → t = 37 ∨ t = 4 → ¬ q = some m) : AllR w' v n R := by
  obtain ⟨g, c, e, h1, h2⟩ := h
  have blk : ∀ m t, BlkT w m t → t = 37 ∨ t = 4 → w'.heap[m]? = w.heap[m]? := fun m t hm ht => hg.block m hm.lt (fun e => hq m t hm ht e.symm)
  have cel : ∀ m t o, BlkT w m t → t = 37 ∨ t = 4 → w'.cell? ⟨m, o, none⟩ = w.cell? ⟨m, o, none⟩ := fun m t o hm ht => World.cell?_of_block (w := w) (blk m t hm ht)
  have tp : ∀ m t, BlkT w m t → t = 37 ∨ t = 4 → BlkT w' m t := fun m t hm ht => by
    obtain ⟨c, fr, hh⟩ := id hm
    exact ⟨c, fr, by rw [blk m t hm ht]; exact hh⟩
  refine ⟨g, c, e, tp g _ h1 (Or.inl rfl), fun a ha => ?_⟩
  obtain ⟨r, r1, r2, r3⟩ := h2 a ha
  exact ⟨r, tp r _ r1 (Or.inr rfl), (cel g _ a h1 (Or.inl rfl)).trans r2, fun b hb' => (cel r _ b r1 (Or.inr rfl)).trans (r3 b hb')⟩
theorem AllR.later {w w' : World} {v : Value} {n : Nat} {R : Nat → Nat → Bool} (h : AllR w v n R) (hb : Below w.heap.size w w') : AllR w' v n R :=
  h.kept (grown_of_below hb) (fun _ _ _ _ => by simp)
theorem BB.all {w : World} {B n : Nat} {v : Value} {rs : List Nat} {R : Nat → Nat → Bool} (h : BB w B v n rs) (hl : rs.length = n) (h0 : 0 < n) (hF : ∀ j r, rs[j]? = some r → Fl w B r n (R j)) : AllR w v n R := by
  rcases h.2 with ⟨_, h'⟩ | ⟨g, cap, cur, rfl, hb, hg, r⟩
  · omega
  · refine ⟨g, cap, by rw [hl], ⟨_, _, hg⟩, fun a ha => ?_⟩
    obtain ⟨q, hq⟩ : ∃ q, rs[a]? = some q := ⟨rs[a], by simp [hl, ha]⟩
    have hf := hF a q hq
    refine ⟨q, hf.blk, ?_, fun b hb => (hf.cell hb).1⟩
    rw [World.ownsRow.cellAt h a (by omega)]
    simp [hq]

set_option maxHeartbeats 4000000 in
theorem l14All_any (n : Nat) (s : Option Addr) (c : Nat) (L : List (Int × Int)) (w : World) (hL : Eds w s L) (hl : L.length ≤ 1048576) (hin : Inn n L) (hn : n ≤ 16) :
    Calls Tryd.prog 34 #[.int .i64 n, .slice s L.length c] w fun e w' => ∃ v, e = .returned v ∧ (0 < n → AllR w' v n (clo (eR L) 16)) ∧ Below w.heap.size w w' := by
  have HL : Hid (Eds w s L) := hL
  have HI : Hid (Inn n L) := hin
  clear hL hin
  obtain ⟨i0, hi, hz0, hz1, hz2⟩ := info_parts Tryd.infoB
  obtain ⟨ib, hib, hb0, hb1, hb2⟩ := info_parts Tryd.infoBs
  go_enter Tryd.func34, Tryd.ntmps34
  go_upto_region 2 with fail
  have hrow : Hid (BB (w.alloc (.cells #[] 37)) w.heap.size (.slice (some ⟨w.heap.size, 0, none⟩) 0 0) n []) :=
    World.ownsRow_lit (base := w.heap.size) (e := 37) (size := 1) w #[] 0 (Nat.le_refl _) (by unfold maxLen; omega) (by simp)
  have hb : Hid (Below w.heap.size w (w.alloc (.cells #[] 37))) := bl_alloc (Below.refl _ _) _
  generalize w.alloc (.cells #[] 37) = X at hrow hb ⊢
  go_wp2_with fail
  go_loopw [5, 6] (fun ov av wr => ∃ (rs : List Nat), rs.length ≤ n ∧ av = .int .i64 rs.length ∧ Hid (BB wr w.heap.size ov n rs) ∧ Hid (∀ j r, rs[j]? = some r → Fl wr w.heap.size r n (clo (eR L) 16 j)) ∧ Hid (Below w.heap.size w wr)) (fun _ av _ => n - (intOf av).toNat)
  case atStart => exact ⟨[], Nat.zero_le _, rfl, hrow, fun j r h => by simp at h, hb⟩
  case round =>
    clear hrow hb
    obtain ⟨rs, hrs, rfl, hrow, hF, hb⟩ := hrel
    obtain ⟨wa, hwa⟩ : ∃ wa, wa = wr := ⟨_, rfl⟩
    subst hwa
    by_cases hlt : rs.length < n
    · have t0 : decide ((rs.length : Int) < (n : Int)) = true := by simp; omega
      obtain ⟨a, ha⟩ : ∃ a, Hid (rs.length = a) := ⟨_, rfl⟩
      rw [ha.out] at hlt t0 ⊢
      go_wp2_with (at_make; refine wpList_make_full _ rfl _ _ 37 rfl w.heap.size 4 i0 (.bool false) 1 Tryd.underlying37 hi hz0 hz1 .i64 .i64 _ _ n rfl rfl rfl rfl (by rw [hz2]; omega) (by unfold maxLen; omega) hb.out.size ?_)
      intro w1 hown hgrow
      obtain ⟨rb, hrb⟩ : ∃ q, Hid (q = wa.heap.size) := ⟨_, rfl⟩
      have m1 : Hid (Below wa.heap.size wa w1) := (Below.refl _ wa).grown hgrow (Nat.le_refl _) (fun k h => by cases h)
      rw [← hrb.out] at hown ⊢
      have hf : Hid (Fl w1 w.heap.size rb n (fun b => decide (b < 0) && clo (eR L) 16 a b)) := by
        rw [toList_madeCells_one] at hown
        exact (Fl.new hown).congr fun i _ => by simp
      clear hown hgrow
      go_wp2_with fail
      go_loopw [8] (fun bv wx => ∃ b : Nat, b ≤ n ∧ bv = .int .i64 b ∧ Hid (Fl wx w.heap.size rb n (fun b' => decide (b' < b) && clo (eR L) 16 a b')) ∧ Hid (Below wa.heap.size wa wx)) (fun bv _ => n - (intOf bv).toNat)
      case atStart => exact ⟨0, Nat.zero_le _, rfl, hf, m1⟩
      case round =>
        clear hf m1
        obtain ⟨b, hbn, rfl, hf, m1⟩ := hrel
        by_cases hbl : b < n
        · have t1 : decide ((b : Int) < (n : Int)) = true := by simp; omega
          have hwy := way_clo HI.out.sup hn a b
          have hbx : Hid (Below w.heap.size w wr) := bl_trans hb.out m1.out
          obtain ⟨W, hW⟩ : ∃ W, Hid (wayF (eR L) n a b = W) := ⟨_, rfl⟩
          rw [hW.out] at hwy
          rw [show decide ((0 : Int) < (W : Int)) = decide (0 < W) by simp] at hwy
          obtain ⟨cb, hcb⟩ : ∃ z, Hid (clo (eR L) 16 a b = z) := ⟨_, rfl⟩
          rw [hcb.out] at hwy
          go_upto_region 8 with (go_at_call 29; refine (l14Way_any n a b _ _ L _ (HL.out.later hbx.out) hl HI.out hn hlt hbl).mono ?_; rintro e w3 ⟨rfl, hb3⟩; rw [hW.out]; obtain ⟨c3, f3⟩ := (hf.out.later hb3).cell hbl)
          have hf4 : Hid (Fl (w3.setCell ⟨rb, b, none⟩ (.bool cb)) w.heap.size rb n (fun b' => decide (b' < b + 1) && clo (eR L) 16 a b')) := ((hf.out.later hb3).set hbl cb).congr fun i _ => by
            by_cases e : i = b
            · subst e; simp [hcb.out]
            · have : decide (i < b + 1) = decide (i < b) := by simp; omega
              simp [e, this]
          have hb4 : Hid (Below wa.heap.size wa (w3.setCell ⟨rb, b, none⟩ (.bool cb))) := (bl_trans m1.out hb3).setCell (by rw [hrb.out]; exact Nat.le_refl _) _
          clear c3 f3
          go_wp2_with fail
          go_roundw
          case rel => exact ⟨b + 1, by omega, by go_num, hf4, hb4⟩
          case measure => simp [intOf]; omega
        · have hf5 : Hid (Fl wr w.heap.size rb n (clo (eR L) 16 a)) := hf.out.congr fun i hi => by simp [show i < b by omega]
          have hrow5 : Hid (BB wr w.heap.size u5 n rs) := hrow.out.later m1.out
          have hF5 : Hid (∀ j r, rs[j]? = some r → Fl wr w.heap.size r n (clo (eR L) 16 j)) := fun j r h => (hF.out j r h).later m1.out
          have hb5 : Hid (Below w.heap.size w wr) := bl_trans hb.out m1.out
          clear hf m1 hrow hF hb
          go_upto_region 10 with fail
          have hz := (Blk.new wr #[.slice (some ⟨rb, 0, none⟩) n n] 37).cell 0
          have Va := hrow5.out.later (bl_alloc (Below.refl _ wr) (.cells #[.slice (some ⟨rb, 0, none⟩) n n] 37))
          have hBs : w.heap.size ≤ (wr.alloc (.cells #[.slice (some ⟨rb, 0, none⟩) n n] 37)).heap.size := by simp; have := hb5.out.size; omega
          go_wp2_with (at_builtin; refine wpList_append_own _ rfl (.tmp 31) (.tmp 33) 59 rfl w.heap.size 37 ib (.slice none 0 0) 1 24 Tryd.underlying59 hib hb0 hb1 hb2 rfl (by decide) u5 rs.length _ rfl Va ⟨wr.heap.size, 0, none⟩ 1 1 [.slice (some ⟨rb, 0, none⟩) n n] rfl rfl ?c1 ?c2 ?c3 ?c4 hBs ?_)
          case c1 =>
            intro j u hj
            match j, hj with
            | 0, hj => simp at hj; subst hj; simp [Addr.add]
          case c2 => intro u hu; simp at hu; subst hu; rfl
          case c3 => unfold maxLen; omega
          case c4 => omega
          intro v' w5 hv5 hg5 _
          have hv5 : Hid (BB w5 w.heap.size v' n (rs ++ [rb])) := by
            show World.ownsRow _ _ _ _ _ _ _
            rw [List.length_append, List.length_singleton, List.map_append]; exact hv5
          have hne : ∀ {r : Nat} {f : Nat → Bool}, Fl wr w.heap.size r n f → ¬ u5.ownBlock = some r := by
            intro r f hfr
            obtain ⟨cc, fr, hh⟩ := hfr.blk
            rcases hrow5.out.2 with ⟨e, _⟩ | ⟨g, cap, cur, e, _, hgg, _⟩
            · rw [e]; simp [Value.ownBlock]
            · rw [e]; simp only [Value.ownBlock, Option.some.injEq]
              intro e2
              subst e2
              rw [hgg] at hh
              simp at hh
          have hF6 : Hid (∀ j r, (rs ++ [rb])[j]? = some r → Fl w5 w.heap.size r n (clo (eR L) 16 j)) := by
            intro j r h
            by_cases e : j < rs.length
            · rw [List.getElem?_append_left e] at h
              have h0 := hF5.out j r h
              exact (h0.later (bl_alloc (Below.refl _ wr) _)).kept hg5 (hne h0)
            · have ej : j = a := by
                have := (List.getElem?_eq_some_iff.1 h).1
                have := ha.out
                simp at *; omega
              subst ej
              rw [List.getElem?_append_right (by omega), ha.out, Nat.sub_self] at h
              simp at h
              subst h
              exact (hf5.out.later (bl_alloc (Below.refl _ wr) _)).kept hg5 (hne hf5.out)
          have hb6 : Hid (Below w.heap.size w w5) := (bl_alloc hb5.out _).grown hg5 hBs (fun k h => (World.ownsRow.lt hrow5.out k h).1)
          clear hz Va hg5 hBs hf5 hrow5 hF5 hb5 hne
          obtain ⟨rs', hrs'⟩ : ∃ q, Hid (rs ++ [rb] = q) := ⟨_, rfl⟩
          have hlen : Hid ((a : Int) + 1 = (rs'.length : Int)) := by have := ha.out; rw [← hrs'.out]; simp [Hid]; omega
          rw [hrs'.out] at hv5 hF6
          have hr2 : rs'.length ≤ n := by have := hlen.out; omega
          have hr3 : a < rs'.length := by have := hlen.out; omega
          go_wp2_with fail
          go_roundw
          case rel => exact ⟨rs', hr2, by rw [← hlen.out], hv5, hF6, hb6⟩
          case measure => simp [intOf]; omega
    · have hrn : rs.length = n := by omega
      have hfin : Hid (0 < n → AllR wa u5 n (clo (eR L) 16)) := fun h0 => hrow.out.all hrn h0 hF.out
      clear hrn
      go_wp2_with fail
      go_ret
      exact ⟨u5, rfl, hfin.out, hb.out⟩
end Go.Proofs.YtnbckfeclfbafaaDoor
