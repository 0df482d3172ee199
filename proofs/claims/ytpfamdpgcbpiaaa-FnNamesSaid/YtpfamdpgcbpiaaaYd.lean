import Derived.Test.YtpfamdpgcbpiaaaMj
import Derived.Deep.RegionLaw
import Derived.Laws.AppendOwn
import Derived.RegionTactic
import Derived.BigRegion
namespace Go.Proofs.Ytpfamdpgcbpiaaa
open Go.RowKit Go.Maps Go.WideMaps
set_option linter.unusedVariables false
set_option linter.unusedSimpArgs false

theorem run_append_nothing (w : World) (ty : TypeId) (b : Option Addr) (l c : Nat) (h : l ≤ c) : (Builtin.append_ #[32, 32] ty #[.slice b l c, .slice none 0 0]).run Try.prog w = .ok (.slice b l c) w := by
  obtain ⟨i0, hi, hz0, hz1, hz2⟩ := info_parts Try.infoD
  cases b with
  | none => simp [Builtin.append_, run_underlying Try.underlying32, sizeOf, typeInfo, hi, Builtin.lenOf, h, run_firstCells_none]
  | some a => simp [Builtin.append_, run_underlying Try.underlying32, sizeOf, typeInfo, hi, Builtin.lenOf, h, run_firstCells_none, storeCells]
theorem step_append_nothing {ops : Array Oper} {o : Oper} {a : Act} {w : World} {K : Act → World → Prop} {Q : Exit → Act → World → Prop} {E : Prop}
    (hg : o.guard = none) (s x : Operand) (hop : o.op = Op.call { callee := Callee.builtin Builtin.append, args := #[s, x], argTypes := #[32, 32] })
    (b : Option Addr) (l c : Nat) (hs : a.eval s = .slice b l c) (hl : l ≤ c) (hx : a.eval x = .slice none 0 0)
    (hK : K (a.put o.dst (.slice b l c)) w) :
    if Region.wanted o (yielded ops a.tmps) = true then Oper.wp Try.prog o a w K Q else E := by
  have hw : Region.wanted o (yielded ops a.tmps) = true := by simp [Region.wanted, hg]
  rw [if_pos hw]
  have hrun := run_append_nothing w o.type b l c hl
  unfold Oper.wp
  simp [execOp, hop, resolve, invoke, builtin, hs, hx, hrun, Result.andThen]
  exact hK
theorem DRow.cap {w : World} {B : Nat} {s : Option Addr} {n c : Nat} {L : List (ByteArray × Int)} (h : DRow w B (.slice s n c) L) : n ≤ c := by
  rcases h.2 with ⟨h1, _⟩ | ⟨g, cap, cur, h1, _, _, h2, _⟩
  · simp only [Value.slice.injEq] at h1; omega
  · simp only [Value.slice.injEq] at h1
    obtain ⟨_, rfl, rfl⟩ := h1
    exact h2

set_option maxHeartbeats 8000000 in
theorem specRegOk_nilall (p1 q1 c1 p2 q2 c2 : Nat) (A B : List (ByteArray × Int)) (w : World) (hA : Decls w (some ⟨p1, q1, none⟩) A) (hB : Decls w (some ⟨p2, q2, none⟩) B)
    (lA : A.length ≤ 12) (lB : B.length ≤ 12) (L : List (ByteArray × Int)) (hL : Hid (A ++ B = L)) (hlen : Hid (A.length + B.length = L.length)) (hlen2 : L.length ≤ 36) :
    Calls Try.prog 15 #[.agg #[.slice (some ⟨p1, q1, none⟩) A.length c1, .slice (some ⟨p2, q2, none⟩) B.length c2, .slice none 0 0]] w fun e w' => e = .returned (.bool (okL L)) ∧ Below w.heap.size w w' := by
  have hal := alloc_old
  have haf := alloc_oldf
  have k0 := Blk.new w #[.slice (some ⟨p1, q1, none⟩) A.length c1, .slice (some ⟨p2, q2, none⟩) B.length c2, .slice none 0 0] 34
  have S0 : Sr w _ _ := ⟨bl_alloc (Below.refl _ w) _, k0⟩
  obtain ⟨x0, x1, x2, x3⟩ := k0.three
  have t1 : decide ((12 : Int) < (A.length : Int)) = false := by simp; omega
  have t2 : decide ((12 : Int) < (B.length : Int)) = false := by simp; omega
  go_enter Try.func15, Try.ntmps15
  go_wp2_with fail
  clear t1 t2 k0
  generalize hX : w.alloc (.cells #[.slice (some ⟨p1, q1, none⟩) A.length c1, .slice (some ⟨p2, q2, none⟩) B.length c2, .slice none 0 0] 34) = X at S0 x0 x1 x2 x3 ⊢
  clear hX
  go_cut [3] (fun v wx => ∃ s c, v = .slice s L.length c ∧ Decls wx s L ∧ Below w.heap.size w wx)
  case first =>
    go_region_law (first
      | (refine step_append_decl rfl (.tmp 22) (.tmp 24) rfl (w.heap.size + 1) _ [] rfl (by first | exact own0s S0 | exact DRow.drew (own0s S0) | exact own0s (Sr.drew S0)) p1 q1 c1 A rfl (hA.later (Sr.l (w := w) (by first | exact Sr.alloc S0 _ | exact Sr.drew (Sr.alloc S0 _)))) (by simp; omega) (Nat.le_trans (Sr.lt (w := w) (by first | exact Sr.alloc S0 _ | exact Sr.drew (Sr.alloc S0 _))) (Nat.le_refl _)) ?_; intro s5 c5 w5 hv5 hd5 hg5; have S5 := Sr.grow (by first | exact Sr.alloc S0 _ | exact Sr.drew (Sr.alloc S0 _)) (by first | exact own0s S0 | exact DRow.drew (own0s S0)) hg5; rw [List.nil_append] at hv5 hd5; rw [show ([] : List (ByteArray × Int)).length + A.length = A.length by simp] at hv5 ⊢; obtain ⟨x0, x1, x2, x3⟩ := S5.k.three)
      | (refine step_append_decl rfl (.tmp 25) (.tmp 27) rfl (w.heap.size + 1) _ A rfl hv5 p2 q2 c2 B rfl (hB.later S5.l) (by omega) S5.lt ?_; intro s6 c6 w6 hv6 hd6 hg6; have S6 := Sr.grow S5 hv5 hg6; obtain ⟨x0, x1, x2, x3⟩ := S6.k.three)
      | (refine step_append_nothing rfl (.tmp 28) (.tmp 30) rfl s6 (A.length + B.length) c6 rfl (DRow.cap hv6) rfl ?_))
    all_goals
      go_wp2_with fail
      go_meet
      exact ⟨_, _, by rw [← hlen.out], by rw [← hL.out]; exact hd6, S6.l⟩
  case rest =>
    obtain ⟨s, c, rfl, hd, hl⟩ := hcut
    clear hL hlen hA hB lA lB x0 x1 x2 x3 S0
    go_wp2_with fail
    go_loopw [4] (fun i wr => ∃ k : Nat, k ≤ L.length ∧ i = .int .i64 k ∧ Hid (∀ i, i < k → goodAt L i) ∧ Decls wr s L ∧ Below w.heap.size w wr) (fun i _ => L.length - (intOf i).toNat)
    case atStart => exact ⟨0, Nat.zero_le _, rfl, fun i hi => absurd hi (by omega), hd, hl⟩
    case round =>
      clear hd hl
      obtain ⟨k, hk, rfl, hall, hd, hl⟩ := hrel
      by_cases hlt : k < L.length
      · obtain ⟨b, o, rfl, hp, e1, e2⟩ := hd.get hlt
        obtain ⟨p, hp0⟩ : ∃ p, Hid (dAt L k = p) := ⟨_, rfl⟩
        rw [hp0.out] at e1 e2
        obtain ⟨p1, p2⟩ := p
        cases hn : nameB p1
        · have E : Hid (okL L = false) := by
            unfold Hid okL
            simp only [decide_eq_false_iff_not]
            intro h
            have := (h k hlt).1
            rw [hp0.out, hn] at this
            cases this
          go_wp2_with (go_at_call 20; refine (specNameOk_any _ _).mono ?_; rintro e w2 ⟨rfl, hb2⟩; rw [hn])
          go_ret
          exact ⟨ret_boolw E.out.symm, bl_trans hl hb2⟩
        · cases hi : (decide ((1 : Int) ≤ p2) && decide (p2 ≤ 4))
          · have E : Hid (okL L = false) := by
              unfold Hid okL
              simp only [decide_eq_false_iff_not]
              intro h
              obtain ⟨_, a, b, _⟩ := h k hlt
              rw [hp0.out] at a b
              simp at hi
              exact absurd (hi a) (by omega)
            go_wp2_with fail
            refine (specNameOk_any _ _).mono ?_
            rintro e w2 ⟨rfl, hb2⟩
            rw [hn]
            have f1 := (hb2.cell (p := ⟨b, o + k * 2, none⟩) hp).trans e1
            have f2 := (hb2.cell (p := ⟨b, o + k * 2 + 1, none⟩) hp).trans e2
            go_wp2_with (go_at_call 32; refine (l1In_any _ _ _ _).mono ?_; rintro e w' ⟨rfl, rfl⟩; rw [hi])
            go_ret
            exact ⟨ret_boolw E.out.symm, bl_trans hl hb2⟩
          · have hi' : Hid (1 ≤ p2 ∧ p2 ≤ 4) := by simpa [Hid] using hi
            go_wp2_with fail
            refine (specNameOk_any _ _).mono ?_
            rintro e w2 ⟨rfl, hb2⟩
            rw [hn]
            have f1 := (hb2.cell (p := ⟨b, o + k * 2, none⟩) hp).trans e1
            have f2 := (hb2.cell (p := ⟨b, o + k * 2 + 1, none⟩) hp).trans e2
            have hd2 := hd.later hb2
            have hl2 := bl_trans hl hb2
            have hp2 : b < w2.heap.size := Nat.lt_of_lt_of_le hp hb2.size
            clear e1 e2 hd hb2 hl hp
            go_wp2_with (go_at_call 32; refine (l1In_any _ _ _ _).mono ?_; rintro e w' ⟨rfl, rfl⟩; rw [hi])
            clear hi
            go_loopw [5] (fun i wy => ∃ m : Nat, m ≤ k ∧ i = .int .i64 m ∧ Hid (∀ j, j < m → ¬ (dAt L j).1 = p1) ∧ Decls wy (some ⟨b, o, none⟩) L ∧ wy.cell? ⟨b, o + k * 2, none⟩ = some (.string p1) ∧ Below w.heap.size w wy) (fun i _ => k - (intOf i).toNat)
            case atStart => exact ⟨0, Nat.zero_le _, rfl, fun j hj => absurd hj (by omega), hd2, f1, hl2⟩
            case round =>
              clear f1 f2 hd2 hl2 hp2
              obtain ⟨m, hm, rfl, hno, hd2, f1, hl2⟩ := hrel
              by_cases hlt2 : m < k
              · obtain ⟨b', o', e, hp, e1, e2⟩ := hd2.get (show m < L.length by omega)
                simp only [Option.some.injEq, Addr.mk.injEq, and_true] at e
                obtain ⟨rfl, rfl⟩ := e
                obtain ⟨q, hq0⟩ : ∃ p, Hid (dAt L m = p) := ⟨_, rfl⟩
                rw [hq0.out] at e1 e2
                obtain ⟨q1, q2⟩ := q
                have i1 : (m : Int) < (L.length : Int) := by omega
                have i2 : (k : Int) < (L.length : Int) := by omega
                by_cases hqe : q1 = p1
                · have E : Hid (okL L = false) := by
                    unfold Hid okL
                    simp only [decide_eq_false_iff_not]
                    intro h
                    obtain ⟨_, _, _, h4⟩ := h k hlt
                    have := h4 m hlt2
                    rw [hp0.out, hq0.out] at this
                    exact this hqe
                  have hz := toList_eq' hqe
                  go_wp2_with fail
                  go_quiet (fail)
                  go_wp2_with fail
                  go_ret
                  exact ⟨ret_boolw E.out.symm, by (repeat (first | with_reducible exact Below.refl _ _ | with_reducible refine bl_alloc ?_ _ | with_reducible refine bl_drewN ?_ _ | with_reducible refine bl_drew ?_ | with_reducible refine bl_setCell ?_ (by first | exact Nat.le_refl _ | (dsimp only; omega) | (simp <;> omega)) _ | with_reducible refine bl_trans ?_ (by with_reducible assumption)))⟩
                · have hno' : Hid (∀ j, j < m + 1 → ¬ (dAt L j).1 = p1) := by
                    intro j hj
                    by_cases h : j = m
                    · subst h; rw [hq0.out]; exact hqe
                    · exact hno.out j (by omega)
                  have hz := toList_ne hqe
                  go_wp2_with fail
                  go_quiet (fail)
                  go_wp2_with fail
                  go_roundw
                  case rel => exact ⟨m + 1, by omega, by go_num, hno', hd2.later (by (repeat (first | with_reducible exact Below.refl _ _ | with_reducible refine bl_alloc ?_ _ | with_reducible refine bl_drewN ?_ _ | with_reducible refine bl_drew ?_ | with_reducible refine bl_setCell ?_ (by first | exact Nat.le_refl _ | (dsimp only; omega) | (simp <;> omega)) _ | with_reducible refine bl_trans ?_ (by with_reducible assumption)))), f1, by (repeat (first | with_reducible exact Below.refl _ _ | with_reducible refine bl_alloc ?_ _ | with_reducible refine bl_drewN ?_ _ | with_reducible refine bl_drew ?_ | with_reducible refine bl_setCell ?_ (by first | exact Nat.le_refl _ | (dsimp only; omega) | (simp <;> omega)) _ | with_reducible refine bl_trans ?_ (by with_reducible assumption)))⟩
                  case measure => simp [intOf]; omega
              · have hall' : Hid (∀ i, i < k + 1 → goodAt L i) := by
                  intro i hi
                  by_cases h : i = k
                  · subst h
                    unfold goodAt
                    rw [hp0.out]
                    exact ⟨hn, hi'.out.1, hi'.out.2, fun j hj => hno.out j (by omega)⟩
                  · exact hall.out i (by omega)
                go_wp2_with fail
                go_roundw
                case rel => exact ⟨k + 1, by omega, by go_num, hall', hd2, hl2⟩
                case measure => simp [intOf]; omega
      · have E : Hid (okL L = true) := by
          unfold Hid okL
          simp only [decide_eq_true_eq]
          exact fun i hi => hall.out i (by omega)
        go_wp2_with fail
        go_ret
        exact ⟨ret_boolw E.out.symm, hl⟩

set_option maxHeartbeats 2000000 in
theorem specRegOk_nil (p1 q1 c1 p2 q2 c2 : Nat) (A B : List (ByteArray × Int)) (w : World) (hA : Decls w (some ⟨p1, q1, none⟩) A) (hB : Decls w (some ⟨p2, q2, none⟩) B) :
    Calls Try.prog 15 #[.agg #[.slice (some ⟨p1, q1, none⟩) A.length c1, .slice (some ⟨p2, q2, none⟩) B.length c2, .slice none 0 0]] w fun e w' => e = .returned (.bool (okR A B [])) ∧ Below w.heap.size w w' := by
  have hal := alloc_old
  have haf := alloc_oldf
  by_cases hh : A.length ≤ 12 ∧ B.length ≤ 12
  · obtain ⟨lA, lB⟩ := hh
    have e : okR A B [] = okL (A ++ B) := by simp [okR, lA, lB]
    rw [e]
    exact specRegOk_nilall p1 q1 c1 p2 q2 c2 A B w hA hB lA lB _ rfl (by simp [Hid]) (by simp; omega)
  · have E : Hid (okR A B [] = false) := okR_len (by simpa using hh)
    obtain ⟨x0, x1, x2, x3⟩ := (Blk.new w #[.slice (some ⟨p1, q1, none⟩) A.length c1, .slice (some ⟨p2, q2, none⟩) B.length c2, .slice none 0 0] 34).three
    cases t1 : decide ((12 : Int) < (A.length : Int))
    · have t2 : decide ((12 : Int) < (B.length : Int)) = true := by simp at t1 ⊢; omega
      go_enter Try.func15, Try.ntmps15
      go_wp2_with fail
      go_ret
      exact ⟨ret_boolw E.out.symm, by (repeat (first | with_reducible exact Below.refl _ _ | with_reducible refine bl_alloc ?_ _ | with_reducible refine bl_drewN ?_ _ | with_reducible refine bl_drew ?_ | with_reducible refine bl_setCell ?_ (by first | exact Nat.le_refl _ | (dsimp only; omega) | (simp <;> omega)) _ | with_reducible refine bl_trans ?_ (by with_reducible assumption)))⟩
    · go_enter Try.func15, Try.ntmps15
      go_wp2_with fail
      go_ret
      exact ⟨ret_boolw E.out.symm, by (repeat (first | with_reducible exact Below.refl _ _ | with_reducible refine bl_alloc ?_ _ | with_reducible refine bl_drewN ?_ _ | with_reducible refine bl_drew ?_ | with_reducible refine bl_setCell ?_ (by first | exact Nat.le_refl _ | (dsimp only; omega) | (simp <;> omega)) _ | with_reducible refine bl_trans ?_ (by with_reducible assumption)))⟩
end Go.Proofs.Ytpfamdpgcbpiaaa
