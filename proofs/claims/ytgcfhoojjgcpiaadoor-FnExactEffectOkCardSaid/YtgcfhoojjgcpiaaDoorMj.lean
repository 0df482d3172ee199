import Derived.Test.YtgcfhoojjgcpiaaDoorMi
namespace Go.Proofs.YtgcfhoojjgcpiaaDoor
open Go.RowKit Go.Maps Go.WideMaps
set_option linter.unusedVariables false
set_option linter.unusedSimpArgs false

theorem okR_len {A B C : List (ByteArray × Int)} (h : ¬ (A.length ≤ 12 ∧ B.length ≤ 12 ∧ C.length ≤ 12)) : okR A B C = false := by
  unfold okR
  cases hh : (decide (A.length ≤ 12) && decide (B.length ≤ 12) && decide (C.length ≤ 12))
  · simp
  · simp at hh; omega

set_option maxHeartbeats 2000000 in
theorem specRegOk_any (p1 q1 c1 p2 q2 c2 p3 q3 c3 : Nat) (A B C : List (ByteArray × Int)) (w : World) (hA : Decls w (some ⟨p1, q1, none⟩) A) (hB : Decls w (some ⟨p2, q2, none⟩) B) (hC : Decls w (some ⟨p3, q3, none⟩) C) :
    Calls Tryd.prog 14 #[.agg #[.slice (some ⟨p1, q1, none⟩) A.length c1, .slice (some ⟨p2, q2, none⟩) B.length c2, .slice (some ⟨p3, q3, none⟩) C.length c3]] w fun e w' => e = .returned (.bool (okR A B C)) ∧ Below w.heap.size w w' := by
  have hal := alloc_old
  have haf := alloc_oldf
  by_cases hh : A.length ≤ 12 ∧ B.length ≤ 12 ∧ C.length ≤ 12
  · obtain ⟨lA, lB, lC⟩ := hh
    have e : okR A B C = okL (A ++ B ++ C) := by simp [okR, lA, lB, lC]
    rw [e]
    exact specRegOk_all p1 q1 c1 p2 q2 c2 p3 q3 c3 A B C w hA hB hC lA lB lC _ rfl (by simp [Hid]; omega) (by simp; omega)
  · have E : Hid (okR A B C = false) := okR_len hh
    obtain ⟨x0, x1, x2, x3⟩ := (Blk.new w #[.slice (some ⟨p1, q1, none⟩) A.length c1, .slice (some ⟨p2, q2, none⟩) B.length c2, .slice (some ⟨p3, q3, none⟩) C.length c3] 33).three
    cases t1 : decide ((12 : Int) < (A.length : Int))
    · cases t2 : decide ((12 : Int) < (B.length : Int))
      · have t3 : decide ((12 : Int) < (C.length : Int)) = true := by simp at t1 t2 ⊢; omega
        go_enter Tryd.func14, Tryd.ntmps14
        go_wp2_with fail
        go_ret
        exact ⟨ret_boolw E.out.symm, by (repeat (first | with_reducible exact Below.refl _ _ | with_reducible refine bl_alloc ?_ _ | with_reducible refine bl_drewN ?_ _ | with_reducible refine bl_drew ?_ | with_reducible refine bl_setCell ?_ (by first | exact Nat.le_refl _ | (dsimp only; omega) | (simp <;> omega)) _ | with_reducible refine bl_trans ?_ (by with_reducible assumption)))⟩
      · go_enter Tryd.func14, Tryd.ntmps14
        go_wp2_with fail
        go_ret
        exact ⟨ret_boolw E.out.symm, by (repeat (first | with_reducible exact Below.refl _ _ | with_reducible refine bl_alloc ?_ _ | with_reducible refine bl_drewN ?_ _ | with_reducible refine bl_drew ?_ | with_reducible refine bl_setCell ?_ (by first | exact Nat.le_refl _ | (dsimp only; omega) | (simp <;> omega)) _ | with_reducible refine bl_trans ?_ (by with_reducible assumption)))⟩
    · go_enter Tryd.func14, Tryd.ntmps14
      go_wp2_with fail
      go_ret
      exact ⟨ret_boolw E.out.symm, by (repeat (first | with_reducible exact Below.refl _ _ | with_reducible refine bl_alloc ?_ _ | with_reducible refine bl_drewN ?_ _ | with_reducible refine bl_drew ?_ | with_reducible refine bl_setCell ?_ (by first | exact Nat.le_refl _ | (dsimp only; omega) | (simp <;> omega)) _ | with_reducible refine bl_trans ?_ (by with_reducible assumption)))⟩

/-- a map's element, read as itself. -/
def anyElem (v : Value) : Option (DataW Value × List MemPlace) := some (.held v, [])

/-- a declaration and where it stands: name, kind, sort, number. -/
structure Pl where
  n : ByteArray
  k : Int
  s : Int
  a : Int
def Pl.val (p : Pl) : Value := .agg #[.string p.n, .int .i64 p.k, .int .i64 p.s, .int .i64 p.a]
def plMap : List Pl → DataW Value → DataW Value
  | [], D => D
  | p :: r, D => plMap r (D.put (wkey p.n) (.held p.val))
theorem plMap_snoc : ∀ (l : List Pl) (p : Pl) (D : DataW Value), plMap (l ++ [p]) D = (plMap l D).put (wkey p.n) (.held p.val)
  | [], p, D => rfl
  | q :: r, p, D => plMap_snoc r p _
theorem plMap_is : ∀ (l : List Pl) (D : DataW Value), IsMap D → IsMap (plMap l D)
  | [], D, h => h
  | s :: r, D, h => plMap_is r _ (h.put _ _)
theorem has_putv {D : DataW Value} (hD : IsMap D) (s t : ByteArray) (d : DataW Value) : Maps.has (D.put (wkey s) d) (wkey t) = (decide (s = t) || Maps.has D (wkey t)) := by
  by_cases h : s = t
  · subst h
    rw [has_put_same hD (by trivial)]; simp
  · have hne : wkey t ≠ wkey s := fun e => h (wkey_inj e).symm
    rw [has_put_other hne]; simp [h]
theorem has_plMap : ∀ (l : List Pl) (D : DataW Value) (t : ByteArray), IsMap D → Maps.has (plMap l D) (wkey t) = (l.any (fun p => decide (p.n = t)) || Maps.has D (wkey t))
  | [], D, t, h => by simp [plMap]
  | s :: r, D, t, h => by
    rw [plMap, has_plMap r _ t (h.put _ _), has_putv h]
    simp only [List.any_cons]
    cases decide (s.n = t) <;> cases r.any (fun p => decide (p.n = t)) <;> simp
/-- where no name stands twice, each is found. -/
theorem at_plMap : ∀ (l : List Pl) (D : DataW Value) (p : Pl) (z : DataW Value), IsMap D → p ∈ l → (l.map (·.n)).Nodup → (plMap l D).atKey (wkey p.n) z = .held p.val
  | [], D, p, z, h, hp, _ => by simp at hp
  | q :: r, D, p, z, h, hp, hd => by
    rw [List.map_cons, List.nodup_cons] at hd
    rw [plMap]
    rcases List.mem_cons.1 hp with rfl | hp
    · have : ∀ (r : List Pl) (D : DataW Value), ¬ p.n ∈ r.map (·.n) → (plMap r D).atKey (wkey p.n) z = D.atKey (wkey p.n) z := by
        intro r
        induction r with
        | nil => intro D _; rfl
        | cons s r ih =>
          intro D hn
          rw [List.map_cons, List.mem_cons, not_or] at hn
          rw [plMap, ih _ hn.2]
          exact atKey_put_other (fun e => hn.1 (wkey_inj e)) _ _
      rw [this r _ hd.1]
      exact atKey_put_same h (by trivial) _ _
    · exact at_plMap r _ p z (h.put _ _) hp hd.2

theorem zeroPl (w : World) : (zeroValue 73).run Tryd.prog w = .ok (.agg #[.string ByteArray.empty, .int .i64 0, .int .i64 0, .int .i64 0]) w := by kernel_rfl
theorem skeyed2 : Keyed Tryd.prog 9 := string_keyed Tryd.underlying9

/-- a name is asked for. -/
theorem pl_look {w : World} {b n : Nat} {l : List Pl} (h : w.ownsMap Tryd.prog 9 anyElem b n (plMap l (.map []))) (s : ByteArray) (hs : s.size ≤ maxLen) :
    ∃ v, (Instr.lookup 63 (.map (some b)) (.string s) true).run Tryd.prog w = .ok (.tuple #[v, .bool (l.any (fun p => decide (p.n = s)))]) w ∧ .held v = (plMap l (.map [])).atKey (wkey s) (.held (.agg #[.string ByteArray.empty, .int .i64 0, .int .i64 0, .int .i64 0])) := by
  obtain ⟨v, ps, hrun, hv⟩ := h.look_ok (zd := .held (.agg #[.string ByteArray.empty, .int .i64 0, .int .i64 0, .int .i64 0])) (zp := []) skeyed2 Tryd.underlying63 (zeroPl w) rfl (kl := wkey s) (keyOf_string_mk Tryd.underlying9 hs)
  rw [has_plMap _ _ _ isMap_empty] at hrun
  simp only [Maps.has, List.any_nil, Bool.or_false] at hrun
  simp only [anyElem, Option.some.injEq, Prod.mk.injEq] at hv
  exact ⟨v, hrun, hv.1⟩
end Go.Proofs.YtgcfhoojjgcpiaaDoor
