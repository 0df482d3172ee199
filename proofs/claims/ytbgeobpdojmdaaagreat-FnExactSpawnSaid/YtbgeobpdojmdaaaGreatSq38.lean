import Derived.Test.YtbgeobpdojmdaaaGreatSq33
import Derived.Test.YtbgeobpdojmdaaaGreatSq37
namespace Go.Proofs.YtbgeobpdojmdaaaGreat
set_option linter.unusedVariables false
set_option linter.unusedSimpArgs false
section
open Go.RowKit Go.Maps Go.WideMaps
set_option maxRecDepth 100000
theorem wpList_appR {B : Nat} {Q : World → List OR → Prop} (c : Carr B Q) (w : World) {ops : Array Oper} {rest : List Oper} {o : Oper} {a : Act} {Qx : Exit → Act → World → Prop} (hg : o.guard = none) (s x : Operand) (t : TypeId) (hop : o.op = Op.call { callee := Callee.builtin Builtin.append, args := #[s, x], argTypes := #[t, t] })
  (P S : List OR) {r : OR} (hR : Q w (P ++ r :: S)) {i : TypeInfo} {z : Value} (bytes : Nat)
  (hu : Tryz.prog.underlying t = some (.slice r.T)) (hi : Tryz.prog.info? r.T = some i) (hz : i.zero = some z) (hsize : i.size = r.k) (hby : i.bytes = bytes) (hzs : z.cells.size = r.k) (hsz : 0 < r.k) (hs : a.eval s = r.v)
  (ad : Addr) (m d : Nat) (hx : a.eval x = .slice (some ad) m d) (news : List Value) (hl : news.length = m * r.k) (hnews : ∀ j u, news[j]? = some u → w.cell? (ad.add j) = some u) (h1 : ∀ u ∈ news, u.oneCell' = true)
  (h63 : r.n + m ≤ maxLen) (hbytes : (r.n + m) * bytes ≤ 140737488355328) (N : Nat) (hN : r.n + m = N) (f : Value → OR) (hf : ∀ v, f v = ⟨r.T, r.k, v, N, r.cs ++ news⟩)
  (hK : ∀ s' c' w', Q w' (P ++ f (.slice s' N c') :: S) → wpList Tryz.prog ops Qx rest (a.put o.dst (.slice s' N c')) w') :
  wpList Tryz.prog ops Qx (o :: rest) a w := by
 refine wpList_plain hg fun K hK' => ?_
 obtain ⟨s', c', w', hrun, hq, _⟩ := c.app P S hR t o.type bytes hu hi hz hsize hby hzs hsz ad m d news hl hnews h1 h63 hbytes
 unfold Oper.wp
 simp [execOp, hop, resolve, invoke, builtin, hs, hx, hrun, Result.andThen]
 subst hN
 exact hK' _ _ (hK s' c' w' (by rw [hf]; exact hq))
theorem own_ne {w : World} {B g h : Nat} {P S : List OR} {r q : OR} (ho : Owns w B (P ++ r :: S)) (hr : r.v.ownBlock = some g) (hq : q ∈ S) (hq2 : q.v.ownBlock = some h) : ¬ g = h := by
 have h1 := (ho.perm (perm_mid P S r)).off hr
 intro e
 subst e
 exact h1 (mem_blks.2 ⟨q, List.mem_append_right _ hq, hq2⟩)
end
section
open Go.RowKit Go.Maps Go.WideMaps
set_option maxRecDepth 100000
theorem inW_of {w : World} {B : Nat} {g1 g2 g3 g4 : Option Addr} {d1 d2 d3 d4 : Nat} {ts : List TV} {W : Wd} (h : OW w B ⟨.slice g1 W.gens.length d1, .slice g2 W.free.length d2, .slice g3 W.tabs.length d3, .slice g4 W.res.length d4, ts⟩ W) : InW w B g1 g2 g3 g4 W := by
 obtain ⟨q1, r1, q2, r2, q3, r3, q4, r4, f1, f2, f3, f4, hIn⟩ := h.inW
 simp only [Value.slice.injEq] at f1 f2 f3 f4
 obtain ⟨rfl, -, rfl⟩ := f1
 obtain ⟨rfl, -, rfl⟩ := f2
 obtain ⟨rfl, -, rfl⟩ := f3
 obtain ⟨rfl, -, rfl⟩ := f4
 exact hIn
end
end Go.Proofs.YtbgeobpdojmdaaaGreat
