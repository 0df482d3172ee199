import Derived.Test.YtjbbagcpcepkoaaGreatDoorSf07
namespace Go.Proofs.YtjbbagcpcepkoaaGreatDoor
set_option maxRecDepth 100000
set_option maxHeartbeats 64000000
set_option linter.unusedVariables false
set_option linter.unusedSimpArgs false
section
open Go.RowKit Go.Maps Go.WideMaps
theorem jeg {A B C:List (ByteArray×Int)} (h:¬(A.length<=12/\B.length<=12/\C.length<=12)):okR A B C=false:=by
 unfold okR
 cases hh:(decide (A.length<=12)&&decide (B.length<=12)&&decide (C.length<=12))
 ·
  simp
 simp at hh;omega
theorem j8q (p1 q1 c1 p2 q2 c2 p3 q3 c3:Nat) (A B C:List (ByteArray×Int)) (w:World) (hA:j0y w (some ⟨p1,q1,none⟩) A) (hB:j0y w (some ⟨p2,q2,none⟩) B) (hC:j0y w (some ⟨p3,q3,none⟩) C) :
  Calls Tryz.prog 18 #[.agg #[.slice (some ⟨p1,q1,none⟩) A.length c1,.slice (some ⟨p2,q2,none⟩) B.length c2,.slice (some ⟨p3,q3,none⟩) C.length c3]] w λe w'=>e=.returned (.bool (okR A B C))/\Below w.heap.size w w':=by
 have hal:=alloc_old
 have haf:=j04
 by_cases hh:A.length<=12/\B.length<=12/\C.length<=12
 ·
  obtain⟨lA,lB,lC⟩:=hh
  have e:okR A B C=okL (A++B++C):=by simp[okR,lA,lB,lC]
  rw[e]
  exact j8k p1 q1 c1 p2 q2 c2 p3 q3 c3 A B C w hA hB hC lA lB lC _ rfl (by simp[Hid];omega) (by simp;omega)
 have E:Hid (okR A B C=false):=jeg hh
 obtain⟨x0,x1,x2,x3⟩:=(Blk.new w #[.slice (some ⟨p1,q1,none⟩) A.length c1,.slice (some ⟨p2,q2,none⟩) B.length c2,.slice (some ⟨p3,q3,none⟩) C.length c3] 35).three
 cases t1:decide ((12:Int)<(A.length:Int))
 ·
  cases t2:decide ((12:Int)<(B.length:Int))
  ·
   have t3:decide ((12:Int)<(C.length:Int))=true:=by simp at t1 t2 ⊢;omega
   go_enter Tryz.func18,Tryz.ntmps18
   go_wp2_with fail;go_ret;exact⟨j17 E.out.symm,by(with_reducible repeat first|exact Below.refl _ _|refine j00 ?_ _|refine j06 ?_ _|refine j02 ?_|refine j0g ?_ (by first|exact Nat.le_refl _|(dsimp only;omega)|(simp<;>omega)) _|refine j01 ?_ (by with_reducible assumption))⟩
  go_enter Tryz.func18,Tryz.ntmps18
  go_wp2_with fail;go_ret;exact⟨j17 E.out.symm,by(with_reducible repeat first|exact Below.refl _ _|refine j00 ?_ _|refine j06 ?_ _|refine j02 ?_|refine j0g ?_ (by first|exact Nat.le_refl _|(dsimp only;omega)|(simp<;>omega)) _|refine j01 ?_ (by with_reducible assumption))⟩
 go_enter Tryz.func18,Tryz.ntmps18
 go_wp2_with fail;go_ret;exact⟨j17 E.out.symm,by(with_reducible repeat first|exact Below.refl _ _|refine j00 ?_ _|refine j06 ?_ _|refine j02 ?_|refine j0g ?_ (by first|exact Nat.le_refl _|(dsimp only;omega)|(simp<;>omega)) _|refine j01 ?_ (by with_reducible assumption))⟩
def j2r (v:Value):Option (DataW Value×List MemPlace):=some (.held v,[])
structure Pl where
 n:ByteArray
 k:Int
 s:Int
 a:Int
def Pl.val (p:Pl):Value:=.agg #[.string p.n,.int .i64 p.k,.int .i64 p.s,.int .i64 p.a]
def j3e:List Pl->DataW Value->DataW Value
 | [],D=>D
 | p :: r,D=>j3e r (D.put (wkey p.n) (.held p.val))
theorem j85:∀(l:List Pl) (p:Pl) (D:DataW Value),j3e (l++[p]) D=(j3e l D).put (wkey p.n) (.held p.val)
 | [],p,D=>rfl
 | q :: r,p,D=>j85 r p _
theorem jhd {D:DataW Value} (hD:IsMap D) (s t:ByteArray) (d:DataW Value):Maps.has (D.put (wkey s) d) (wkey t)=(decide (s=t) || Maps.has D (wkey t)):=by
 by_cases h:s=t
 ·
  subst h
  rw[has_put_same hD (by trivial)];simp
 have hne:wkey t ≠ wkey s:=λe=>h (j5k e).symm
 rw[has_put_other hne];simp[h]
theorem j9g:∀(l:List Pl) (D:DataW Value) (t:ByteArray),IsMap D->Maps.has (j3e l D) (wkey t)=(l.any (λp=>decide (p.n=t)) || Maps.has D (wkey t))
 | [],D,t,h=>by simp[j3e]
 | s :: r,D,t,h=>by
  rw[j3e,j9g r _ t (h.put _ _),jhd h]
  simp only[List.any_cons]
  cases decide (s.n=t)<;>cases r.any (λp=>decide (p.n=t))<;>simp
theorem jbq:∀(l:List Pl) (D:DataW Value) (p:Pl) (z:DataW Value),IsMap D->p∈l->(l.map (·.n)).Nodup->(j3e l D).atKey (wkey p.n) z=.held p.val
 | [],D,p,z,h,hp,_=>by simp at hp
 | q :: r,D,p,z,h,hp,hd=>by
  rw[List.map_cons,List.nodup_cons] at hd
  rw[j3e]
  rcases List.mem_cons.1 hp with rfl|hp
  ·
   have:∀(r:List Pl) (D:DataW Value),¬p.n∈r.map (·.n)->(j3e r D).atKey (wkey p.n) z=D.atKey (wkey p.n) z:=by
    intro r
    induction r with
    | nil=>intro D _;rfl
    | cons s r ih =>
     intro D hn
     rw[List.map_cons,List.mem_cons,not_or] at hn
     rw[j3e,ih _ hn.2]
     exact atKey_put_other (λe=>hn.1 (j5k e)) _ _
   rw[this r _ hd.1]
   exact atKey_put_same h (by trivial) _ _
  exact jbq r _ p z (h.put _ _) hp hd.2
theorem jl8 (w:World):(zeroValue 124).run Tryz.prog w=.ok (.agg #[.string ByteArray.empty,.int .i64 0,.int .i64 0,.int .i64 0]) w:=by kernel_rfl
theorem j6u:Keyed Tryz.prog 9:=string_keyed Tryz.underlying9
theorem jjh {w:World} {b n:Nat} {l:List Pl} (h:w.ownsMap Tryz.prog 9 j2r b n (j3e l (.map []))) (s:ByteArray) (hs:s.size<=maxLen) :
  ∃v,(Instr.lookup 87 (.map (some b)) (.string s) true).run Tryz.prog w=.ok (.tuple #[v,.bool (l.any (λp=>decide (p.n=s)))]) w/\.held v=(j3e l (.map [])).atKey (wkey s) (.held (.agg #[.string ByteArray.empty,.int .i64 0,.int .i64 0,.int .i64 0])):=by
 obtain⟨v,ps,hrun,hv⟩:=h.look_ok (zd:=.held (.agg #[.string ByteArray.empty,.int .i64 0,.int .i64 0,.int .i64 0])) (zp:=[]) j6u Tryz.underlying87 (jl8 w) rfl (kl:=wkey s) (keyOf_string_mk Tryz.underlying9 hs)
 rw[j9g _ _ _ isMap_empty] at hrun
 simp only[Maps.has,List.any_nil,Bool.or_false] at hrun
 simp only[j2r,Option.some.injEq,Prod.mk.injEq] at hv
 exact⟨v,hrun,hv.1⟩
end
section
open Go.RowKit Go.Maps Go.WideMaps
abbrev Nm:=ByteArray->Option Int
def j39 (f:Nm) (s:ByteArray) (v:Int):Nm:=λt=>if t=s then some v else f t
def IM (D:DataW Value) (f:Nm):Prop:=IsMap D/\∀s,Maps.has D (wkey s)=(f s).isSome/\∀z,D.atKey (wkey s) (.held z)=.held (((f s).map (Value.int .i64)).getD z)
theorem IM.empty:IM (.map []) (λ_=>none):=⟨isMap_empty,λe=>⟨rfl,λz=>rfl⟩⟩
theorem IM.put {D:DataW Value} {f:Nm} (h:IM D f) (s:ByteArray) (v:Int):IM (D.put (wkey s) (.held (.int .i64 v))) (j39 f s v):=by
 refine⟨h.1.put _ _,λt=>?_⟩
 by_cases e:t=s
 ·
  subst e
  refine⟨?_,λz=>?_⟩
  ·
   rw[has_put_same h.1 (by trivial)];simp[j39]
  rw[atKey_put_same h.1 (by trivial)];simp[j39]
 have hne:wkey t ≠ wkey s:=λq=>e (j5k q)
 refine⟨?_,λz=>?_⟩
 ·
  rw[has_put_other hne,(h.2 t).1];simp[j39,e]
 rw[atKey_put_other hne,(h.2 t).2 z];simp[j39,e]
def QM (w:World) (b n:Nat) (f:Nm):Prop:=∃D,w.ownsMap Tryz.prog 9 j2r b n D/\IM D f
theorem QM.lt {w:World} {b n:Nat} {f:Nm} (h:QM w b n f):b<w.heap.size:=by
 obtain⟨D,h,_⟩:=h;exact h.lt
theorem QM.later {w w':World} {b n:Nat} {f:Nm} (h:QM w b n f) (hb:Below w.heap.size w w'):QM w' b n f:=by
 obtain⟨D,h1,h2⟩:=h
 exact⟨D,h1.kept (j1a hb) (by simp),h2⟩
theorem QM.same {w w':World} {b n:Nat} {f:Nm} (h:QM w b n f) (hs:w'.heap[b]?=w.heap[b]?):QM w' b n f:=by
 obtain⟨D,⟨es,clock,hb,F,hr⟩,h2⟩:=h
 exact⟨D,⟨es,clock,hs.trans hb,F,hr⟩,h2⟩
theorem jel (w:World):(zeroValue 3).run Tryz.prog w=.ok (.int .i64 0) w:=by kernel_rfl
theorem QM.look {w:World} {b n:Nat} {f:Nm} (h:QM w b n f) (s:ByteArray) (hs:s.size<=maxLen) :
  (Instr.lookup 91 (.map (some b)) (.string s) true).run Tryz.prog w=.ok (.tuple #[.int .i64 ((f s).getD 0),.bool (f s).isSome]) w:=by
 obtain⟨D,h1,h2⟩:=h
 obtain⟨v,ps,hrun,hv⟩:=h1.look_ok (zd:=.held (.int .i64 0)) (zp:=[]) j6u Tryz.underlying91 (jel w) rfl (kl:=wkey s) (keyOf_string_mk Tryz.underlying9 hs)
 rw[(h2.2 s).1] at hrun
 simp only[j2r,Option.some.injEq,Prod.mk.injEq] at hv
 rw[(h2.2 s).2] at hv
 have hv:=hv.1
 injection hv with hv
 rw[hrun,hv]
 cases f s<;>rfl
theorem QM.look1 {w:World} {b n:Nat} {f:Nm} (h:QM w b n f) (s:ByteArray) (hs:s.size<=maxLen) :
  (Instr.lookup 91 (.map (some b)) (.string s) false).run Tryz.prog w=.ok (.int .i64 ((f s).getD 0)) w:=by
 obtain⟨D,⟨es,clock,hb,F,hr,rfl⟩,h2⟩:=h
 have hz:=(h2.2 s).2 (.int .i64 0)
 rcases fit_look false j6u Tryz.underlying91 (jel w) hb F (keyOf_string_mk Tryz.underlying9 hs) with ⟨hrun,_,hat⟩|⟨e0,y,_,_,hrun,hRv,hat,_⟩
 ·
  have q:=(hat (.held (.int .i64 0))).symm.trans hz
  injection q with q
  rw[hrun]
  cases hf:f s with
  | none=>rfl
  | some v=>rw[hf] at q;simp at q;rw[<-q];rfl
 have q:=(hat (.held (.int .i64 0))).symm.trans hz
 simp only[j2r,Option.some.injEq] at hRv
 rw[<-hRv] at q
 injection q with q
 rw[hrun,q]
 cases f s<;>rfl
theorem QM.put {w:World} {b n:Nat} {f:Nm} (h:QM w b n f) (hn:n<maxLen) (s:ByteArray) (hs:s.size<=maxLen) (v:Int) :
  ∃w',(Instr.mapUpdate 91 (.map (some b)) (.string s) (.int .i64 v)).run Tryz.prog w=.ok () w'/\QM w' b (n+1) (j39 f s v)/\w.mapTurned w' b:=by
 obtain⟨D,h1,h2⟩:=h
 obtain⟨w',hrun,h3,h4⟩:=h1.store j6u Tryz.underlying91 hn (keyOf_string_mk Tryz.underlying9 hs) (val:=.int .i64 v) (d:=.held (.int .i64 v)) (ps:=[]) rfl
 exact⟨w',hrun,⟨_,h3,h2.put s v⟩,h4⟩
end
section
open Go.RowKit
def Strs (p q:Nat) (w:World) (s:Option Addr) (L:List ByteArray):Prop :=
 L=[]\/∃b o,s=some ⟨b,o,none⟩/\b<w.heap.size/\(¬b=p/\¬b=q)/\∀j,j<L.length->w.cell? ⟨b,o+j,none⟩=some (.string (L[j]?.getD ByteArray.empty))
def Nums (p q:Nat) (w:World) (s:Option Addr) (L:List Int):Prop :=
 L=[]\/∃b o,s=some ⟨b,o,none⟩/\b<w.heap.size/\(¬b=p/\¬b=q)/\∀j,j<L.length->w.cell? ⟨b,o+j,none⟩=some (.int .i64 (L[j]?.getD 0))
structure Tw (p q:Nat) (w w':World):Prop where
 os:w'.os=w.os
 tape:w'.tape=w.tape
 output:w'.output=w.output
 size:w.heap.size<=w'.heap.size
 block:∀k,k<w.heap.size->¬k=p->¬k=q->w'.heap[k]?=w.heap[k]?
theorem Tw.refl (p q:Nat) (w:World):Tw p q w w:=⟨rfl,rfl,rfl,Nat.le_refl _,λ_ _ _ _=>rfl⟩
theorem Tw.trans {p q:Nat} {a b c:World} (h:Tw p q a b) (g:Tw p q b c):Tw p q a c :=
 ⟨g.os.trans h.os,g.tape.trans h.tape,g.output.trans h.output,Nat.le_trans h.size g.size,λk h1 h2 h3=>(g.block k (Nat.lt_of_lt_of_le h1 h.size) h2 h3).trans (h.block k h1 h2 h3)⟩
theorem Tw.of {p q:Nat} {a b:World} (h:Below a.heap.size a b):Tw p q a b:=⟨h.os,h.tape,h.output,h.size,λk h1 _ _=>h.block k h1⟩
theorem Tw.set (p q:Nat) (w:World) (o:Nat) (u:Value):Tw p q w (w.setCell ⟨p,o,none⟩ u) :=
 ⟨rfl,rfl,rfl,by simp,λk _ h _=>Below.heap_setCell w ⟨p,o,none⟩ u k (by simpa using h)⟩
theorem Tw.set2 (p q:Nat) (w:World) (o:Nat) (u:Value):Tw p q w (w.setCell ⟨q,o,none⟩ u) :=
 ⟨rfl,rfl,rfl,by simp,λk _ _ h=>Below.heap_setCell w ⟨q,o,none⟩ u k (by simpa using h)⟩
theorem Tw.below {p q B:Nat} {a w w':World} (h:Tw p q w w') (hb:Below B a w) (hw:B<=w.heap.size) (hp:B<=p) (hq:B<=q):Below B a w' :=
 ⟨h.os.trans hb.os,h.tape.trans hb.tape,h.output.trans hb.output,Nat.le_trans hb.size h.size,λk hk=>(h.block k (by omega) (by omega) (by omega)).trans (hb.block k hk)⟩
theorem Tw.cell {p q:Nat} {w w':World} (h:Tw p q w w') {b o:Nat} (h1:b<w.heap.size) (h2:¬b=p) (h3:¬b=q):w'.cell? ⟨b,o,none⟩=w.cell? ⟨b,o,none⟩:=World.cell?_of_block (w:=w) (h.block b h1 h2 h3)
theorem Strs.two {p q:Nat} {w w':World} {s:Option Addr} {L:List ByteArray} (h:Strs p q w s L) (ht:Tw p q w w'):Strs p q w' s L:=by
 rcases h with h|⟨b,o,rfl,h1,h2,h3⟩
 ·
  exact Or.inl h
 exact Or.inr ⟨b,o,rfl,Nat.lt_of_lt_of_le h1 ht.size,h2,λj hj=>(ht.cell h1 h2.1 h2.2).trans (h3 j hj)⟩
theorem Nums.two {p q:Nat} {w w':World} {s:Option Addr} {L:List Int} (h:Nums p q w s L) (ht:Tw p q w w'):Nums p q w' s L:=by
 rcases h with h|⟨b,o,rfl,h1,h2,h3⟩
 ·
  exact Or.inl h
 exact Or.inr ⟨b,o,rfl,Nat.lt_of_lt_of_le h1 ht.size,h2,λj hj=>(ht.cell h1 h2.1 h2.2).trans (h3 j hj)⟩
theorem Strs.get {p q:Nat} {w:World} {s:Option Addr} {L:List ByteArray} (h:Strs p q w s L) {j:Nat} {x:ByteArray} (hj:L[j]?=some x):∃b o,s=some ⟨b,o,none⟩/\b<w.heap.size/\(¬b=p/\¬b=q)/\w.cell? ⟨b,o+j,none⟩=some (.string x):=by
 rcases h with rfl|⟨b,o,rfl,h1,h2,h3⟩
 ·
  simp at hj
 have:=h3 j (List.getElem?_eq_some_iff.1 hj).1
 rw[hj] at this
 exact⟨b,o,rfl,h1,h2,this⟩
theorem Nums.get {p q:Nat} {w:World} {s:Option Addr} {L:List Int} (h:Nums p q w s L) {j:Nat} {x:Int} (hj:L[j]?=some x):∃b o,s=some ⟨b,o,none⟩/\b<w.heap.size/\(¬b=p/\¬b=q)/\w.cell? ⟨b,o+j,none⟩=some (.int .i64 x):=by
 rcases h with rfl|⟨b,o,rfl,h1,h2,h3⟩
 ·
  simp at hj
 have:=h3 j (List.getElem?_eq_some_iff.1 hj).1
 rw[hj] at this
 exact⟨b,o,rfl,h1,h2,this⟩
structure Gd where
 w0:World
 B0:Nat
 p:Nat
 kb:Nat
 s1:Option Addr
 s2:Option Addr
 s3:Option Addr
 n1:Option Addr
 n2:Option Addr
 c1:Nat
 c2:Nat
 c3:Nat
 d1:Nat
 d2:Nat
 dk:Nat
 A:List (ByteArray×Int)
 B:List (ByteArray×Int)
 C:List (ByteArray×Int)
 T:Tre
structure Gd.Ok (G:Gd):Prop where
 a:j0y G.w0 G.s1 G.A
 b:j0y G.w0 G.s2 G.B
 c:j0y G.w0 G.s3 G.C
 t:InT G.w0 G.B0 G.n1 G.n2 G.T
 p:G.w0.heap.size<=G.p
 kb:G.w0.heap.size<=G.kb
 ne:¬G.kb=G.p
 k:kTre G.T
 ok:okR G.A G.B G.C=true
 tr:treP G.T
def lw (G:Gd) (top:Int) (sn:Option Addr) (nn cn:Nat) (sk:Option Addr) (ck:Nat) (ea inn:Bool) (sw:Option Addr) (nw cw:Nat) (fn:Bool) (last code node:Int):Array Value :=
 #[.slice G.s1 G.A.length G.c1,.slice G.s2 G.B.length G.c2,.slice G.s3 G.C.length G.c3,.slice G.n1 G.T.nodes.length G.d1,.slice G.n2 G.T.tops.length G.d2,.int .i64 top,.slice sn nn cn,.slice sk nn ck,.bool ea,.bool inn,.slice sw nw cw,.bool fn,.int .i64 last,.int .i64 code,.int .i64 node,.slice (some ⟨G.kb,0,none⟩) G.T.nodes.length G.dk]
structure Lv (G:Gd) (w:World) (top:Int) (env:Env) (md:Md) (last:Int) (K:KM) (sn:Option Addr) (cn:Nat) (sk:Option Addr) (ck:Nat) (sw:Option Addr) (cw:Nat):Prop where
 bx:Blk w G.p (lw G top sn env.length cn sk ck md.each (md.each || md.hears) sw md.wth.length cw md.fn last 0 (-1)) 55
 n:Strs G.p G.kb w sn (env.map (·.1))
 k:Nums G.p G.kb w sk (env.map (·.2))
 wl:Strs G.p G.kb w sw md.wth
 kl:G.kb<w.heap.size
 kc:∀j,j<G.T.nodes.length->w.cell? ⟨G.kb,j,none⟩=some (.int .i64 (K j))
 kf:∀j,w.frozen? ⟨G.kb,j,none⟩=false
 bl:Below G.w0.heap.size G.w0 w
structure Dd (G:Gd) (w:World) (c n:Int):Prop where
 ex:∃cs:Array Value,cs.size=16/\Blk w G.p cs 55/\cs[13]?=some (.int .i64 c)/\cs[14]?=some (.int .i64 n)/\cs[3]?=some (.slice G.n1 G.T.nodes.length G.d1)/\∃fb,cs[11]?=some (.bool fb)
 ne:¬c=0
 bl:Below G.w0.heap.size G.w0 w
end
section
open Go.RowKit
section
variable {G:Gd} {w:World} {top:Int} {env:Env} {md:Md} {last:Int} {K:KM} {sn sk sw:Option Addr} {cn ck cw:Nat}
theorem j0f (hG:G.Ok) (h:Lv G w top env md last K sn cn sk ck sw cw) (c n:Int) (hc:¬c=0) :
  Calls Tryz.prog 52 #[.pointer (some ⟨G.p,0,none⟩),.int .i64 c,.int .i64 n] w λe w'=>e=.returned (.int .i64 0)/\Dd G w' c n/\Tw G.p G.kb w w':=by
 have x13:w.cell? ⟨G.p,13,none⟩=some (.int .i64 0):=(h.bx.cell 13).trans rfl
 have x14:w.cell? ⟨G.p,14,none⟩=some (.int .i64 (-1)):=(h.bx.cell 14).trans rfl
 have y13:=h.bx.frozen 13
 have y14:=h.bx.frozen 14
 have hw0:=h.bl.size
 have hD:Hid (Dd G ((w.setCell ⟨G.p,13,none⟩ (.int .i64 c)).setCell ⟨G.p,14,none⟩ (.int .i64 n)) c n):=by
  refine⟨⟨_,?_,(h.bx.set 13 _).set 14 _,?_,?_,?_⟩,hc,(h.bl.setCell hG.p _).setCell hG.p _⟩<;>simp[lw]
 have hT:Hid (Tw G.p G.kb w ((w.setCell ⟨G.p,13,none⟩ (.int .i64 c)).setCell ⟨G.p,14,none⟩ (.int .i64 n))):=(Tw.set _ _ _ _ _).trans (Tw.set _ _ _ _ _)
 clear h hw0;go_enter Tryz.func52,Tryz.ntmps52
 go_wp2_with fail;go_ret;exact⟨rfl,hD.out,hT.out⟩
end
theorem j3t (p q:Nat) (s:Option Addr) (c:Nat) (L:List ByteArray) (x:ByteArray) (w:World) (hL:Strs p q w s L) (hl:L.length<=1048576) :
  Calls Tryz.prog 53 #[.slice s L.length c,.string x] w λe w'=>e=.returned (.bool (inL x L))/\w'=w:=by
 have HL:Hid (Strs p q w s L):=hL
 clear hL;go_enter Tryz.func53,Tryz.ntmps53
 go_wp2_with fail;go_loop [5] (λi=>∃k:Nat,k<=L.length/\i=.int .i64 k/\Hid (inL x L=inL x (L.drop k))) (λi=>L.length-(intOf i).toNat)
 case atStart=>exact⟨0,Nat.zero_le _,rfl,rfl⟩
 obtain⟨k,hk,rfl,hD⟩:=hrel
 by_cases hlt:k<L.length
 ·
  obtain⟨y,hy⟩:∃y,L[k]?=some y:=⟨L[k],by simp[hlt]⟩
  obtain⟨b,o,rfl,hb,_,e1⟩:=HL.out.get hy
  have hd:Hid (L.drop k=y :: L.drop (k+1)):=by
   show _=_
   rw[List.drop_eq_getElem_cons hlt]
   have:=(List.getElem?_eq_some_iff.1 hy).2
   rw[this]
  have hkI:(k:Int)<(L.length:Int):=by omega
  clear hy;by_cases e:y=x
  ·
   have hxx:(y.toList ==x.toList)=true:=j2l e
   have hT:Hid (inL x L=true):=by rw[hD.out,hd.out,e];simp[Hid,inL]
   go_wp2_with fail;go_ret;exact⟨by rw[hT.out];rfl,rfl⟩
  have hxx:(y.toList ==x.toList)=false:=j35 e
  have hT:Hid (inL x L=inL x (L.drop (k+1))):=by
   rw[hD.out,hd.out]
   show _=_
   simp[inL,e]
  go_wp2_with fail;go_round
  case rel=>exact⟨k+1,by omega,by go_num,hT⟩
  case measure=>simp[intOf];omega
 have hT:Hid (inL x L=false):=by rw[hD.out,List.drop_eq_nil_of_le (by omega)];simp[Hid,inL]
 go_wp2_with fail;go_ret;exact⟨by rw[hT.out];rfl,rfl⟩
end
section
open Go.RowKit
theorem jis {env:Env} {s:ByteArray} {j:Nat} {k:Int} (h:env[j]?=some (s,k)) (hn:∀(l:Nat) (x:ByteArray×Int),j<l->env[l]?=some x->¬x.1=s):look env s=some k:=by
 have hj:=(List.getElem?_eq_some_iff.1 h).1
 have e:env=env.take j++(s,k) :: env.drop (j+1):=by
  have:=(List.getElem?_eq_some_iff.1 h).2
  rw[<-this,<-List.drop_eq_getElem_cons hj,List.take_append_drop]
 unfold look
 rw[e,List.reverse_append,List.reverse_cons,List.append_assoc,List.find?_append]
 have hd:(env.drop (j+1)).reverse.find? (λp=>decide (p.1=s))=none:=by
  rw[List.find?_eq_none]
  intro x hx
  rw[List.mem_reverse] at hx
  obtain⟨l,hl,rfl⟩:=List.getElem_of_mem hx
  have:=hn (j+1+l) (env.drop (j+1))[l] (by omega) (by
   rw[List.getElem_drop]
   exact List.getElem?_eq_getElem _)
  simpa using this
 rw[hd]
 simp
theorem ji1 {env:Env} {s:ByteArray} (hn:∀(l:Nat) (x:ByteArray×Int),env[l]?=some x->¬x.1=s):look env s=none:=by
 unfold look
 have:env.reverse.find? (λp=>decide (p.1=s))=none:=by
  rw[List.find?_eq_none]
  intro x hx
  rw[List.mem_reverse] at hx
  obtain⟨l,hl,rfl⟩:=List.getElem_of_mem hx
  simpa using hn l _ (List.getElem?_eq_getElem hl)
 rw[this];rfl
section
variable {G:Gd} {w:World} {top:Int} {env:Env} {md:Md} {last:Int} {K:KM} {sn sk sw:Option Addr} {cn ck cw:Nat}
def jk8 (env:Env) (s:ByteArray) (r:Int):Prop:=(r=-1/\look env s=none)\/∃(j:Nat) (k:Int),r=j/\env[j]?=some (s,k)/\look env s=some k
theorem j6b (hG:G.Ok) (h:Lv G w top env md last K sn cn sk ck sw cw) (s:ByteArray) (hl:env.length<=1048576) :
  Calls Tryz.prog 118 #[.pointer (some ⟨G.p,0,none⟩),.string s] w λe w'=>(∃r:Int,e=.returned (.int .i64 r)/\jk8 env s r)/\w'=w:=by
 have x6:w.cell? ⟨G.p,6,none⟩=some (.slice sn env.length cn):=(h.bx.cell 6).trans rfl
 have HN:Hid (Strs G.p G.kb w sn (env.map (·.1))):=h.n
 clear h;go_enter Tryz.func118,Tryz.ntmps118
 go_wp2_with fail;go_loop [5] (λi=>∃m:Nat,m<=env.length/\i=.int .i64 ((m:Int)-1)/\Hid (∀(l:Nat) (x:ByteArray×Int),m<=l->env[l]?=some x->¬x.1=s)) (λi=>(intOf i+1).toNat)
 case atStart=>exact⟨env.length,Nat.le_refl _,by go_num,λl x hl hx=>by have:=(List.getElem?_eq_some_iff.1 hx).1;omega⟩
 obtain⟨m,hm,rfl,hA⟩:=hrel
 cases m with
 | zero =>
  have HL:Hid (look env s=none):=ji1 λl x hx=>hA.out l x (Nat.zero_le _) hx
  go_wp2_with fail;go_ret;exact⟨⟨_,rfl,Or.inl ⟨rfl,HL.out⟩⟩,rfl⟩
 | succ j =>
  have hj:j<env.length:=by omega
  obtain⟨⟨y,k⟩,hy⟩:∃y,env[j]?=some y:=⟨env[j],by simp[hj]⟩
  obtain⟨b,o,rfl,hb,_,e1⟩:=HN.out.get (j:=j) (x:=y) (by simp[hy])
  have HY:Hid (env[j]?=some (y,k)):=hy
  rw[show((j+1:Nat):Int)-1=(j:Int) by omega]
  have t0:decide ((0:Int)<=(j:Int))=true:=by simp
  have hjI0:(0:Int)<=(j:Int):=by omega
  have hjI:(j:Int)<(env.length:Int):=by omega
  clear hy;by_cases e:y=s
  ·
   subst e
   have hxx:(y.toList ==y.toList)=true:=j2l rfl
   have HL:Hid (look env y=some k):=jis HY.out λl x hl hx=>hA.out l x (by omega) hx
   go_wp2_with fail;go_ret;exact⟨⟨_,rfl,Or.inr ⟨j,k,rfl,HY.out,HL.out⟩⟩,rfl⟩
  have hxx:(y.toList ==s.toList)=false:=j35 e
  have hA2:Hid (∀(l:Nat) (x:ByteArray×Int),j<=l->env[l]?=some x->¬x.1=s):=λl x hl hx=>by
   by_cases q:l=j
   ·
    subst q;rw[HY.out] at hx;cases hx;exact e
   exact hA.out l x (by omega) hx
  go_wp2_with fail;go_round
  case rel=>exact⟨j,by omega,by go_num,hA2⟩
  case measure=>simp[intOf]<;>omega
theorem j40 (hG:G.Ok) (h:Lv G w top env md last K sn cn sk ck sw cw) (sort:Int) (s:ByteArray) :
  Calls Tryz.prog 95 #[.pointer (some ⟨G.p,0,none⟩),.int .i64 sort,.string s] w λe w'=>e=.returned (.int .i64 (dkL (j19 G.A G.B G.C sort) s))/\Below w.heap.size w w':=by
 have x0:w.cell? ⟨G.p,0,none⟩=some (.slice G.s1 G.A.length G.c1):=(h.bx.cell 0).trans rfl
 have x1:w.cell? ⟨G.p,1,none⟩=some (.slice G.s2 G.B.length G.c2):=(h.bx.cell 1).trans rfl
 have x2:w.cell? ⟨G.p,2,none⟩=some (.slice G.s3 G.C.length G.c3):=(h.bx.cell 2).trans rfl
 have hr:=jcx G.s1 G.s2 G.s3 G.c1 G.c2 G.c3 G.A G.B G.C sort w (hG.a.later h.bl) (hG.b.later h.bl) (hG.c.later h.bl)
 have hlen:Hid ((j19 G.A G.B G.C sort).length<=12):=by
  have:=hG.ok
  unfold okR at this
  simp only[Bool.and_eq_true,decide_eq_true_eq] at this
  show _<=_
  unfold j19
  split
  ·
   omega
  split
  ·
   omega
  split
  ·
   omega
  simp
 clear h;go_enter Tryz.func95,Tryz.ntmps95
 go_wp2_with fail;refine hr.mono ?_
 rintro e w1 ⟨⟨sl,cl,rfl,hD⟩,hb1⟩
 obtain⟨P,hP⟩:∃P,Hid (j19 G.A G.B G.C sort=P):=⟨_,rfl⟩
 rw[hP.out] at hD hlen ⊢
 have HD:Hid (j0y w1 sl P):=hD.later hb1
 have HB:Hid (Below w.heap.size w w1):=hb1
 have hPl:=hlen.out
 clear hr hD hb1 x0 x1 x2;go_wp2_with fail;go_loop [8] (λi=>∃k:Nat,k<=P.length/\i=.int .i64 k/\Hid (dkL P s=dkL (P.drop k) s)) (λi=>P.length-(intOf i).toNat)
 case atStart=>exact⟨0,Nat.zero_le _,rfl,rfl⟩
 obtain⟨k,hk,rfl,hE⟩:=hrel
 by_cases hlt:k<P.length
 ·
  obtain⟨b,o,rfl,hb,e1,e2⟩:=HD.out.get hlt
  obtain⟨⟨y,kd⟩,hy⟩:∃y,Hid (dAt P k=y):=⟨_,rfl⟩
  rw[hy.out] at e1 e2
  have hd:Hid (P.drop k=(y,kd) :: P.drop (k+1)):=by
   show _=_
   rw[List.drop_eq_getElem_cons hlt,<-hy.out]
   simp[dAt,hlt]
  have hkI:(k:Int)<(P.length:Int):=by omega
  by_cases e:y=s
  ·
   subst e
   have hxx:(y.toList ==y.toList)=true:=j2l rfl
   have hT:Hid (dkL P y=kd):=by rw[hE.out,hd.out];simp[Hid,dkL]
   go_wp2_with fail;go_ret;exact⟨by rw[hP.out,hT.out];rfl,HB.out⟩
  have hxx:(y.toList ==s.toList)=false:=j35 e
  have hT:Hid (dkL P s=dkL (P.drop (k+1)) s):=by rw[hE.out,hd.out];simp[Hid,dkL,e]
  go_wp2_with fail;go_round
  case rel=>exact⟨k+1,by omega,by go_num,hT⟩
  case measure=>simp[intOf];omega
 have hT:Hid (dkL P s=0):=by rw[hE.out,List.drop_eq_nil_of_le (by omega)];simp[Hid,dkL]
 go_wp2_with fail;go_ret;exact⟨by rw[hP.out,hT.out];rfl,HB.out⟩
end
end
section
open Go.RowKit
theorem j0j {T:Tre} {m:Nat} {n:Nd} (h:T.nodes[m]?=some n):nd T (m:Int)=n:=by simp[nd,h]
section
variable {G:Gd} {w:World} {top:Int} {env:Env} {md:Md} {last:Int} {K:KM} {sn sk sw:Option Addr} {cn ck cw:Nat}
theorem jft (hG:G.Ok) (h:Lv G w (top:Int) env md last K sn cn sk ck sw cw) (tp:Nat) (htp:top=(tp:Int)) (hle:tp<=G.T.tops.length) (s:ByteArray) :
  Calls Tryz.prog 150 #[.pointer (some ⟨G.p,0,none⟩),.string s] w λe w'=>e=.returned (.int .i64 ((fnOf G.T (G.T.tops.take tp) s).getD (-1)))/\Below w.heap.size w w':=by
 subst htp
 have x3':w.cell? ⟨G.p,3,none⟩=some (.slice G.n1 G.T.nodes.length G.d1):=(h.bx.cell 3).trans rfl
 have x4':w.cell? ⟨G.p,4,none⟩=some (.slice G.n2 G.T.tops.length G.d2):=(h.bx.cell 4).trans rfl
 have x5':w.cell? ⟨G.p,5,none⟩=some (.int .i64 (tp:Int)):=(h.bx.cell 5).trans rfl
 have hpl:=h.bx.lt
 have HT:Hid (InT w G.B0 G.n1 G.n2 G.T):=hG.t.later h.bl
 have htl:G.T.tops.length<=1048576:=hG.k.2
 have hnl:G.T.nodes.length<=1048576:=hG.k.1.1
 have HV:Hid (∀x∈G.T.tops,∃m:Nat,x=m/\m<G.T.nodes.length):=λx hx=>by
  obtain⟨j,hj,rfl⟩:=List.getElem_of_mem hx
  obtain⟨m,n,e1,e2,_⟩:=hG.tr.2.2 j _ (List.getElem?_eq_getElem hj)
  exact⟨m,e1,(List.getElem?_eq_some_iff.1 e2).1⟩
 have HC:Hid (w.cell? ⟨G.p,3,none⟩=some (.slice G.n1 G.T.nodes.length G.d1)/\w.cell? ⟨G.p,4,none⟩=some (.slice G.n2 G.T.tops.length G.d2)/\w.cell? ⟨G.p,5,none⟩=some (.int .i64 (tp:Int))):=⟨x3',x4',x5'⟩
 clear h;go_enter Tryz.func150,Tryz.ntmps150
 go_wp2_with fail;clear x3' x4' x5';go_loopw [5] (λi wr=>∃j:Nat,j<=tp/\i=.int .i64 j/\Hid (fnOf G.T (G.T.tops.take tp) s=fnOf G.T ((G.T.tops.take tp).drop j) s)/\Hid (Below w.heap.size w wr)) (λi _=>tp-(intOf i).toNat)
 case atStart=>exact⟨0,Nat.zero_le _,rfl,rfl,Below.refl _ _⟩
 obtain⟨j,hj,rfl,hF,hb⟩:=hrel
 have x3:=(hb.out.cell (p:=⟨G.p,3,none⟩) hpl).trans HC.out.1
 have x4:=(hb.out.cell (p:=⟨G.p,4,none⟩) hpl).trans HC.out.2.1
 have x5:=(hb.out.cell (p:=⟨G.p,5,none⟩) hpl).trans HC.out.2.2
 by_cases hlt:j<tp
 ·
  obtain⟨x,hxj⟩:=j0q (L:=G.T.tops) (k:=j) (by omega)
  obtain⟨tb,tof,hn2,_,htb,p00⟩:=j05 HT.out.t hxj
  obtain⟨t,rfl,ht⟩:=HV.out x (List.mem_of_getElem? hxj)
  obtain⟨n,hn⟩:=j0q ht
  obtain⟨nb,no,hn1,_,hnb,s9,c9,e0,e1,e2,e3,_⟩:=j15 HT.out.n hn
  rw[hn1] at x3
  rw[hn2] at x4
  have q0:=(hb.out.cell (p:=⟨tb,tof+j,none⟩) htb).trans p00
  have q1:=(hb.out.cell (p:=⟨nb,no+t*4,none⟩) hnb).trans e0
  have q2:=(hb.out.cell (p:=⟨nb,no+t*4+1,none⟩) hnb).trans e1
  have q3:=(hb.out.cell (p:=⟨nb,no+t*4+2,none⟩) hnb).trans e2
  have q4:=(hb.out.cell (p:=⟨nb,no+t*4+3,none⟩) hnb).trans e3
  have HN:Hid (nd G.T (t:Int)=n):=j0j hn
  have hd:Hid ((G.T.tops.take tp).drop j=(t:Int) :: (G.T.tops.take tp).drop (j+1)):=by
   show _=_
   have hjl:j<(G.T.tops.take tp).length:=by simp;omega
   rw[List.drop_eq_getElem_cons hjl]
   congr 1
   rw[List.getElem_take]
   exact(List.getElem?_eq_some_iff.1 hxj).2
  have tI:(t:Int)<(G.T.nodes.length:Int):=by omega
  have jI:(j:Int)<(G.T.tops.length:Int):=by omega
  have t0:decide ((j:Int)<(tp:Int))=true:=by simp;omega
  clear hxj hn e0 e1 e2 e3 p00;go_upto_region 4 with fail
  have hgp:G.p<wr.heap.size:=Nat.lt_of_lt_of_le hpl hb.out.size
  have htb2:tb<wr.heap.size:=Nat.lt_of_lt_of_le htb hb.out.size
  have hnb2:nb<wr.heap.size:=Nat.lt_of_lt_of_le hnb hb.out.size
  have hz:Hid (∀ob:Obj,(λW=>W.cell? ⟨G.p,3,none⟩=some (.slice (some ⟨nb,no,none⟩) G.T.nodes.length G.d1)/\W.cell? ⟨G.p,4,none⟩=some (.slice (some ⟨tb,tof,none⟩) G.T.tops.length G.d2)/\W.cell? ⟨tb,tof+j,none⟩=some (.int .i64 (t:Int))/\W.cell? ⟨nb,no+t*4,none⟩=some (.int .i64 n.kind)/\W.cell? ⟨nb,no+t*4+1,none⟩=some (.string n.text)/\W.cell? ⟨nb,no+t*4+2,none⟩=some (.int .i64 n.num)/\W.cell? ⟨nb,no+t*4+3,none⟩=some (.slice s9 n.kids.length c9)) ((wr.alloc ob).drew)):=λob=>by
   have bz:Below wr.heap.size wr ((wr.alloc ob).drew):=j02 (j00 (Below.refl _ _) _)
   exact⟨(bz.cell (p:=⟨G.p,3,none⟩) hgp).trans x3,(bz.cell (p:=⟨G.p,4,none⟩) hgp).trans x4,(bz.cell (p:=⟨tb,tof+j,none⟩) htb2).trans q0,(bz.cell (p:=⟨nb,no+t*4,none⟩) hnb2).trans q1,(bz.cell (p:=⟨nb,no+t*4+1,none⟩) hnb2).trans q2,(bz.cell (p:=⟨nb,no+t*4+2,none⟩) hnb2).trans q3,(bz.cell (p:=⟨nb,no+t*4+3,none⟩) hnb2).trans q4⟩
  refine wp_region_held_drew (S:=(λW=>W.cell? ⟨G.p,3,none⟩=some (.slice (some ⟨nb,no,none⟩) G.T.nodes.length G.d1)/\W.cell? ⟨G.p,4,none⟩=some (.slice (some ⟨tb,tof,none⟩) G.T.tops.length G.d2)/\W.cell? ⟨tb,tof+j,none⟩=some (.int .i64 (t:Int))/\W.cell? ⟨nb,no+t*4,none⟩=some (.int .i64 n.kind)/\W.cell? ⟨nb,no+t*4+1,none⟩=some (.string n.text)/\W.cell? ⟨nb,no+t*4+2,none⟩=some (.int .i64 n.num)/\W.cell? ⟨nb,no+t*4+3,none⟩=some (.slice s9 n.kids.length c9))) (by kernel_rfl) ?_ (λhHeld=>?_)
  ·
   exact⟨x3,x4,q0,q1,q2,q3,q4⟩
  refine wpr 0 15 ?_;simp only[zs];refine wpr 1 16 ?_;simp only[zs];refine wpr 2 17 ?_;simp only[zs];refine wpr 3 18 ?_;simp only[zs];refine wpr 4 19 ?_;simp only[zs];refine wpr 5 20 ?_;simp only[zs];refine wpr 6 21 ?_;simp only[zs];refine wpr 7 22 ?_;simp only[zs];refine wpr 8 23 ?_;simp only[zs];refine wpr 9 24 ?_;simp only[zs];refine wpr 10 25 ?_;simp only[zs];refine wpr 11 26 ?_
  simp only[zs];refine wpr 12 27 ?_;simp only[zs];refine wpr 13 28 ?_;simp only[zs];refine wpr 14 29 ?_;simp only[zs];refine wpy 15 λK hK=>?_
  go_simp;refine hK.out _ _ ?_ (λhHeld=>?_)
  ·
   exact hz.out _
  clear hK K;try simp only[zs]
  refine wpy 16 λK hK=>?_
  go_simp;refine hK.out _ _ ?_ (λhHeld=>?_)
  ·
   exact hz.out _
  clear hK K;try simp only[zs]
  refine wpAnyH_done (by kernel_rfl) ?_ _
  have kz:Blk ((wr.alloc (.cells #[.int .i64 n.kind,.string n.text,.int .i64 n.num,.slice s9 n.kids.length c9] 73)).drew) wr.heap.size #[.int .i64 n.kind,.string n.text,.int .i64 n.num,.slice s9 n.kids.length c9] 73:=Blk.new wr _ _
  obtain⟨z0,z1,z2,z3,z4⟩:=Blk.four' kz
  have B2:Hid (Below w.heap.size w ((wr.alloc (.cells #[.int .i64 n.kind,.string n.text,.int .i64 n.num,.slice s9 n.kids.length c9] 73)).drew)):=j02 (j00 hb.out _)
  have y4:=(hz.out (.cells #[.int .i64 n.kind,.string n.text,.int .i64 n.num,.slice s9 n.kids.length c9] 73)).2.1
  have y5:=(hz.out (.cells #[.int .i64 n.kind,.string n.text,.int .i64 n.num,.slice s9 n.kids.length c9] 73)).2.2.1
  clear kz x3 x4 x5 q0 q1 q2 q3 q4 hz hHeld;obtain⟨Z,hZ⟩:∃Z,(wr.alloc (.cells #[.int .i64 n.kind,.string n.text,.int .i64 n.num,.slice s9 n.kids.length c9] 73)).drew=Z:=⟨_,rfl⟩
  rw[hZ] at z0 z1 z2 z3 z4 y4 y5 B2 ⊢
  by_cases k33:n.kind=33
  ·
   have t33:(n.kind ==33)=true:=by simp[k33]
   by_cases ets:n.text=s
   ·
    have txx:(n.text.toList ==s.toList)=true:=j2l ets
    have hT:Hid (fnOf G.T (G.T.tops.take tp) s=some (t:Int)):=by rw[hF.out,hd.out];simp[Hid,fnOf,HN.out,k33,ets]
    go_wp2_with fail;go_ret;exact⟨by rw[hT.out];rfl,B2.out⟩
   have txx:(n.text.toList ==s.toList)=false:=j35 ets
   have hT:Hid (fnOf G.T (G.T.tops.take tp) s=fnOf G.T ((G.T.tops.take tp).drop (j+1)) s):=by rw[hF.out,hd.out];simp[Hid,fnOf,HN.out,ets]
   go_wp2_with fail;go_roundw
   case rel=>exact⟨j+1,by omega,by go_num,hT,B2⟩
   case measure=>simp[intOf];omega
  have t33:(n.kind ==33)=false:=by simp[k33]
  have hT:Hid (fnOf G.T (G.T.tops.take tp) s=fnOf G.T ((G.T.tops.take tp).drop (j+1)) s):=by rw[hF.out,hd.out];simp[Hid,fnOf,HN.out,k33]
  go_wp2_with fail;go_roundw
  case rel=>exact⟨j+1,by omega,by go_num,hT,B2⟩
  case measure=>simp[intOf];omega
 have hj2:j=tp:=by omega
 subst hj2
 have hT:Hid (fnOf G.T (G.T.tops.take j) s=none):=by rw[hF.out,List.drop_eq_nil_of_le (by simp;omega)];rfl
 have t0:decide ((j:Int)<(j:Int))=false:=by simp
 go_wp2_with fail;go_ret;exact⟨by rw[hT.out];rfl,hb.out⟩
end
end
section
open Go.RowKit
theorem Strs.later {p q:Nat} {w w':World} {s:Option Addr} {L:List ByteArray} (h:Strs p q w s L) (hb:Below w.heap.size w w'):Strs p q w' s L:=h.two (Tw.of hb)
theorem Nums.later {p q:Nat} {w w':World} {s:Option Addr} {L:List Int} (h:Nums p q w s L) (hb:Below w.heap.size w w'):Nums p q w' s L:=h.two (Tw.of hb)
section
variable {G:Gd} {w w':World} {top:Int} {env:Env} {md:Md} {last:Int} {K:KM} {sn sk sw:Option Addr} {cn ck cw:Nat}
theorem Lv.later (h:Lv G w top env md last K sn cn sk ck sw cw) (hb:Below w.heap.size w w'):Lv G w' top env md last K sn cn sk ck sw cw :=
 ⟨h.bx.later hb,h.n.later hb,h.k.later hb,h.wl.later hb,Nat.lt_of_lt_of_le h.kl hb.size,λj hj=>(hb.cell (p:=⟨G.kb,j,none⟩) h.kl).trans (h.kc j hj),λj=>(hb.frozen (p:=⟨G.kb,j,none⟩) h.kl).trans (h.kf j),j01 h.bl hb⟩
def Dg (G:Gd) (sort:Int) (s:ByteArray):Int:=dkL (j19 G.A G.B G.C sort) s
def j4c (G:Gd) (w:World) (top:Int) (env:Env) (md:Md) (last:Int) (K:KM) (sn:Option Addr) (cn:Nat) (sk:Option Addr) (ck:Nat) (sw:Option Addr) (cw:Nat) (node:Int) (r:Except Int Int) (e:Ending) (w':World):Prop :=
 (match r with
 | .error c=>e=.returned (.int .i64 0)/\Dd G w' c node
 | .ok k=>e=.returned (.int .i64 k)/\Lv G w' top env md last K sn cn sk ck sw cw)/\Tw G.p G.kb w w'
theorem j4c.bad {c node:Int} {r:Except Int Int} (hr:r=.error c) (hd:Dd G w' c node) (ht:Tw G.p G.kb w w'):j4c G w top env md last K sn cn sk ck sw cw node r (.returned (.int .i64 0)) w':=by subst hr;exact⟨⟨rfl,hd⟩,ht⟩
theorem j4c.good {k node:Int} {r:Except Int Int} (hr:r=.ok k) (hl:Lv G w' top env md last K sn cn sk ck sw cw) (ht:Tw G.p G.kb w w'):j4c G w top env md last K sn cn sk ck sw cw node r (.returned (.int .i64 k)) w':=by subst hr;exact⟨⟨rfl,hl⟩,ht⟩
theorem j4c.c3 {node:Int} {r:Except Int Int} {e:Ending} (h:j4c G w top env md last K sn cn sk ck sw cw node r e w'):w'.cell? ⟨G.p,3,none⟩=some (.slice G.n1 G.T.nodes.length G.d1):=by
 cases r with
 | error c=>obtain⟨⟨_,h⟩,_⟩:=h;obtain⟨cs,_,h1,_,_,h2,_⟩:=h.ex;exact(h1.cell 3).trans h2
 | ok k=>obtain⟨⟨_,h⟩,_⟩:=h;exact(h.bx.cell 3).trans rfl
theorem j4c.bl {node:Int} {r:Except Int Int} {e:Ending} (h:j4c G w top env md last K sn cn sk ck sw cw node r e w'):Below G.w0.heap.size G.w0 w':=by
 cases r with
 | error c=>exact h.1.2.bl
 | ok k=>exact h.1.2.bl
theorem j81 (hG:G.Ok) (h:Lv G w top env md last K sn cn sk ck sw cw) (hw:md.wth.length<=1048576) (s:ByteArray) (node:Int) :
  Calls Tryz.prog 134 #[.pointer (some ⟨G.p,0,none⟩),.string s,.int .i64 node] w λe w'=>j4c G w top env md last K sn cn sk ck sw cw node (j2b (Dg G) md s) e w':=by
 have hr:=j40 hG h 1 s
 have H:Hid (Lv G w top env md last K sn cn sk ck sw cw):=h
 clear h;go_enter Tryz.func134,Tryz.ntmps134
 go_wp2_with fail;refine hr.mono ?_
 rintro e w1 ⟨rfl,hb1⟩
 have H1:Hid (Lv G w1 top env md last K sn cn sk ck sw cw):=H.out.later hb1
 have T1:Hid (Tw G.p G.kb w w1):=Tw.of hb1
 obtain⟨k,hk⟩:∃k,Hid (Dg G 1 s=k):=⟨_,rfl⟩
 rw[show dkL (j19 G.A G.B G.C 1) s=k from hk.out]
 clear hr hb1 H;by_cases k0:k=0
 ·
  subst k0
  have hE:Hid (j2b (Dg G) md s=.error 3):=by simp[Hid,j2b,hk.out]
  go_wp2_with fail;refine(j0f hG H1.out 3 node (by omega)).mono ?_
  rintro e w2 ⟨rfl,hd,ht⟩
  go_wp2_with fail;go_ret;exact j4c.bad hE.out hd (T1.out.trans ht)
 have tk:(k ==0)=false:=by simp[k0]
 have x10:w1.cell? ⟨G.p,10,none⟩=some (.slice sw md.wth.length cw):=(H1.out.bx.cell 10).trans rfl
 go_wp2_with fail;refine(j3t G.p G.kb sw cw md.wth s _ H1.out.wl hw).mono ?_
 rintro e w2 ⟨rfl,hq⟩
 rw[hq]
 clear hq w2;cases hi:inL s md.wth
 ·
  have hE:Hid (j2b (Dg G) md s=.error 5):=by simp[Hid,j2b,hk.out,k0,hi]
  go_wp2_with fail;refine(j0f hG H1.out 5 node (by omega)).mono ?_
  rintro e w2 ⟨rfl,hd,ht⟩
  go_wp2_with fail;go_ret;exact j4c.bad hE.out hd (T1.out.trans ht)
 have hE:Hid (j2b (Dg G) md s=.ok k):=by simp[Hid,j2b,hk.out,k0,hi]
 go_wp2_with fail;go_ret;exact j4c.good hE.out H1.out T1.out
end
theorem FitL.mem {K:Nat->List Int} {ok:Nat->Prop} {ks:List Int} {a e:Nat} (h:FitL K ok ks a e):∀x∈ks,∃(k b:Nat),x=k/\ok k/\FitL K ok (K k) b k/\a<=b/\k<e:=by
 induction h with
 | nil nx=>intro x hx;simp at hx
 | cons nx k ks e h1 h2 h3 h4 _ ih =>
  intro x hx
  have hle:=h4.le
  rcases List.mem_cons.1 hx with rfl|hx
  ·
   exact⟨k,nx,rfl,h2,h3,Nat.le_refl _,by omega⟩
  obtain⟨k',b,e1,e2,e3,e4,e5⟩:=ih x hx
  exact⟨k',b,e1,e2,e3,by have:=h3.le;omega,e5⟩
theorem okN.kid {T:Tre} {m:Nat} {n:Nd} (h:okN T m) (hn:T.nodes[m]?=some n) {x:Int} (hx:x∈n.kids):∃(k:Nat) (n':Nd),x=k/\T.nodes[k]?=some n':=by
 obtain⟨n2,e1,_,e3,e4⟩:=h
 rw[hn] at e1
 cases e1
 obtain⟨j,hj,rfl⟩:=List.getElem_of_mem hx
 obtain⟨k,n',a,b,_⟩:=e4 j _ _ (List.getElem?_eq_getElem hj) (List.getElem?_eq_getElem (by omega))
 exact⟨k,n',a,b⟩
end
section
open Go.RowKit
theorem Gd.Ok.node {G:Gd} (hG:G.Ok) {m:Nat} {n:Nd} (hn:G.T.nodes[m]?=some n):∃nb no s9 c9,G.n1=some ⟨nb,no,none⟩/\nb<G.w0.heap.size/\G.w0.cell? ⟨nb,no+m*4,none⟩=some (.int .i64 n.kind)/\G.w0.cell? ⟨nb,no+m*4+1,none⟩=some (.string n.text)/\G.w0.cell? ⟨nb,no+m*4+2,none⟩=some (.int .i64 n.num)/\G.w0.cell? ⟨nb,no+m*4+3,none⟩=some (.slice s9 n.kids.length c9)/\Els 1 cInt G.w0 G.B0 s9 n.kids:=by
 obtain⟨b,o,e,_,h1,s9,c9,e0,e1,e2,e3,e4⟩:=j15 hG.t.n hn
 exact⟨b,o,s9,c9,e,h1,e0,e1,e2,e3,e4⟩
theorem jeo {T:Tre} {ah:List Int} {s:ByteArray} {t:Int} (h:fnOf T ah s=some t):t∈ah/\(nd T t).kind=33/\(nd T t).text=s:=by
 unfold fnOf at h
 have h1:=List.mem_of_find?_eq_some h
 have h2:=List.find?_some h
 simp at h2
 exact⟨h1,h2⟩
section
variable {G:Gd} {w w':World} {top:Int} {env:Env} {md:Md} {last:Int} {K:KM} {sn sk sw:Option Addr} {cn ck cw:Nat}
theorem jfn (hG:G.Ok) (h:Lv G w top env md last K sn cn sk ck sw cw) (tp:Nat) (htp:top=(tp:Int)) (hle:tp<=G.T.tops.length) (i:Nat) (n:Nd) (hn:G.T.nodes[i]?=some n) (sa:Option Addr) (ca:Nat) (ks:List Int) (ha:Nums G.p G.kb w sa ks) (hks:ks.length=n.kids.length) :
  Calls Tryz.prog 135 #[.pointer (some ⟨G.p,0,none⟩),.int .i64 (i:Int),.slice sa ks.length ca] w λe w'=>j4c G w top env md last K sn cn sk ck sw cw (i:Int) (j2m G.T (G.T.tops.take tp) n ks) e w':=by
 obtain⟨nb,no,s9,c9,en1,hnb,e0,e1,e2,e3,ekids⟩:=hG.node hn
 have hiN:i<G.T.nodes.length:=(List.getElem?_eq_some_iff.1 hn).1
 have hnl:G.T.nodes.length<=1048576:=hG.k.1.1
 have hkn:=hG.k.1.2 n (List.mem_of_getElem? hn)
 have hkl:n.kids.length<=1048576:=hkn.2
 have x3:w.cell? ⟨G.p,3,none⟩=some (.slice (some ⟨nb,no,none⟩) G.T.nodes.length G.d1):=by rw[<-en1];exact(h.bx.cell 3).trans rfl
 have q0:=(h.bl.cell (p:=⟨nb,no+i*4,none⟩) hnb).trans e0
 have q1:=(h.bl.cell (p:=⟨nb,no+i*4+1,none⟩) hnb).trans e1
 have q2:=(h.bl.cell (p:=⟨nb,no+i*4+2,none⟩) hnb).trans e2
 have q3:=(h.bl.cell (p:=⟨nb,no+i*4+3,none⟩) hnb).trans e3
 have iI:(i:Int)<(G.T.nodes.length:Int):=by omega
 have bz:Hid (Below w.heap.size w (w.alloc (.cells #[.int .i64 n.kind,.string n.text,.int .i64 n.num,.slice s9 n.kids.length c9] 73))):=j00 (Below.refl _ _) _
 have k7:=Blk.new w #[.int .i64 n.kind,.string n.text,.int .i64 n.num,.slice s9 n.kids.length c9] 73
 have H1:Hid (Lv G (w.alloc (.cells #[.int .i64 n.kind,.string n.text,.int .i64 n.num,.slice s9 n.kids.length c9] 73)) top env md last K sn cn sk ck sw cw):=h.later bz.out
 have A1:Hid (Nums G.p G.kb (w.alloc (.cells #[.int .i64 n.kind,.string n.text,.int .i64 n.num,.slice s9 n.kids.length c9] 73)) sa ks):=ha.later bz.out
 have HN:Hid (nd G.T (i:Int)=n):=j0j hn
 clear h ha e0 e1 e2 e3 ekids;obtain⟨z0,z1,z2,z3,z4⟩:=Blk.four' k7
 go_enter Tryz.func135,Tryz.ntmps135
 go_wp2_with fail;obtain⟨X,hX⟩:∃X,w.alloc (.cells #[.int .i64 n.kind,.string n.text,.int .i64 n.num,.slice s9 n.kids.length c9] 73)=X:=⟨_,rfl⟩
 obtain⟨k7b,hk7⟩:∃k,w.heap.size=k:=⟨_,rfl⟩
 rw[hX] at bz k7 H1 A1 ⊢
 have K7:Hid (Blk X k7b #[.int .i64 n.kind,.string n.text,.int .i64 n.num,.slice s9 n.kids.length c9] 73):=by rw[<-hk7];exact k7
 have T1:Hid (Tw G.p G.kb w X):=Tw.of bz.out
 clear z0 z1 z2 z3 z4 x3 q0 q1 q2 q3 k7 hX;refine(jft hG H1.out tp htp hle n.text).mono ?_
 rintro e w2 ⟨rfl,hb2⟩
 have H2:Hid (Lv G w2 top env md last K sn cn sk ck sw cw):=H1.out.later hb2
 have A2:Hid (Nums G.p G.kb w2 sa ks):=A1.out.later hb2
 have K72:Hid (Blk w2 k7b #[.int .i64 n.kind,.string n.text,.int .i64 n.num,.slice s9 n.kids.length c9] 73):=K7.out.later hb2
 have T2:Hid (Tw G.p G.kb w w2):=T1.out.trans (Tw.of hb2)
 clear hb2 H1 A1 K7 T1 bz;cases hf:fnOf G.T (G.T.tops.take tp) n.text with
 | none =>
  have hE:Hid (j2m G.T (G.T.tops.take tp) n ks=.error 3):=by simp[Hid,j2m,hf]
  have eq:(Option.none:Option Int).getD (-1)=-1:=rfl
  rw[eq]
  go_wp2_with fail;refine(j0f hG H2.out 3 (i:Int) (by omega)).mono ?_
  rintro e w3 ⟨rfl,hd,ht⟩
  go_wp2_with fail;go_ret;exact j4c.bad hE.out hd (T2.out.trans ht)
 | some t0 =>
  obtain⟨ht1,ht2,ht3⟩:=jeo hf
  obtain⟨t,fn,rfl,hfn⟩:∃(t:Nat) (fn:Nd),t0=t/\G.T.nodes[t]?=some fn:=by
   obtain⟨j,hj,e⟩:=List.getElem_of_mem (List.mem_of_mem_take ht1)
   obtain⟨m,nn,a,b,_⟩:=hG.tr.2.2 j _ (List.getElem?_eq_getElem hj)
   exact⟨m,nn,by rw[<-e];exact a,b⟩
  have hokt:okN G.T t:=by
   obtain⟨k,b,a1,a2,_⟩:=hG.tr.2.1.mem (t:Int) (List.mem_of_mem_take ht1)
   have:t=k:=by omega
   subst this;exact a2
  have HF:Hid (nd G.T (t:Int)=fn):=j0j hfn
  have htN:t<G.T.nodes.length:=(List.getElem?_eq_some_iff.1 hfn).1
  have hfl:fn.kids.length<=1048576:=(hG.k.1.2 fn (List.mem_of_getElem? hfn)).2
  obtain⟨nb',no',sf,cf,en1',hnb',e0,e1,e2,e3,ekids⟩:=hG.node hfn
  obtain⟨rfl,rfl⟩:nb'=nb/\no'=no:=by rw[en1] at en1';cases en1';exact⟨rfl,rfl⟩
  have x3:w2.cell? ⟨G.p,3,none⟩=some (.slice (some ⟨nb',no',none⟩) G.T.nodes.length G.d1):=by rw[<-en1];exact(H2.out.bx.cell 3).trans rfl
  have q0:=(H2.out.bl.cell (p:=⟨nb',no'+t*4,none⟩) hnb).trans e0
  have q1:=(H2.out.bl.cell (p:=⟨nb',no'+t*4+1,none⟩) hnb).trans e1
  have q2:=(H2.out.bl.cell (p:=⟨nb',no'+t*4+2,none⟩) hnb).trans e2
  have q3:=(H2.out.bl.cell (p:=⟨nb',no'+t*4+3,none⟩) hnb).trans e3
  have tI:(t:Int)<(G.T.nodes.length:Int):=by omega
  have t0n:decide ((t:Int)<0)=false:=by simp
  have bz:Hid (Below w2.heap.size w2 (w2.alloc (.cells #[.int .i64 fn.kind,.string fn.text,.int .i64 fn.num,.slice sf fn.kids.length cf] 73))):=j00 (Below.refl _ _) _
  have k9:=Blk.new w2 #[.int .i64 fn.kind,.string fn.text,.int .i64 fn.num,.slice sf fn.kids.length cf] 73
  have K73:=K72.out.later bz.out
  have H3:Hid (Lv G (w2.alloc (.cells #[.int .i64 fn.kind,.string fn.text,.int .i64 fn.num,.slice sf fn.kids.length cf] 73)) top env md last K sn cn sk ck sw cw):=H2.out.later bz.out
  have A3:Hid (Nums G.p G.kb (w2.alloc (.cells #[.int .i64 fn.kind,.string fn.text,.int .i64 fn.num,.slice sf fn.kids.length cf] 73)) sa ks):=A2.out.later bz.out
  have T3:Hid (Tw G.p G.kb w (w2.alloc (.cells #[.int .i64 fn.kind,.string fn.text,.int .i64 fn.num,.slice sf fn.kids.length cf] 73))):=T2.out.trans (Tw.of bz.out)
  have HK:Hid (Els 1 cInt G.w0 G.B0 sf fn.kids):=ekids
  have HO:Hid (okN G.T t):=hokt
  have HFn:Hid (G.T.nodes[t]?=some fn):=hfn
  have HFo:Hid (fnOf G.T (G.T.tops.take tp) n.text=some (t:Int)):=hf
  obtain⟨z0,z1,z2,z3,z4⟩:=Blk.four' k9
  obtain⟨y0,y1,y2,y3,y4⟩:=Blk.four' K73
  have tw:IntKind.i64.wrap ((fn.kids.length:Int)-1)=(fn.kids.length:Int)-1:=by rw[IntKind.wrap_i64];omega
  have eqt:(some (t:Int)).getD (-1)=(t:Int):=rfl
  rw[eqt]
  clear hfn hf hokt ekids e0 e1 e2 e3 ht1 ht2 ht3 H2 A2 K72 T2;by_cases hlen:n.kids.length+1=fn.kids.length
  ·
   have tl:((n.kids.length:Int) != (fn.kids.length:Int)-1)=false:=by simp;omega
   go_wp2_with fail;obtain⟨Z,hZ⟩:∃Z,w2.alloc (.cells #[.int .i64 fn.kind,.string fn.text,.int .i64 fn.num,.slice sf fn.kids.length cf] 73)=Z:=⟨_,rfl⟩
   rw[hZ] at H3 A3 T3 k9 ⊢
   obtain⟨k9b,hk9⟩:∃k,w2.heap.size=k:=⟨_,rfl⟩
   rw[hk9] at k9 ⊢
   have K9:Hid (Blk Z k9b #[.int .i64 fn.kind,.string fn.text,.int .i64 fn.num,.slice sf fn.kids.length cf] 73):=k9
   clear hZ hk9 k9 K73 bz z0 z1 z2 z3 z4 y0 y1 y2 y3 y4 x3 q0 q1 q2 q3;have hlks:ks.length<=1048576:=by omega
   go_loopw [10] (λiv wr=>∃j:Nat,j<=ks.length/\iv=.int .i64 j/\Hid (∀l,l<j->((fn.kids.take n.kids.length).map (λp=>(nd G.T p).num))[l]?=ks[l]?)/\Hid (Below Z.heap.size Z wr)) (λiv _=>ks.length-(intOf iv).toNat)
   case atStart=>exact⟨0,Nat.zero_le _,rfl,λl hl=>absurd hl (Nat.not_lt_zero _),Below.refl _ _⟩
   obtain⟨j,hj,rfl,hAll,hb⟩:=hrel
   have H4:Hid (Lv G wr top env md last K sn cn sk ck sw cw):=H3.out.later hb.out
   have T4:Hid (Tw G.p G.kb w wr):=T3.out.trans (Tw.of hb.out)
   have K94:=K9.out.later hb.out
   obtain⟨z0,z1,z2,z3',z4⟩:=Blk.four' K94
   by_cases hlt:j<ks.length
   ·
    obtain⟨kj,hkj⟩:∃k,ks[j]?=some k:=⟨ks[j],by simp[hlt]⟩
    obtain⟨ab,ao,rfl,_,_,q2⟩:=(A3.out.later hb.out).get hkj
    obtain⟨xi,hxi⟩:∃x,fn.kids[j]?=some x:=⟨fn.kids[j]'(by omega),by simp⟩
    obtain⟨fb,fo,rfl,_,hfb,p0⟩:=j05 HK.out hxi
    obtain⟨x,xn,rfl,hxn⟩:=HO.out.kid HFn.out (List.mem_of_getElem? hxi)
    obtain⟨nb2,no2,sx,cx,en2,_,_,_,p2,_,_⟩:=hG.node hxn
    obtain⟨rfl,rfl⟩:nb2=nb'/\no2=no':=by rw[en1] at en2;cases en2;exact⟨rfl,rfl⟩
    have x3:wr.cell? ⟨G.p,3,none⟩=some (.slice (some ⟨nb2,no2,none⟩) G.T.nodes.length G.d1):=by rw[<-en1];exact(H4.out.bx.cell 3).trans rfl
    have z3:wr.cell? ⟨k9b,3,none⟩=some (.slice (some ⟨fb,fo,none⟩) fn.kids.length cf):=z3'
    have q0:=(H4.out.bl.cell (p:=⟨fb,fo+j,none⟩) hfb).trans p0
    have q1:=(H4.out.bl.cell (p:=⟨nb2,no2+x*4+2,none⟩) hnb).trans p2
    have HX:Hid (nd G.T (x:Int)=xn):=j0j hxn
    have xI:(x:Int)<(G.T.nodes.length:Int):=by have:=(List.getElem?_eq_some_iff.1 hxn).1;omega
    have jI:(j:Int)<(ks.length:Int):=by omega
    have jF:(j:Int)<(fn.kids.length:Int):=by omega
    have t1:decide ((j:Int)<(ks.length:Int))=true:=by simp;omega
    have hAt:Hid (((fn.kids.take n.kids.length).map (λp=>(nd G.T p).num))[j]?=some xn.num):=by
     show _=_
     rw[List.getElem?_map,List.getElem?_take,if_pos (by omega),hxi]
     simp[HX.out]
    have HKj:Hid (ks[j]?=some kj):=hkj
    clear hxi hkj hxn p0 p2;go_upto_region 11 with fail
    refine wp_region_held_drew (S:=(λW=>W.cell? ⟨G.p,3,none⟩=some (.slice (some ⟨nb2,no2,none⟩) G.T.nodes.length G.d1)/\W.cell? ⟨k9b,3,none⟩=some (.slice (some ⟨fb,fo,none⟩) fn.kids.length cf)/\W.cell? ⟨fb,fo+j,none⟩=some (.int .i64 (x:Int))/\W.cell? ⟨nb2,no2+x*4+2,none⟩=some (.int .i64 xn.num)/\W.cell? ⟨ab,ao+j,none⟩=some (.int .i64 kj))) (by kernel_rfl) ?_ (λhHeld=>?_)
    ·
     exact⟨x3,z3,q0,q1,q2⟩
    refine wpr 0 53 ?_;simp only[zs];refine wpr 1 54 ?_;simp only[zs];refine wpr 2 55 ?_;simp only[zs];refine wpr 3 56 ?_;simp only[zs];refine wpr 4 57 ?_;simp only[zs];refine wpr 5 58 ?_;simp only[zs];refine wpr 6 59 ?_;simp only[zs];refine wpr 7 60 ?_;simp only[zs];refine wpr 8 61 ?_;simp only[zs];refine wpr 9 62 ?_;simp only[zs];refine wpr 10 63 ?_;simp only[zs];refine wpr 11 64 ?_
    simp only[zs];refine wpr 12 65 ?_;simp only[zs];refine wpr 13 66 ?_;simp only[zs];refine wpr 14 67 ?_;simp only[zs];refine wpr 15 68 ?_;simp only[zs];refine wpr 16 69 ?_;simp only[zs];refine wpr 17 70 ?_;simp only[zs];refine wpAnyH_done (by kernel_rfl) ?_ _
    clear hHeld;have H5:Hid (Lv G wr.drew top env md last K sn cn sk ck sw cw):=H4.out.later (j02 (Below.refl _ _))
    have T5:Hid (Tw G.p G.kb w wr.drew):=T4.out.trans (Tw.of (j02 (Below.refl _ _)))
    by_cases hv:xn.num=kj
    ·
     have tv:(xn.num != kj)=false:=by simp[hv]
     have hA2:Hid (∀l,l<j+1->((fn.kids.take n.kids.length).map (λp=>(nd G.T p).num))[l]?=ks[l]?):=λl hl=>by
      by_cases e:l=j
      ·
       subst e;rw[hAt.out,HKj.out,hv]
      exact hAll.out l (by omega)
     go_wp2_with fail;go_roundw
     case rel=>exact⟨j+1,by omega,by go_num,hA2,j02 hb.out⟩
     case measure=>simp[intOf];omega
    have tv:(xn.num != kj)=true:=by simp[hv]
    have hE:Hid (j2m G.T (G.T.tops.take tp) n ks=.error 4):=by
     show _=_
     unfold j2m
     rw[HFo.out]
     simp only[HF.out,hlen,if_true]
     rw[if_neg (λq=>hv (by have:=hAt.out;rw[q,HKj.out] at this;exact(Option.some.inj this).symm))]
    go_wp2_with fail;refine(j0f hG H5.out 4 (i:Int) (by omega)).mono ?_
    rintro e w3 ⟨rfl,hd,ht⟩
    go_wp2_with fail;go_ret;exact j4c.bad hE.out hd (T5.out.trans ht)
   have hjk:j=ks.length:=by omega
   subst hjk
   have t1:decide ((ks.length:Int)<(ks.length:Int))=false:=by simp
   have hE:Hid (j2m G.T (G.T.tops.take tp) n ks=.ok fn.num):=by
    show _=_
    unfold j2m
    rw[HFo.out]
    simp only[HF.out,hlen,if_true]
    rw[if_pos]
    refine List.ext_getElem? λl=>?_
    by_cases hl:l<ks.length
    ·
     exact hAll.out l hl
    rw[List.getElem?_eq_none (by simp;omega),List.getElem?_eq_none (by omega)]
   go_wp2_with fail;go_ret;exact j4c.good hE.out H4.out T4.out
  have tl:((n.kids.length:Int) != (fn.kids.length:Int)-1)=true:=by simp;omega
  have hE:Hid (j2m G.T (G.T.tops.take tp) n ks=.error 6):=by
   show _=_
   unfold j2m
   rw[HFo.out]
   simp only[HF.out]
   rw[if_neg hlen]
  go_wp2_with fail;refine(j0f hG H3.out 6 (i:Int) (by omega)).mono ?_
  rintro e w3 ⟨rfl,hd,ht⟩
  go_wp2_with fail;go_ret;exact j4c.bad hE.out hd (T3.out.trans ht)
end
end
end Go.Proofs.YtjbbagcpcepkoaaGreatDoor
