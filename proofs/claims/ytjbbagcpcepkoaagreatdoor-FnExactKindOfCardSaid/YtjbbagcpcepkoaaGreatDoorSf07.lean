import Derived.Test.YtjbbagcpcepkoaaGreatDoorSf06
import Derived.Deep.RegionLaw
import Derived.Laws.AppendOwn
import Derived.RegionTactic
import Derived.BigRegion
namespace Go.Proofs.YtjbbagcpcepkoaaGreatDoor
set_option maxRecDepth 100000
set_option maxHeartbeats 64000000
set_option linter.unusedVariables false
set_option linter.unusedSimpArgs false
section
open Go.RowKit
def treP (t:Tre):Prop:=t.nodes.length<=4000/\FitL (j0e t) (okN t) t.tops 0 t.nodes.length/\∀(j:Nat) (x:Int),t.tops[j]?=some x->∃(m:Nat) (nd:Nd),x=m/\t.nodes[m]?=some nd/\j1c 9 nd.kind
noncomputable def treB (t:Tre):Bool:=@decide (treP t) (Classical.propDecidable _)
theorem j9z {t:Tre} (h:treP t):treB t=true:=@decide_eq_true _ (Classical.propDecidable _) h
theorem j1d {t:Tre} (h:¬treP t):treB t=false:=@decide_eq_false _ (Classical.propDecidable _) h
theorem FitL.len {K:Nat->List Int} {ok:Nat->Prop} {l:List Int} {a e:Nat} (h:FitL K ok l a e):l.length+a<=e:=by
 induction h with
 | nil nx=>simp
 | cons nx k ks e h1 _ _ _ _ ih=>simp;omega
theorem jb9 {t:Tre} {nj:Nat} {j:Nat} {x:Int} (hx:t.tops[j]?=some x) (hf:FitL (j0e t) (okN t) (t.tops.take j) 0 nj) (h:treP t):∃m:Nat,x=m/\FitN t 9 m nj:=by
 obtain⟨_,hk,hc⟩:=h
 rw[j62 hx] at hk
 obtain⟨m1,g1,g2⟩:=FitL.split hk
 obtain rfl:=hf.same _ g1
 obtain⟨m,nd',rfl,e5,e6⟩:=hc j x hx
 generalize hq:(m:Int) :: t.tops.drop (j+1)=l at g2
 cases g2 with
 | nil=>cases hq
 | cons _ m' ks _ p1 p2 p3 p4 =>
  simp only[List.cons.injEq] at hq
  obtain⟨e1,rfl⟩:=hq
  obtain rfl:m=m':=by omega
  refine⟨m,rfl,nd',e5,e6,p1,p2,?_⟩
  rw[j0t e5] at p3
  exact p3
theorem jbb {t:Tre} {nj m j:Nat} (hx:t.tops[j]?=some (m:Int)) {c:Int} (hf:FitL (j0e t) (okN t) (t.tops.take j) 0 nj) (h:FitN t c m nj):FitL (j0e t) (okN t) (t.tops.take (j+1)) 0 (m+1):=by
 obtain⟨nd',e1,_,e3,e4,e5⟩:=h
 rw[List.take_add_one,hx]
 refine hf.append (FitL.cons nj m [] (m+1) e3 e4 ?_ (FitL.nil _))
 rw[j0t e1]
 exact e5
theorem jj9 {t:Tre} {cl:Int} {m nx:Nat} (h:FitN t cl m nx):m<t.nodes.length:=by
 obtain⟨nd,h1,_⟩:=h
 exact(List.getElem?_eq_some_iff.1 h1).1
theorem j1f.new {w:World} {B b n:Nat} (hlt:b<w.heap.size) (h:w.ownsRow B 4 1 (.slice (some ⟨b,0,none⟩) n n) n (List.replicate n (.bool false))):j1f w b n (λ_=>false) :=
 ⟨hlt,λj hj=>by rw[World.ownsRow.cellAt h j (by omega)];simp[hj],λj=>World.ownsRow.frozenAt h j⟩
theorem j7k (t:Tre) (s1 s2:Option Addr) (c1 c2 B:Nat) (w:World) (hT:InT w B s1 s2 t) (hkt:kTre t) :
  Calls Tryz.prog 19 #[.agg #[.slice s1 t.nodes.length c1,.slice s2 t.tops.length c2]] w λe w'=>e=.returned (.bool (treB t))/\Below w.heap.size w w':=by
 have hal:=alloc_old
 have haf:=j04
 have k0:=Blk.new w #[.slice s1 t.nodes.length c1,.slice s2 t.tops.length c2] 39
 have L0:=j00 (Below.refl _ w) (.cells #[.slice s1 t.nodes.length c1,.slice s2 t.tops.length c2] 39)
 obtain⟨x0,x1,x2⟩:=k0.two
 have hn:=hkt.1.1
 have ht:=hkt.2
 have HKT:Hid (kTre t):=hkt
 have HT:Hid (InT w B s1 s2 t):=hT
 clear hkt hT;by_cases h4:t.nodes.length<=4000
 rotate_left
 ·
  have q1:decide ((4000:Int)<(t.nodes.length:Int))=true:=by simp;omega
  have HE:Hid (treB t=false):=j1d λh=>h4 h.1
  clear h4;go_enter Tryz.func19,Tryz.ntmps19
  go_wp2_with fail;go_ret;exact⟨j03 HE.out.symm,L0⟩
 have q1:decide ((4000:Int)<(t.nodes.length:Int))=false:=by simp;omega
 by_cases h5:t.tops.length<=4000
 rotate_left
 ·
  have q2:decide ((4000:Int)<(t.tops.length:Int))=true:=by simp;omega
  have HE:Hid (treB t=false):=j1d λh=>by have:=h.2.1.len;omega
  clear h4 h5;go_enter Tryz.func19,Tryz.ntmps19
  go_wp2_with fail;go_ret;exact⟨j03 HE.out.symm,L0⟩
 have q2:decide ((4000:Int)<(t.tops.length:Int))=false:=by simp;omega
 have H4:Hid (t.nodes.length<=4000):=h4
 go_enter Tryz.func19,Tryz.ntmps19
 obtain⟨i0,hi,hz0,hz1,hz2⟩:=info_parts Tryz.infoB
 go_wp2_with (at_make;refine wpList_make_full _ rfl _ _ 81 rfl w.heap.size 4 i0 (.bool false) 1 Tryz.underlying81 hi hz0 hz1 .i64 .i64 _ _ t.nodes.length rfl rfl rfl rfl (by rw[hz2];omega) (by unfold maxLen;omega) (by simp) ?_)
 intro W5 hown hgrow
 have b0:Hid (Blk W5 w.heap.size #[.slice s1 t.nodes.length c1,.slice s2 t.tops.length c2] 39):=by
  have hB:Below (w.heap.size+1) (w.alloc (.cells #[.slice s1 t.nodes.length c1,.slice s2 t.tops.length c2] 39)) W5:=(Below.refl _ _).grown hgrow (by simp) (λk h=>by cases h)
  exact(Blk.new w #[.slice s1 t.nodes.length c1,.slice s2 t.tops.length c2] 39).later (by simpa using hB)
 have hbel:Hid (Below w.heap.size w W5):=(j00 (Below.refl _ w) _).grown hgrow (by simp) (λk h=>by cases h)
 rw[toList_madeCells_one] at hown
 have sz5:w.heap.size+2<=W5.heap.size:=by
  rcases hown.2 with ⟨h,_⟩|⟨g,cap,cur,h1,h2,h3,_⟩
  ·
   cases h
  have h4:=h3
  simp only[Value.slice.injEq,Option.some.injEq,Addr.mk.injEq] at h1
  obtain⟨⟨rfl,_⟩,_⟩:=h1
  have:=(Array.getElem?_eq_some_iff.1 h4).1
  omega
 have hseen:Hid (j1f W5 (w.heap.size+1) t.nodes.length (λ_=>false)):=j1f.new (by omega) hown
 clear hown hgrow hi hz0 hz1 hz2 k0 L0 x0 x1 x2;go_wp2_with fail;go_loopw [4,5] (λv i wr=>∃(j nj:Nat) (f1:Nat->Bool),j<=t.tops.length/\i=.int .i64 j/\v=.int .i64 nj/\nj<=t.nodes.length/\Hid (FitL (j0e t) (okN t) (t.tops.take j) 0 nj)/\Hid (∀(j':Nat) (x:Int),j'<j->t.tops[j']?=some x->∃(m:Nat) (nd':Nd),x=m/\t.nodes[m]?=some nd'/\j1c 9 nd'.kind)/\Hid (j1f wr (w.heap.size+1) t.nodes.length f1)/\Hid (∀x,f1 x=decide (x<nj))/\Hid (W5.grownBy wr (some (w.heap.size+1)))) (λ_ i _=>t.tops.length-(intOf i).toNat)
 case atStart =>
  refine⟨0,0,_,Nat.zero_le _,rfl,rfl,Nat.zero_le _,FitL.nil _,λj' x h=>absurd h (Nat.not_lt_zero _),hseen,λx=>?_,j16 _ _⟩
  simp
 obtain⟨j,nj,f1,hj,rfl,rfl,hnj,hFL,hcl,hSr,hfr,hGr⟩:=hrel
 have szr:w.heap.size+2<=wr.heap.size:=by have:=hGr.out.size;omega
 have hbW:Hid (Below w.heap.size w wr):=Below.trans hbel.out (j45 hGr.out (Nat.le_succ _) (by omega))
 obtain⟨x0,x1,x2⟩:=(b0.out.grown hGr.out (by omega)).two
 by_cases hlt:j<t.tops.length
 ·
  obtain⟨x,hxj⟩:=j0q hlt
  obtain⟨kb,ko,rfl,_,hkb,p00⟩:=j05 HT.out.t hxj
  have p0:=(hbW.out.cell (p:=⟨kb,ko+j,none⟩) hkb).trans p00
  have lt0:w.heap.size<wr.heap.size:=by omega
  have ltk:kb<wr.heap.size:=by omega
  have ne0:¬w.heap.size=w.heap.size+1:=by omega
  have nek:¬kb=w.heap.size+1:=by omega
  have HX:Hid (t.tops[j]?=some x):=hxj
  clear hxj p00 x2;have hjI:(j:Int)<(t.tops.length:Int):=by omega
  by_cases hgood:∃m:Nat,x=m/\FitN t 9 m nj
  ·
   have hgd:Hid (∃m:Nat,x=m/\FitN t 9 m nj):=hgood
   clear hgood;go_upto_region 8 with fail
   refine wp_region_held_drew (S:=(λw'=>w'.cell? ⟨w.heap.size,0,none⟩=some (.slice s1 t.nodes.length c1)/\w'.cell? ⟨w.heap.size,1,none⟩=some (.slice (some ⟨kb,ko,none⟩) t.tops.length c2)/\w'.cell? ⟨kb,ko+j,none⟩=some (.int .i64 x))) (by kernel_rfl) ?_ (λhHeld=>?_)
   ·
    exact⟨x0,x1,p0⟩
   refine wpr 0 30 ?_;simp only[zs];refine wpr 1 31 ?_;simp only[zs];refine wpr 2 32 ?_;simp only[zs];refine wpr 3 33 ?_;simp only[zs];refine wpr 4 34 ?_;simp only[zs];refine wpr 5 35 ?_;simp only[zs];refine wpr 6 36 ?_;simp only[zs];refine wpr 7 37 ?_;simp only[zs];refine wpy 8 λK hK=>?_
   go_simp;refine(j80 t s1 (some ⟨kb,ko,none⟩) c1 c2 (w.heap.size+1) B w HT.out HKT.out (by omega) x 9 nj t.nodes.length f1 _ (j02 hbW.out) (hSr.out.later (j02 (Below.refl _ _))) (by omega) (λy _=>hfr.out y)).mono ?_
   rintro e w6 ⟨hg6,f6,hS6,hr6⟩
   have hg6:wr.grownBy w6 (some (w.heap.size+1)):=j0h (j0x (j16 _ _) (j02 (Below.refl _ _))) hg6
   have x0:=(j0l hg6 lt0 ne0).trans x0
   have x1:=(j0l hg6 lt0 ne0).trans x1
   have p0:=(j0l hg6 ltk nek).trans p0
   rcases hr6 with ⟨m,em,hFm,rfl,u1,u2⟩|⟨hno,_⟩
   rotate_left
   ·
    exact absurd hgd.out hno
   have HFm:Hid (FitN t 9 m nj):=hFm
   have HEm:Hid (x=m):=em
   have HU:Hid ((∀y,y<=m->f6 y=true)/\∀y,m<y->f6 y=f1 y):=⟨u1,u2⟩
   have HS6:Hid (j1f w6 (w.heap.size+1) t.nodes.length f6):=hS6
   have HG6:Hid (W5.grownBy w6 (some (w.heap.size+1))):=j0h hGr.out hg6
   clear hFm em u1 u2 hS6 hg6;refine hK.out _ _ ?_ (λhHeld=>?_)
   ·
    exact⟨x0,x1,p0⟩
   clear hK K;try simp only[zs]
   refine wpr 9 29 ?_;simp only[zs];refine wpr 10 39 ?_;simp only[zs];refine wpr 11 40 ?_;simp only[zs];refine wpr 12 6 ?_;simp only[zs];refine wpr 13 7 ?_;simp only[zs];refine wpAnyH_done (by kernel_rfl) ?_ _
   go_wp2_with fail;go_roundw
   case rel =>
    obtain rfl:=HEm.out
    have hFm:=HFm.out
    have hml:=jj9 hFm
    refine⟨j+1,m+1,f6,by omega,by go_num,by go_num,by omega,jbb HX.out hFL.out hFm,?_,HS6,λy=>?_,HG6⟩
    ·
     intro j' y hj' hy
     by_cases e:j'=j
     ·
      subst e
      have h1:=HX.out
      rw[h1] at hy
      cases hy
      obtain⟨nd',g1,g2,_⟩:=hFm
      exact⟨m,nd',rfl,g1,g2⟩
     exact hcl.out j' y (by omega) hy
    by_cases e:y<=m
    ·
     rw[HU.out.1 y e];symm;simp;omega
    have h3:nj<=m:=by obtain⟨_,_,_,h,_⟩:=hFm;exact h
    rw[HU.out.2 y (by omega),hfr.out y]
    have e1:decide (y<nj)=false:=by simp;omega
    have e2:decide (y<m+1)=false:=by simp;omega
    rw[e1,e2]
   case measure=>simp[intOf];omega
  have hgd:Hid (¬∃m:Nat,x=m/\FitN t 9 m nj):=hgood
  clear hgood;go_upto_region 8 with fail
  refine wp_region_held_drew (S:=(λw'=>w'.cell? ⟨w.heap.size,0,none⟩=some (.slice s1 t.nodes.length c1)/\w'.cell? ⟨w.heap.size,1,none⟩=some (.slice (some ⟨kb,ko,none⟩) t.tops.length c2)/\w'.cell? ⟨kb,ko+j,none⟩=some (.int .i64 x))) (by kernel_rfl) ?_ (λhHeld=>?_)
  ·
   exact⟨x0,x1,p0⟩
  refine wpr 0 30 ?_;simp only[zs];refine wpr 1 31 ?_;simp only[zs];refine wpr 2 32 ?_;simp only[zs];refine wpr 3 33 ?_;simp only[zs];refine wpr 4 34 ?_;simp only[zs];refine wpr 5 35 ?_;simp only[zs];refine wpr 6 36 ?_;simp only[zs];refine wpr 7 37 ?_;simp only[zs];refine wpy 8 λK hK=>?_
  go_simp;refine(j80 t s1 (some ⟨kb,ko,none⟩) c1 c2 (w.heap.size+1) B w HT.out HKT.out (by omega) x 9 nj t.nodes.length f1 _ (j02 hbW.out) (hSr.out.later (j02 (Below.refl _ _))) (by omega) (λy _=>hfr.out y)).mono ?_
  rintro e w6 ⟨hg6,f6,hS6,hr6⟩
  have hg6:wr.grownBy w6 (some (w.heap.size+1)):=j0h (j0x (j16 _ _) (j02 (Below.refl _ _))) hg6
  have x0:=(j0l hg6 lt0 ne0).trans x0
  have x1:=(j0l hg6 lt0 ne0).trans x1
  have p0:=(j0l hg6 ltk nek).trans p0
  rcases hr6 with ⟨m,em,hFm,_,_,_⟩|⟨hno,r,rfl⟩
  ·
   exact absurd ⟨m,em,hFm⟩ hgd.out
  have HG6:Hid (W5.grownBy w6 (some (w.heap.size+1))):=j0h hGr.out hg6
  clear hS6 hg6 hno;refine hK.out _ _ ?_ (λhHeld=>?_)
  ·
   exact⟨x0,x1,p0⟩
  clear hK K;try simp only[zs]
  refine wpr 9 29 ?_;simp only[zs];refine wpr 10 39 ?_;simp only[zs];refine wpr 11 40 ?_;simp only[zs];refine wpr 12 6 ?_;simp only[zs];refine wpr 13 7 ?_;simp only[zs];refine wpAnyH_done (by kernel_rfl) ?_ _
  go_wp2_with fail;go_ret;refine⟨j03 (j1d λh=>hgd.out (jb9 HX.out hFL.out h)).symm,Below.trans hbel.out (j45 HG6.out (Nat.le_succ _) (by omega))⟩
 have HJ:Hid (j=t.tops.length):=show _=_ by omega
 by_cases hnk:nj=t.nodes.length
 ·
  have qn:((nj:Int) ==(t.nodes.length:Int))=true:=by simp[hnk]
  have HE:Hid (treB t=true):=j9z ⟨H4.out,by
   have h6:=hFL.out
   rw[HJ.out,List.take_length,hnk] at h6
   exact h6,λj' x h1=>hcl.out j' x (by rw[HJ.out];exact(List.getElem?_eq_some_iff.1 h1).1) h1⟩
  clear hnk;go_wp2_with fail;go_ret;exact⟨j03 HE.out.symm,hbW.out⟩
 have qn:((nj:Int) ==(t.nodes.length:Int))=false:=by simp;omega
 have HE:Hid (treB t=false):=j1d λh=>by
  have h6:=hFL.out
  rw[HJ.out,List.take_length] at h6
  exact hnk (h6.same _ h.2.1)
 clear hnk;go_wp2_with fail;go_ret;exact⟨j03 HE.out.symm,hbW.out⟩
end
section
open Go.RowKit
abbrev KM:=Nat->Int
abbrev Ck (α:Type):=Except (Int×Int) α
abbrev Env:=List (ByteArray×Int)
structure Md where
 each:Bool
 wth:List ByteArray
 hears:Bool
 fn:Bool
def upd (K:KM) (i:Int) (v:Int):KM:=λj=>if (j:Int)=i then v else K j
def nd (T:Tre) (i:Int):Nd:=(T.nodes[i.toNat]?).getD ⟨0,ByteArray.empty,0,[]⟩
def kid (n:Nd) (j:Nat):Int:=(n.kids[j]?).getD 0
def inL (s:ByteArray) (L:List ByteArray):Bool:=L.any λx=>decide (x=s)
def look (env:Env) (s:ByteArray):Option Int:=(env.reverse.find? λp=>decide (p.1=s)).map (·.2)
def opK (op k l:Int):Int :=
 if k=l then
  if k=1 then (if 1<=op/\op<=5 then 1 else if op=6\/op=7 then 4 else 0)
  else if k=2 then (if 1<=op/\op<=4 then 2 else if op=6\/op=7 then 4 else 0)
  else if k=3 then (if 1<=op/\op<=3 then 3 else if op=7 then 4 else 0)
  else if k=4 then (if op=7\/op=8\/op=9 then 4 else 0) else 0
 else 0
def j3n (op k:Int):Int :=
 if k=1 then (if op=1 then 1 else if op=5 then 2 else 0)
 else if k=2 then (if op=1 then 2 else 0)
 else if k=3 then (if op=1 then 3 else if op=3\/op=4\/op=6 then 2 else 0)
 else if k=4 then (if op=2 then 4 else 0) else 0
def j2h (k l:Int):Int:=if k=2/\l=2 then 3 else 0
def kdOr (k:Int):Except Int Int:=if k=0 then .error 4 else .ok k
section
variable (D:Int->ByteArray->Int) (T:Tre)
def j2b (md:Md) (s:ByteArray):Except Int Int:=if D 1 s=0 then .error 3 else if inL s md.wth=true then .ok (D 1 s) else .error 5
def fnOf (ah:List Int) (s:ByteArray):Option Int:=ah.find? λt=>decide ((nd T t).kind=33/\(nd T t).text=s)
def j2m (ah:List Int) (n:Nd) (ks:List Int):Except Int Int :=
 match fnOf T ah n.text with
 | none=> .error 3
 | some t=>if n.kids.length+1=(nd T t).kids.length then (if ((nd T t).kids.take n.kids.length).map (λp=>(nd T p).num)=ks then .ok (nd T t).num else .error 4) else .error 6
def rowE (ah:List Int) (md:Md) (env:Env) (n:Nd) (ks:List Int):Except Int Int :=
 if n.kind=1 then .ok 1 else if n.kind=2 then .ok 2 else if n.kind=3 then .ok 4
 else if n.kind=4 then (match look env n.text with|none=> .error 3|some k=> .ok k)
 else if n.kind=5 then j2b D md n.text
 else if n.kind=6 then (if D 2 n.text=0 then .error 3 else .ok (D 2 n.text))
 else if n.kind=7 then j2m T ah n ks
 else if n.kind=8 then kdOr (opK n.num (ks[0]?.getD 0) (ks[1]?.getD 0))
 else if n.kind=9 then kdOr (j3n n.num (ks[0]?.getD 0))
 else kdOr (j2h (ks[0]?.getD 0) (ks[1]?.getD 0))
def j1i (md:Md):List Int->Option Int->Ck Int
 | [],o=> .ok (o.getD 0)
 | m :: ms,o=>match j2b D md (nd T m).text with
  | .error c=> .error (c,m)
  | .ok k=>match o with
   | none=>j1i md ms (some k)
   | some k0=>if k=k0 then j1i md ms (some k0) else .error (4,m)
def ckL (g:KM->Int->Ck (Int×KM)):List Int->KM->Ck (List Int×KM)
 | [],K=> .ok ([],K)
 | i :: is,K=>match g K i with
  | .error e=> .error e
  | .ok (k,K1)=>match ckL g is K1 with
   | .error e=> .error e
   | .ok (ks,K2)=> .ok (k :: ks,K2)
def ckE (ah:List Int) (md:Md) (env:Env):Nat->KM->Int->Ck (Int×KM)
 | 0,_,_=> .error (0,0)
 | f+1,K,i =>
  if (nd T i).kind=11 then
   if md.each=true then
    match ckE ah md env f K (kid (nd T i) 0) with
    | .error e=> .error e
    | .ok (k,K1)=>if k=1 then (match j1i D T md (nd T i).kids.tail none with | .error e=> .error e | .ok k=> .ok (k,upd K1 i k)) else .error (4,i)
   else .error (5,i)
  else if (nd T i).kind=5/\md.each=false then .error (5,i)
  else match ckL (ckE ah md env f) (nd T i).kids K with
   | .error e=> .error e
   | .ok (ks,K1)=>match rowE D T ah md env (nd T i) ks with
    | .error c=> .error (c,i)
    | .ok k=> .ok (k,upd K1 i k)
def stands (md:Md) (kind:Int) (lst:Bool):Bool :=
 if kind=18\/kind=20 then !md.fn&&!(md.each || md.hears)
 else if kind=14\/kind=22\/kind=23\/kind=24 then md.each
 else if kind=26 then lst else true
def ckTo (i want got:Int) (ok:Bool):Ck Unit:=if want=0 then .error (3,i) else if ok=true then (if want=got then .ok () else .error (4,i)) else .error (5,i)
def j24:List Int->List ByteArray->Ck (List ByteArray)
 | [],all=> .ok all
 | m :: ms,all=>if D 1 (nd T m).text=0 then .error (3,m) else if inL (nd T m).text all=true then .error (2,m) else j24 ms (all++[(nd T m).text])
def j18 (g:KM->Int->Ck (Int×KM)):List Int->List ByteArray->KM->Ck KM
 | [],_,K=> .ok K
 | c :: cs,had,K=>match g K (kid (nd T c) 0) with
  | .error e=> .error e
  | .ok (k,K1)=>if D 1 (nd T c).text=0 then .error (3,c) else if inL (nd T c).text had=true then .error (2,c) else if D 1 (nd T c).text=k then j18 g cs (had++[(nd T c).text]) K1 else .error (4,c)
def ckSs (g:Env->KM->Int->Bool->Ck (Env×KM)) (own:Bool):List Int->Env->KM->Ck KM
 | [],_,K=> .ok K
 | i :: is,env,K=>match g env K i (own&&is.isEmpty) with
  | .error e=> .error e
  | .ok (env',K')=>ckSs g own is env' K'
def ckBs (g:Int->KM->Ck KM):List Int->KM->Ck KM
 | [],K=> .ok K
 | b :: bs,K=>match g b K with
  | .error e=> .error e
  | .ok K1=>ckBs g bs K1
def ckS (ah:List Int) (N:Nat):Nat->Md->Env->KM->Int->Bool->Ck (Env×KM)
 | 0,_,_,_,_,_=> .error (0,0)
 | f+1,md,env,K,i,lst =>
  let n:=nd T i
  if stands md n.kind lst=false then .error (5,i)
  else if n.kind=18 then
   match j24 D T ((nd T (kid n 0)).kids++(nd T (kid n 1)).kids) [] with
   | .error e=> .error e
   | .ok all=>match ckSs (ckS ah N f {md with each:=true,wth:=all.take (nd T (kid n 0)).kids.length}) false (nd T (kid n 2)).kids env K with
    | .error e=> .error e
    | .ok K1=> .ok (env,K1)
  else if n.kind=20 then
   if D 3 n.text=0 then .error (3,i)
   else if (look env (nd T (kid n 0)).text).isSome=true then .error (2,kid n 0)
   else match ckSs (ckS ah N f {md with hears:=true}) false (nd T (kid n 1)).kids (env++[((nd T (kid n 0)).text,D 3 n.text)]) K with
    | .error e=> .error e
    | .ok K1=> .ok (env,K1)
  else if n.kind=21 then
   match j18 D T (ckE D T ah md env N) n.kids [] K with
   | .error e=> .error e
   | .ok K1=> .ok (env,K1)
  else if n.kind=22 then .ok (env,K)
  else if n.kind=24 then (if D 1 n.text=0 then .error (3,i) else .ok (env,K))
  else match ckE D T ah md env N K (kid n 0) with
   | .error e=> .error e
   | .ok (k,K1) =>
    if n.kind=12 then (if (look env n.text).isSome=true then .error (2,i) else .ok (env++[(n.text,k)],K1))
    else if n.kind=13 then (match look env n.text with|none=> .error (3,i)|some k'=>if k'=k then .ok (env,K1) else .error (4,i))
    else if n.kind=14 then (match ckTo i (D 1 n.text) k (inL n.text md.wth) with | .error e=> .error e | .ok _=> .ok (env,K1))
    else if n.kind=23 then (match ckTo i (D 1 n.text) k true with | .error e=> .error e | .ok _=> .ok (env,K1))
    else if n.kind=15 then (match ckTo i (D 2 n.text) k true with | .error e=> .error e | .ok _=> .ok (env,K1))
    else if n.kind=19 then (match ckTo i (D 3 n.text) k true with | .error e=> .error e | .ok _=> .ok (env,K1))
    else if n.kind=16\/n.kind=17 then
     (if k=(if n.kind=16 then 4 else 1) then
      match ckBs (λb K=>ckSs (ckS ah N f md) false (nd T b).kids env K) n.kids.tail K1 with
      | .error e=> .error e
      | .ok K2=> .ok (env,K2)
     else .error (4,i))
    else .ok (env,K1)
def j5i:List Int->Env->Ck Env
 | [],env=> .ok env
 | p :: ps,env=>if (look env (nd T p).text).isSome=true then .error (2,p) else j5i ps (env++[((nd T p).text,(nd T p).num)])
def j2v (t:Int) (K:KM):Ck KM :=
 match (nd T ((nd T t).kids.getLast?.getD 0)).kids.getLast? with
 | none=> .error (5,t)
 | some s=>if (nd T s).kind=26 then (if K (kid (nd T s) 0).toNat=(nd T t).num then .ok K else .error (4,t)) else .error (5,t)
def j1x (N:Nat) (ah:List Int) (K:KM) (t:Int):Ck KM :=
 let n:=nd T t
 if (ah.any λa=>decide ((nd T a).text=n.text))=true then .error (2,t)
 else match j5i T n.kids.dropLast [] with
  | .error e=> .error e
  | .ok env=>match ckSs (ckS D T ah N N ⟨false,[],false,decide (n.kind=33)⟩) (decide (n.kind=33)) (nd T (n.kids.getLast?.getD 0)).kids env K with
   | .error e=> .error e
   | .ok K1=>if n.kind=33 then j2v T t K1 else .ok K1
def j2o (N:Nat):List Int->List Int->KM->Ck KM
 | [],_,K=> .ok K
 | t :: ts,ah,K=>match j1x D T N ah K t with
  | .error e=> .error e
  | .ok K1=>j2o N ts (ah++[t]) K1
end
def dkL (L:List (ByteArray×Int)) (s:ByteArray):Int:=((L.find? λd=>decide (d.1=s)).map (·.2)).getD 0
end
section
open Go.RowKit Go.Maps Go.WideMaps
def dcells (L:List (ByteArray×Int)):List Value:=L.flatMap λp=>[.string p.1,.int .i64 p.2]
theorem j5l (L M:List (ByteArray×Int)):dcells (L++M)=dcells L++dcells M:=by simp[dcells]
theorem j3u:∀L:List (ByteArray×Int),(dcells L).length=L.length*2
 | []=>rfl
 | p :: L=>by
  have:=j3u L
  simp[dcells] at this ⊢;omega
theorem j4p:∀(L:List (ByteArray×Int)) (j:Nat) (p:ByteArray×Int),L[j]?=some p->(dcells L)[2*j]?=some (.string p.1)/\(dcells L)[2*j+1]?=some (.int .i64 p.2)
 | q :: L,0,p,h=>by
  simp at h;subst h;exact⟨rfl,rfl⟩
 | q :: L,j+1,p,h=>by
  have:=j4p L j p (by simpa using h)
  have e:dcells (q :: L)=.string q.1 :: .int .i64 q.2 :: dcells L:=rfl
  rw[e,show 2*(j+1)=2*j+1+1 by omega,show 2*j+1+1+1=(2*j+1)+1+1 by omega]
  simpa using this
def dAt (L:List (ByteArray×Int)) (j:Nat):ByteArray×Int:=L[j]?.getD (ByteArray.empty,0)
theorem j6g {L:List (ByteArray×Int)} {j:Nat} (h:j<L.length):L[j]?=some (dAt L j):=by simp[dAt,h]
theorem jaz {L:List (ByteArray×Int)} {j:Nat} (h:j<L.length):dAt L j∈L:=by
 have:=j6g h
 exact List.mem_of_getElem? this
def j0y (w:World) (s:Option Addr) (L:List (ByteArray×Int)):Prop :=
 L=[]\/∃b o,s=some ⟨b,o,none⟩/\b<w.heap.size/\∀j,j<L.length->w.cell? ⟨b,o+j*2,none⟩=some (.string (dAt L j).1)/\w.cell? ⟨b,o+j*2+1,none⟩=some (.int .i64 (dAt L j).2)
theorem j0y.later {w w':World} {s:Option Addr} {L:List (ByteArray×Int)} (h:j0y w s L) (hb:Below w.heap.size w w'):j0y w' s L:=by
 rcases h with h0|⟨g,o,rfl,h1,h2⟩
 ·
  exact Or.inl h0
 exact Or.inr ⟨g,o,rfl,Nat.lt_of_lt_of_le h1 hb.size,λj hj=>⟨(hb.cell (p:=⟨g,o+j*2,none⟩) h1).trans (h2 j hj).1,(hb.cell (p:=⟨g,o+j*2+1,none⟩) h1).trans (h2 j hj).2⟩⟩
theorem j0y.get {w:World} {s:Option Addr} {L:List (ByteArray×Int)} (h:j0y w s L) {j:Nat} (hj:j<L.length) :
  ∃b o,s=some ⟨b,o,none⟩/\b<w.heap.size/\w.cell? ⟨b,o+j*2,none⟩=some (.string (dAt L j).1)/\w.cell? ⟨b,o+j*2+1,none⟩=some (.int .i64 (dAt L j).2):=by
 rcases h with h0|⟨g,o,rfl,h1,h2⟩
 ·
  rw[h0] at hj;simp at hj
 exact⟨g,o,rfl,h1,h2 j hj⟩
def DRow (w:World) (B:Nat) (v:Value) (L:List (ByteArray×Int)):Prop:=w.ownsRow B 80 2 v L.length (dcells L)
theorem DRow.later {w w':World} {B:Nat} {v:Value} {L:List (ByteArray×Int)} (h:DRow w B v L) (hb:Below w.heap.size w w'):DRow w' B v L:=by
 refine World.ownsRow.kept h (j1a hb) ?_
 cases v.ownBlock with
 | none=>exact Or.inl rfl
 | some b=>exact Or.inr (by simp)
theorem DRow.cells {w:World} {B g cap n:Nat} {L:List (ByteArray×Int)} (h:DRow w B (.slice (some ⟨g,0,none⟩) n cap) L):g<w.heap.size/\B<=g/\∀j,j<L.length->w.cell? ⟨g,j*2,none⟩=some (.string (dAt L j).1)/\w.cell? ⟨g,j*2+1,none⟩=some (.int .i64 (dAt L j).2)/\∀o,w.frozen? ⟨g,o,none⟩=false:=by
 have hlt:=World.ownsRow.lt h g rfl
 refine⟨hlt.2,hlt.1,λj hj=>?_⟩
 obtain⟨e1,e2⟩:=j4p L j _ (j6g hj)
 rw[Nat.mul_comm 2 j] at e1 e2
 have hv:n=L.length:=by
  rcases h.2 with ⟨h1,_⟩|⟨g',cap',cur,h',_⟩
  ·
   simp at h1
  simp only[Value.slice.injEq] at h';exact h'.2.1
 subst hv
 exact⟨by rw[World.ownsRow.cellAt h (j*2) (by omega),e1],by rw[World.ownsRow.cellAt h (j*2+1) (by omega),e2],λo=>World.ownsRow.frozenAt h o⟩
theorem DRow.decls {w:World} {B g cap n:Nat} {L:List (ByteArray×Int)} (h:DRow w B (.slice (some ⟨g,0,none⟩) n cap) L):j0y w (some ⟨g,0,none⟩) L:=by
 obtain⟨h1,_,h2⟩:=h.cells
 refine Or.inr ⟨g,0,rfl,h1,λj hj=>?_⟩
 obtain⟨a,b,_⟩:=h2 j hj
 rw[Nat.zero_add]
 exact⟨a,b⟩
theorem jbx (A:List (ByteArray×Int)) (p:ByteArray×Int) (C:List (ByteArray×Int)) (a:ByteArray) (b:Int):((dcells (A++p :: C)).set (A.length*2) (.string a)).set (A.length*2+1) (.int .i64 b)=dcells (A++(a,b) :: C):=by
 rw[j5l,j5l]
 have e1:dcells (p :: C)=.string p.1 :: .int .i64 p.2 :: dcells C:=rfl
 have e2:dcells ((a,b) :: C)=.string a :: .int .i64 b :: dcells C:=rfl
 have l:(dcells A).length=A.length*2:=j3u A
 rw[e1,e2,List.set_append_right _ _ (by omega),l,Nat.sub_self,List.set_append_right _ _ (by omega),l,show A.length*2+1-A.length*2=1 by omega]
 all_goals rfl
theorem DRow.put {w:World} {B g cap:Nat} {L:List (ByteArray×Int)} {A:List (ByteArray×Int)} {p:ByteArray×Int} {C:List (ByteArray×Int)} (h:DRow w B (.slice (some ⟨g,0,none⟩) L.length cap) L) (hL:L=A++p :: C) (a:ByteArray) (b:Int) :
  DRow ((w.setCell ⟨g,A.length*2,none⟩ (.string a)).setCell ⟨g,A.length*2+1,none⟩ (.int .i64 b)) B (.slice (some ⟨g,0,none⟩) L.length cap) (A++(a,b) :: C):=by
 obtain⟨h1,g1⟩:=World.ownsRow.stored h (A.length*2) (.string a)
 obtain⟨h2,g2⟩:=World.ownsRow.stored h1 (A.length*2+1) (.int .i64 b)
 have e:(A++(a,b) :: C).length=L.length:=by rw[hL];simp
 unfold DRow
 rw[e,<-jbx A p C a b,<-hL]
 exact h2
theorem jcq (n:Nat):(madeCells #[.string ByteArray.empty,.int .i64 0] (n*2)).toList=dcells (List.replicate n (ByteArray.empty,0)):=by
 apply List.ext_getElem?
 intro j
 by_cases hj:j<n*2
 ·
  have hi:j / 2<n:=by omega
  obtain⟨e1,e2⟩:=j4p (List.replicate n (ByteArray.empty,0)) (j / 2) (ByteArray.empty,0) (by simp[hi])
  rcases Nat.mod_two_eq_zero_or_one j with h|h
  ·
   rw[show j=2*(j / 2) by omega,e1]
   simp[madeCells,show 2*(j / 2)<n*2 by omega]
  rw[show j=2*(j / 2)+1 by omega,e2]
  simp[madeCells,show 2*(j / 2)+1<n*2 by omega,Nat.add_mod]
 rw[List.getElem?_eq_none (by simp[madeCells];omega),List.getElem?_eq_none (by rw[j3u];simp;omega)]
def Nms (L:List (ByteArray×Int)):Prop:=∀p∈L,p.1.size<=maxLen
theorem jc4 (n:ByteArray) (k left:Int) (w:World) (hn:n.size<=maxLen) (h0:0<=left) (h1:left<=1048576) :
  Calls Tryz.prog 31 #[.agg #[.string n,.int .i64 k],.int .i64 left] w λe w'=>(∃r:Int,e=.returned (.int .i64 r)/\(r=-1\/(0<=r/\r<=left)))/\Below w.heap.size w w':=by
 have tw:IntKind.i64.wrap (left-(n.size:Int))=left-(n.size:Int):=by unfold maxLen at hn;rw[IntKind.wrap_i64];omega
 by_cases h:(n.size:Int)<=left
 ·
  have t1:decide (left-(n.size:Int)<0)=false:=by simp;omega
  clear hn;go_enter Tryz.func31,Tryz.ntmps31
  go_wp2_with fail;go_ret;refine⟨⟨_,rfl,Or.inr ⟨by omega,by omega⟩⟩,?_⟩
  exact blq
 have t1:decide (left-(n.size:Int)<0)=true:=by simp;omega
 clear hn;go_enter Tryz.func31,Tryz.ntmps31
 go_wp2_with fail;go_ret;refine⟨⟨_,rfl,Or.inl rfl⟩,?_⟩
 exact blq
theorem jc1 (n:ByteArray) (k:Int) (w:World) :
  Calls Tryz.prog 36 #[.agg #[.string n,.int .i64 k]] w λe w'=>e=.returned (.agg #[.string n,.int .i64 k])/\Below w.heap.size w w':=by
 go_enter Tryz.func36,Tryz.ntmps36
 go_wp2_with fail;refine bq (.agg #[.string n,.int .i64 k]) ⟨rfl,?_⟩
 exact blq
theorem jap (n:ByteArray) (k:Int) (w:World) :
  Calls Tryz.prog 45 #[.agg #[.string n,.int .i64 k],.agg #[.string n,.int .i64 k]] w λe w'=>e=.returned (.bool true)/\Below w.heap.size w w':=by
 have hal:=alloc_old
 have haf:=j04
 have hq:(n.toList ==n.toList)=true:=j2l rfl
 go_enter Tryz.func45,Tryz.ntmps45
 go_wp2_with fail;go_ret;refine⟨rfl,?_⟩
 exact blq
end
section
open Go.RowKit Go.Maps Go.WideMaps
theorem j4x (s:Option Addr) (c:Nat) (L:List (ByteArray×Int)) (left:Int) (w:World) (hL:j0y w s L) (hN:Nms L) (hm:L.length<=maxLen) (h0:0<=left) (h1:left<=1048576) :
  Calls Tryz.prog 15 #[.slice s L.length c,.int .i64 left] w λe w'=>(∃r:Int,e=.returned (.int .i64 r)/\(r=-1\/(0<=r/\r<=left/\L.length<=1048576)))/\Below w.heap.size w w':=by
 have tw:IntKind.i64.wrap (left-(L.length:Int))=left-(L.length:Int):=by unfold maxLen at hm;rw[IntKind.wrap_i64];omega
 by_cases h:(L.length:Int)<=left
 ·
  have t1:decide (left-(L.length:Int)<0)=false:=by simp;omega
  have hl:L.length<=1048576:=by omega
  clear hm;go_enter Tryz.func15,Tryz.ntmps15
  go_wp2_with fail;clear tw t1;go_loopw [1,5] (λx i wr=>∃(k:Nat) (r:Int),k<=L.length/\i=.int .i64 k/\x=.int .i64 r/\0<=r/\r<=left/\Below w.heap.size w wr) (λ_ i _=>L.length-(intOf i).toNat)
  case atStart=>exact⟨0,_,Nat.zero_le _,rfl,rfl,by omega,by omega,Below.refl _ _⟩
  obtain⟨k,r,hk,rfl,rfl,r0,r1,hb⟩:=hrel
  by_cases hlt:k<L.length
  ·
   obtain⟨b,o,rfl,hp,e1,e2⟩:=(hL.later hb).get hlt
   have hn:=hN _ (jaz hlt)
   obtain⟨p,hp0⟩:∃p,Hid (dAt L k=p):=⟨_,rfl⟩
   rw[hp0.out] at e1 e2 hn
   obtain⟨p1,p2⟩:=p
   clear hL hN;go_wp2_with fail;refine(jc4 p1 p2 r _ hn r0 (by omega)).mono ?_
   rintro e w2 ⟨⟨q,rfl,hq⟩,hb2⟩
   rcases hq with rfl|⟨q0,q1⟩
   ·
    go_wp2_with fail;go_ret;exact⟨⟨_,rfl,Or.inl rfl⟩,j01 hb hb2⟩
   have t2:decide (q<0)=false:=by simp;omega
   go_wp2_with fail;go_roundw
   case rel=>exact⟨k+1,q,by omega,by go_num,rfl,q0,by omega,j01 hb hb2⟩
   case measure=>simp[intOf];omega
  go_wp2_with fail;go_ret;exact⟨⟨_,rfl,Or.inr ⟨r0,r1,hl⟩⟩,hb⟩
 have t1:decide (left-(L.length:Int)<0)=true:=by simp;omega
 clear hm;go_enter Tryz.func15,Tryz.ntmps15
 go_wp2_with fail;go_ret;exact⟨⟨_,rfl,Or.inl rfl⟩,Below.refl _ _⟩
theorem jlk (w:World) (c d e:Array Value) (t u v:TypeId):Blk (((w.alloc (.cells c t)).alloc (.cells d u)).alloc (.cells e v)) w.heap.size c t/\Blk (((w.alloc (.cells c t)).alloc (.cells d u)).alloc (.cells e v)) (w.heap.size+1) d u/\Blk (((w.alloc (.cells c t)).alloc (.cells d u)).alloc (.cells e v)) (w.heap.size+1+1) e v :=
 ⟨((Blk.new w c t).alloc _).alloc _,(Blk.new' _ d u (by simp)).alloc _,Blk.new' _ e v (by simp)⟩
theorem Blk.three {w:World} {n:Nat} {a b c:Value} {t:TypeId} (h:Blk w n #[a,b,c] t):w.cell? ⟨n,0,none⟩=some a/\w.cell? ⟨n,1,none⟩=some b/\w.cell? ⟨n,2,none⟩=some c/\∀o,w.frozen? ⟨n,o,none⟩=false:=⟨h.cell 0,h.cell 1,h.cell 2,h.frozen⟩
theorem Tryz.infoD:(Tryz.prog.info? 80).map (λi=>(i.zero,i.size,i.bytes))=some (some (.agg #[.string ByteArray.empty,.int .i64 0]),2,24):=by kernel_rfl
def dpart (L:List (ByteArray×Int)) (k:Nat):List (ByteArray×Int):=L.take k++List.replicate (L.length-k) (ByteArray.empty,0)
theorem j9y (L:List (ByteArray×Int)) {k:Nat} (h:k<=L.length):(dpart L k).length=L.length:=by simp[dpart];omega
theorem jdb (L:List (ByteArray×Int)) {k:Nat} (h:k<L.length):dpart L k=L.take k++(ByteArray.empty,0) :: List.replicate (L.length-(k+1)) (ByteArray.empty,0):=by
 unfold dpart
 rw[show L.length-k=(L.length-(k+1))+1 by omega,List.replicate_succ]
theorem jca (L:List (ByteArray×Int)) {k:Nat} (h:k<L.length):L.take k++dAt L k :: List.replicate (L.length-(k+1)) (ByteArray.empty,0)=dpart L (k+1):=by
 unfold dpart
 have e:L.take (k+1)=L.take k++[dAt L k]:=by rw[List.take_add_one,j6g h];rfl
 rw[e];simp
theorem jaf (s:Option Addr) (c:Nat) (L:List (ByteArray×Int)) (w:World) (hL:j0y w s L) (hl:L.length<=1048576) :
  Calls Tryz.prog 21 #[.slice s L.length c] w λe w'=>e=.returned (.slice (some ⟨w.heap.size,0,none⟩) L.length L.length)/\DRow w' w.heap.size (.slice (some ⟨w.heap.size,0,none⟩) L.length L.length) L/\Below w.heap.size w w':=by
 obtain⟨i0,hi,hz0,hz1,hz2⟩:=info_parts Tryz.infoD
 go_enter Tryz.func21,Tryz.ntmps21
 go_wp2_with (at_make;refine wpList_make_full _ rfl _ _ 33 rfl w.heap.size 80 i0 (.agg #[.string ByteArray.empty,.int .i64 0]) 2 Tryz.underlying33 hi hz0 hz1 .i64 .i64 _ _ L.length rfl rfl rfl rfl (by rw[hz2];omega) (by unfold maxLen;omega) (Nat.le_refl _) ?_)
 intro w1 hown hgrow
 have hrow:Hid (DRow w1 w.heap.size (.slice (some ⟨w.heap.size,0,none⟩) L.length L.length) (dpart L 0)):=by
  show World.ownsRow _ _ _ _ _ _ _
  rw[j9y L (Nat.zero_le _)]
  have:(dpart L 0)=List.replicate L.length (ByteArray.empty,0):=by simp[dpart]
  rw[this,<-jcq]
  exact hown
 have hbel:Hid (Below w.heap.size w w1):=(Below.refl _ w).grown hgrow (Nat.le_refl _) (λk h=>by cases h)
 clear hown hgrow hi hz0 hz1 hz2;go_wp2_with fail;go_loopw [4] (λi wr=>∃k:Nat,k<=L.length/\i=.int .i64 k/\Hid (DRow wr w.heap.size (.slice (some ⟨w.heap.size,0,none⟩) L.length L.length) (dpart L k))/\Hid (Below w.heap.size w wr)) (λi _=>L.length-(intOf i).toNat)
 case atStart=>exact⟨0,Nat.zero_le _,rfl,hrow,hbel⟩
 obtain⟨k,hk,rfl,hrow,hbel⟩:=hrel
 by_cases hlt:k<L.length
 ·
  obtain⟨b,o,rfl,hp,e1,e2⟩:=(hL.later hbel.out).get hlt
  obtain⟨p,hp0⟩:∃p,Hid (dAt L k=p):=⟨_,rfl⟩
  rw[hp0.out] at e1 e2
  obtain⟨p1,p2⟩:=p
  clear hL;go_wp2_with fail;refine(jc1 p1 p2 _).mono ?_
  rintro e w2 ⟨rfl,hb2⟩
  have hr2:DRow w2 w.heap.size (.slice (some ⟨w.heap.size,0,none⟩) L.length L.length) (dpart L k):=hrow.out.later hb2
  have L2:=j01 hbel.out hb2
  have hlen:=j9y L (k:=k) (by omega)
  obtain⟨_,_,f1⟩:=hr2.cells
  obtain⟨g1,g2,g3⟩:=f1 k (by omega)
  have hput:=DRow.put (L:=dpart L k) (w:=w2) (B:=w.heap.size) (g:=w.heap.size) (cap:=L.length) (by rw[hlen];exact hr2) (jdb L hlt) p1 p2
  have e9:(L.take k).length=k:=by simp;omega
  rw[hlen,e9,show((p1,p2):ByteArray×Int)=dAt L k from hp0.out.symm,jca L hlt] at hput
  have hputH:Hid (DRow ((w2.setCell ⟨w.heap.size,k*2,none⟩ (.string p1)).setCell ⟨w.heap.size,k*2+1,none⟩ (.int .i64 p2)) w.heap.size (.slice (some ⟨w.heap.size,0,none⟩) L.length L.length) (dpart L (k+1))):=hput
  obtain⟨y1,hy1⟩:∃y,(dAt (dpart L k) k).1=y:=⟨_,rfl⟩
  obtain⟨y2,hy2⟩:∃y,(dAt (dpart L k) k).2=y:=⟨_,rfl⟩
  rw[hy1] at g1
  rw[hy2] at g2
  clear hput f1 hr2 hrow hlen e9 hy1 hy2;go_wp2_with fail;go_roundw
  case rel=>exact⟨k+1,by omega,by go_num,hputH,(L2.setCell (Nat.le_refl _) _).setCell (Nat.le_refl _) _⟩
  case measure=>simp[intOf];omega
 have hm':k=L.length:=by omega
 subst hm'
 have:dpart L L.length=L:=by simp[dpart]
 have hr:=hrow.out
 rw[this] at hr
 clear hrow;go_wp2_with fail;go_ret;exact⟨rfl,hr,hbel.out⟩
theorem j4l (s t:Option Addr) (c d:Nat) (L:List (ByteArray×Int)) (w:World) (hs:j0y w s L) (ht:j0y w t L) (hl:L.length<=1048576) :
  Calls Tryz.prog 26 #[.slice s L.length c,.slice t L.length d] w λe w'=>e=.returned (.bool true)/\Below w.heap.size w w':=by
 have t1:((L.length:Int) != (L.length:Int))=false:=by simp
 go_enter Tryz.func26,Tryz.ntmps26
 go_wp2_with fail;go_loopw [5] (λi wr=>∃k:Nat,k<=L.length/\i=.int .i64 k/\Below w.heap.size w wr) (λi _=>L.length-(intOf i).toNat)
 case atStart=>exact⟨0,Nat.zero_le _,rfl,Below.refl _ _⟩
 obtain⟨k,hk,rfl,hb⟩:=hrel
 by_cases hlt:k<L.length
 ·
  obtain⟨b,o,rfl,hp,e1,e2⟩:=(hs.later hb).get hlt
  obtain⟨b',o',rfl,hp',e3,e4⟩:=(ht.later hb).get hlt
  obtain⟨p,hp0⟩:∃p,Hid (dAt L k=p):=⟨_,rfl⟩
  rw[hp0.out] at e1 e2 e3 e4
  obtain⟨p1,p2⟩:=p
  clear hs ht;go_wp2_with fail;go_region_with (first
   | (go_at_call 45;refine(jap p1 p2 _).mono ?_;rintro e w2 ⟨rfl,hb2⟩))
  all_goals
   go_wp2_with fail;go_roundw
   case rel =>
    refine⟨k+1,by omega,by go_num,?_⟩
    exact blq
   case measure=>simp[intOf];omega
 go_wp2_with fail;go_ret;exact⟨rfl,hb⟩
theorem jcm (a1 a2 a3 b1 b2 b3:Option Addr) (c1 c2 c3 d1 d2 d3:Nat) (A B C:List (ByteArray×Int)) (w:World) (hA:j0y w a1 A) (hB:j0y w a2 B) (hC:j0y w a3 C) (gA:j0y w b1 A) (gB:j0y w b2 B) (gC:j0y w b3 C) (lA:A.length<=1048576) (lB:B.length<=1048576) (lC:C.length<=1048576) :
  Calls Tryz.prog 11 #[.agg #[.slice a1 A.length c1,.slice a2 B.length c2,.slice a3 C.length c3],.agg #[.slice b1 A.length d1,.slice b2 B.length d2,.slice b3 C.length d3]] w λe w'=>e=.returned (.bool true)/\Below w.heap.size w w':=by
 have hal:=alloc_old
 have haf:=j04
 obtain⟨k0,k1⟩:=blk2 w #[.slice a1 A.length c1,.slice a2 B.length c2,.slice a3 C.length c3] #[.slice b1 A.length d1,.slice b2 B.length d2,.slice b3 C.length d3] 35 35
 obtain⟨x0,x1,x2,x3⟩:=k0.three
 obtain⟨y0,y1,y2,y3⟩:=k1.three
 go_enter Tryz.func11,Tryz.ntmps11
 go_wp2_with fail;refine(j4l a1 b1 c1 d1 A _ (hA.later blq) (gA.later blq) lA).mono ?_
 rintro e w1 ⟨rfl,hb1⟩
 have L1:Below w.heap.size w w1:=blq
 have K0:=k0.later hb1
 have K1:=k1.later hb1
 clear k0 k1 x0 x1 x2 x3 y0 y1 y2 y3 hb1;obtain⟨x0,x1,x2,x3⟩:=K0.three
 obtain⟨y0,y1,y2,y3⟩:=K1.three
 go_wp2_with fail;refine(j4l a2 b2 c2 d2 B _ (hB.later L1) (gB.later L1) lB).mono ?_
 rintro e w2 ⟨rfl,hb2⟩
 have L2:=j01 L1 hb2
 have N0:=K0.later hb2
 have N1:=K1.later hb2
 clear K0 K1 x0 x1 x2 x3 y0 y1 y2 y3 hb2;obtain⟨x0,x1,x2,x3⟩:=N0.three
 obtain⟨y0,y1,y2,y3⟩:=N1.three
 go_wp2_with fail;refine(j4l a3 b3 c3 d3 C _ (hC.later L2) (gC.later L2) lC).mono ?_
 rintro e w3 ⟨rfl,hb3⟩
 go_wp2_with fail;go_ret;exact⟨rfl,j01 L2 hb3⟩
theorem j0y.other {w:World} {g o:Nat} {L:List (ByteArray×Int)} (h:j0y w (some ⟨g,o,none⟩) L) {m:Nat} (hm:¬g=m) (k:Nat) (u:Value):j0y (w.setCell ⟨m,k,none⟩ u) (some ⟨g,o,none⟩) L:=by
 rcases h with h0|⟨g',o',e,h1,h2⟩
 ·
  exact Or.inl h0
 simp only[Option.some.injEq,Addr.mk.injEq,and_true] at e
 obtain⟨rfl,rfl⟩:=e
 refine Or.inr ⟨g,o,rfl,by simpa using h1,λj hj=>?_⟩
 have hx:∀i,(w.setCell ⟨m,k,none⟩ u).cell? ⟨g,i,none⟩=w.cell? ⟨g,i,none⟩:=λi=>World.cell?_setCell_other _ _ _ _ (by intro e;rw[Addr.mk.injEq] at e;exact hm e.1.symm)
 rw[hx,hx]
 exact h2 j hj
theorem j4y (s:Option Addr) (c:Nat) (L:List (ByteArray×Int)) (w:World) (hL:j0y w s L) (hl:L.length<=1048576) :
  Calls Tryz.prog 21 #[.slice s L.length c] w λe w'=>∃g,e=.returned (.slice (some ⟨g,0,none⟩) L.length L.length)/\w.heap.size<=g/\j0y w' (some ⟨g,0,none⟩) L/\Below w.heap.size w w' :=
 (jaf s c L w hL hl).mono λe w' ⟨h1,h2,h3⟩=>⟨_,h1,Nat.le_refl _,h2.decls,h3⟩
theorem j6l (s1 s2 s3:Option Addr) (c1 c2 c3:Nat) (A B C:List (ByteArray×Int)) (w:World) (hA:j0y w s1 A) (hB:j0y w s2 B) (hC:j0y w s3 C) (lA:A.length<=1048576) (lB:B.length<=1048576) (lC:C.length<=1048576) :
  Calls Tryz.prog 8 #[.agg #[.slice s1 A.length c1,.slice s2 B.length c2,.slice s3 C.length c3]] w λe w'=>(∃a b c:Nat,e=.returned (.agg #[.slice (some ⟨a,0,none⟩) A.length A.length,.slice (some ⟨b,0,none⟩) B.length B.length,.slice (some ⟨c,0,none⟩) C.length C.length])/\
   j0y w' (some ⟨a,0,none⟩) A/\j0y w' (some ⟨b,0,none⟩) B/\j0y w' (some ⟨c,0,none⟩) C)/\Below w.heap.size w w':=by
 have hal:=alloc_old
 have haf:=j04
 obtain⟨k0,k1,k2⟩:=jlk w #[.slice s1 A.length c1,.slice s2 B.length c2,.slice s3 C.length c3] #[.slice none 0 0,.slice none 0 0,.slice none 0 0] #[.slice none 0 0,.slice none 0 0,.slice none 0 0] 24 35 35
 go_enter Tryz.func8,Tryz.ntmps8
 go_wp2_with fail;refine(j4y s1 c1 A _ (hA.later blq) lA).mono ?_
 rintro e w1 ⟨g1,rfl,e1,d1,hb1⟩
 simp only[World.size_alloc] at e1
 have L1:Below w.heap.size w w1:=blq
 have P0:=(k0.later hb1).other (m:=w.heap.size+1+1) (by omega) 0 (.slice (some ⟨g1,0,none⟩) A.length A.length)
 have P1:=(k1.later hb1).other (m:=w.heap.size+1+1) (by omega) 0 (.slice (some ⟨g1,0,none⟩) A.length A.length)
 have P2:=(k2.later hb1).set 0 (.slice (some ⟨g1,0,none⟩) A.length A.length)
 have D1:=d1.other (m:=w.heap.size+1+1) (by omega) 0 (.slice (some ⟨g1,0,none⟩) A.length A.length)
 have LX:=L1.setCell (p:=⟨w.heap.size+1+1,0,none⟩) (by simp;omega) (.slice (some ⟨g1,0,none⟩) A.length A.length)
 obtain⟨z0,z1,z2,z3⟩:=(k2.later hb1).three
 obtain⟨x0,x1,x2,x3⟩:=(k0.later hb1).three
 have n0:¬w.heap.size=w.heap.size+1+1:=by omega
 clear k0 k1 k2 hb1 d1 L1;go_wp2_with fail;clear x0 x1 x2 x3 z0 z1 z2 z3;generalize hX:w1.setCell ⟨w.heap.size+1+1,0,none⟩ (.slice (some ⟨g1,0,none⟩) A.length A.length)=X at P0 P1 P2 D1 LX ⊢
 clear hX;have P2:Blk X (w.heap.size+1+1) #[.slice (some ⟨g1,0,none⟩) A.length A.length,.slice none 0 0,.slice none 0 0] 35:=P2
 refine(j4y s2 c2 B _ (hB.later LX) lB).mono ?_
 rintro e w2 ⟨g2,rfl,e2,d2,hb2⟩
 have lx:w.heap.size+1+1<X.heap.size:=P2.lt
 have L2:=j01 LX hb2
 have Q0:=(P0.later hb2).other (m:=w.heap.size+1+1) (by omega) 1 (.slice (some ⟨g2,0,none⟩) B.length B.length)
 have Q1:=(P1.later hb2).other (m:=w.heap.size+1+1) (by omega) 1 (.slice (some ⟨g2,0,none⟩) B.length B.length)
 have Q2:=(P2.later hb2).set 1 (.slice (some ⟨g2,0,none⟩) B.length B.length)
 have F1:=(D1.later hb2).other (m:=w.heap.size+1+1) (by omega) 1 (.slice (some ⟨g2,0,none⟩) B.length B.length)
 have F2:=d2.other (m:=w.heap.size+1+1) (by omega) 1 (.slice (some ⟨g2,0,none⟩) B.length B.length)
 have LY:=L2.setCell (p:=⟨w.heap.size+1+1,1,none⟩) (by simp;omega) (.slice (some ⟨g2,0,none⟩) B.length B.length)
 obtain⟨z0,z1,z2,z3⟩:=(P2.later hb2).three
 obtain⟨x0,x1,x2,x3⟩:=(P0.later hb2).three
 clear P0 P1 P2 hb2 d2 D1 L2 LX;go_wp2_with fail;clear x0 x1 x2 x3 z0 z1 z2 z3;generalize hY:w2.setCell ⟨w.heap.size+1+1,1,none⟩ (.slice (some ⟨g2,0,none⟩) B.length B.length)=Y at Q0 Q1 Q2 F1 F2 LY ⊢
 clear hY;have Q2:Blk Y (w.heap.size+1+1) #[.slice (some ⟨g1,0,none⟩) A.length A.length,.slice (some ⟨g2,0,none⟩) B.length B.length,.slice none 0 0] 35:=Q2
 refine(j4y s3 c3 C _ (hC.later LY) lC).mono ?_
 rintro e w3 ⟨g3,rfl,e3,d3,hb3⟩
 have ly:w.heap.size+1+1<Y.heap.size:=Q2.lt
 have L3:=j01 LY hb3
 have R1:=(Q1.later hb3)
 have R2:=(Q2.later hb3)
 have G1:=F1.later hb3
 have G2:=F2.later hb3
 clear Q0 Q1 Q2 F1 F2 LY hb3;obtain⟨z0,z1,z2,z3⟩:=R2.three
 obtain⟨y0,y1,y2,y3⟩:=R1.three
 have n1:¬w.heap.size+1=w.heap.size+1+1:=by omega
 go_wp2_with fail;refine bodyPost_ret (v:=.agg #[.slice (some ⟨g1,0,none⟩) A.length A.length,.slice (some ⟨g2,0,none⟩) B.length B.length,.slice (some ⟨g3,0,none⟩) C.length C.length]) (by simp[results,Tryz.results8,go_sem,y0,y1,y2]) rfl ⟨⟨g1,g2,g3,rfl,?_,?_,?_⟩,?_⟩
 ·
  exact(((G1.other (by omega) _ _).other (by omega) _ _).other (by omega) _ _).other (by omega) _ _
 ·
  exact(((G2.other (by omega) _ _).other (by omega) _ _).other (by omega) _ _).other (by omega) _ _
 ·
  exact(((d3.other (by omega) _ _).other (by omega) _ _).other (by omega) _ _).other (by omega) _ _
 exact(((L3.setCell (by simp<;>omega) _).setCell (by simp<;>omega) _).setCell (by simp<;>omega) _).setCell (by simp<;>omega) _
def j19 (A B C:List (ByteArray×Int)) (sort:Int):List (ByteArray×Int):=if sort=1 then A else if sort=2 then B else if sort=3 then C else []
theorem jb5 (s1 s2 s3:Option Addr) (c1 c2 c3:Nat) (A B C:List (ByteArray×Int)) (sort:Int) (w:World) (hA:j0y w s1 A) (hB:j0y w s2 B) (hC:j0y w s3 C) :
  Calls Tryz.prog 56 #[.agg #[.slice s1 A.length c1,.slice s2 B.length c2,.slice s3 C.length c3],.int .i64 sort] w λe w'=>(∃s c,e=.returned (.slice s (j19 A B C sort).length c)/\j0y w s (j19 A B C sort))/\Below w.heap.size w w':=by
 have hal:=alloc_old
 have haf:=j04
 obtain⟨x0,x1,x2,x3⟩:=(Blk.new w #[.slice s1 A.length c1,.slice s2 B.length c2,.slice s3 C.length c3] 35).three
 by_cases h1:sort=1
 ·
  subst h1
  have E:j19 A B C 1=A:=rfl
  rw[E]
  go_enter Tryz.func56,Tryz.ntmps56
  go_wp2_with fail;go_ret;exact⟨⟨s1,c1,rfl,hA⟩,by(with_reducible repeat first|exact Below.refl _ _|refine j00 ?_ _|refine j06 ?_ _|refine j02 ?_|refine j0g ?_ (by first|exact Nat.le_refl _|(dsimp only;omega)|(simp<;>omega)) _|refine j01 ?_ (by with_reducible assumption))⟩
 have b1:(sort ==1)=false:=by simp[h1]
 by_cases h2:sort=2
 ·
  subst h2
  have E:j19 A B C 2=B:=rfl
  rw[E]
  go_enter Tryz.func56,Tryz.ntmps56
  go_wp2_with fail;go_ret;exact⟨⟨s2,c2,rfl,hB⟩,by(with_reducible repeat first|exact Below.refl _ _|refine j00 ?_ _|refine j06 ?_ _|refine j02 ?_|refine j0g ?_ (by first|exact Nat.le_refl _|(dsimp only;omega)|(simp<;>omega)) _|refine j01 ?_ (by with_reducible assumption))⟩
 have b2:(sort ==2)=false:=by simp[h2]
 by_cases h3:sort=3
 ·
  subst h3
  have E:j19 A B C 3=C:=rfl
  rw[E]
  go_enter Tryz.func56,Tryz.ntmps56
  go_wp2_with fail;go_ret;exact⟨⟨s3,c3,rfl,hC⟩,by(with_reducible repeat first|exact Below.refl _ _|refine j00 ?_ _|refine j06 ?_ _|refine j02 ?_|refine j0g ?_ (by first|exact Nat.le_refl _|(dsimp only;omega)|(simp<;>omega)) _|refine j01 ?_ (by with_reducible assumption))⟩
 have b3:(sort ==3)=false:=by simp[h3]
 have E:j19 A B C sort=[]:=by simp[j19,h1,h2,h3]
 rw[E]
 go_enter Tryz.func56,Tryz.ntmps56
 go_wp2_with fail;go_ret;exact⟨⟨none,0,rfl,Or.inl rfl⟩,by(with_reducible repeat first|exact Below.refl _ _|refine j00 ?_ _|refine j06 ?_ _|refine j02 ?_|refine j0g ?_ (by first|exact Nat.le_refl _|(dsimp only;omega)|(simp<;>omega)) _|refine j01 ?_ (by with_reducible assumption))⟩
theorem jcx (s1 s2 s3:Option Addr) (c1 c2 c3:Nat) (A B C:List (ByteArray×Int)) (sort:Int) (w:World) (hA:j0y w s1 A) (hB:j0y w s2 B) (hC:j0y w s3 C) :
  Calls Tryz.prog 119 #[.agg #[.slice s1 A.length c1,.slice s2 B.length c2,.slice s3 C.length c3],.int .i64 sort] w λe w'=>(∃s c,e=.returned (.slice s (j19 A B C sort).length c)/\j0y w s (j19 A B C sort))/\Below w.heap.size w w':=by
 have hal:=alloc_old
 have haf:=j04
 obtain⟨x0,x1,x2,x3⟩:=(Blk.new w #[.slice s1 A.length c1,.slice s2 B.length c2,.slice s3 C.length c3] 35).three
 by_cases h1:sort=1
 ·
  subst h1
  have E:j19 A B C 1=A:=rfl
  rw[E]
  go_enter Tryz.func119,Tryz.ntmps119
  go_wp2_with fail;go_ret;exact⟨⟨s1,c1,rfl,hA⟩,by(with_reducible repeat first|exact Below.refl _ _|refine j00 ?_ _|refine j06 ?_ _|refine j02 ?_|refine j0g ?_ (by first|exact Nat.le_refl _|(dsimp only;omega)|(simp<;>omega)) _|refine j01 ?_ (by with_reducible assumption))⟩
 have b1:(sort ==1)=false:=by simp[h1]
 by_cases h2:sort=2
 ·
  subst h2
  have E:j19 A B C 2=B:=rfl
  rw[E]
  go_enter Tryz.func119,Tryz.ntmps119
  go_wp2_with fail;go_ret;exact⟨⟨s2,c2,rfl,hB⟩,by(with_reducible repeat first|exact Below.refl _ _|refine j00 ?_ _|refine j06 ?_ _|refine j02 ?_|refine j0g ?_ (by first|exact Nat.le_refl _|(dsimp only;omega)|(simp<;>omega)) _|refine j01 ?_ (by with_reducible assumption))⟩
 have b2:(sort ==2)=false:=by simp[h2]
 by_cases h3:sort=3
 ·
  subst h3
  have E:j19 A B C 3=C:=rfl
  rw[E]
  go_enter Tryz.func119,Tryz.ntmps119
  go_wp2_with fail;go_ret;exact⟨⟨s3,c3,rfl,hC⟩,by(with_reducible repeat first|exact Below.refl _ _|refine j00 ?_ _|refine j06 ?_ _|refine j02 ?_|refine j0g ?_ (by first|exact Nat.le_refl _|(dsimp only;omega)|(simp<;>omega)) _|refine j01 ?_ (by with_reducible assumption))⟩
 have b3:(sort ==3)=false:=by simp[h3]
 have E:j19 A B C sort=[]:=by simp[j19,h1,h2,h3]
 rw[E]
 go_enter Tryz.func119,Tryz.ntmps119
 go_wp2_with fail;go_ret;exact⟨⟨none,0,rfl,Or.inl rfl⟩,by(with_reducible repeat first|exact Below.refl _ _|refine j00 ?_ _|refine j06 ?_ _|refine j02 ?_|refine j0g ?_ (by first|exact Nat.le_refl _|(dsimp only;omega)|(simp<;>omega)) _|refine j01 ?_ (by with_reducible assumption))⟩
end
section
open Go.RowKit Go.Maps Go.WideMaps
def j3s (L:List (ByteArray×Int)) (i:Nat):Prop:=j1p (dAt L i).1=true/\1<=(dAt L i).2/\(dAt L i).2<=4/\∀j,j<i->¬(dAt L j).1=(dAt L i).1
instance (L:List (ByteArray×Int)) (i:Nat):Decidable (j3s L i):=by unfold j3s;infer_instance
def okL (L:List (ByteArray×Int)):Bool:=decide (∀i,i<L.length->j3s L i)
def okR (A B C:List (ByteArray×Int)):Bool:=decide (A.length<=12)&&decide (B.length<=12)&&decide (C.length<=12)&&okL (A++B++C)
theorem DRow.shape {w:World} {B:Nat} {v:Value} {L:List (ByteArray×Int)} (h:DRow w B v L):∃s c,v=.slice s L.length c/\j0y w s L:=by
 have h0:=h
 rcases h.2 with ⟨h1,h2⟩|⟨g,cap,cur,rfl,hb,hg,r⟩
 ·
  have hL:L=[]:=List.length_eq_zero_iff.1 h2
  exact⟨none,0,by rw[h1,hL];rfl,Or.inl hL⟩
 exact⟨_,cap,rfl,h0.decls⟩
theorem jlz {w:World} {B n:Nat} (h:Blk w n #[] 80) (hB:B<=n):DRow w B (.slice (some ⟨n,0,none⟩) 0 0) [] :=
 ⟨by simp[dcells],Or.inr ⟨n,0,#[],rfl,hB,h,Nat.le_refl _,by unfold maxLen;omega,by simp,by simp[dcells]⟩⟩
theorem jey {w:World} {b o:Nat} {M:List (ByteArray×Int)} (h:j0y w (some ⟨b,o,none⟩) M):∀j u,(dcells M)[j]?=some u->w.cell? ((⟨b,o,none⟩:Addr).add j)=some u:=by
 intro j u hu
 have hj:j<M.length*2:=by rw[<-j3u];exact(List.getElem?_eq_some_iff.1 hu).1
 have hi:j / 2<M.length:=by omega
 obtain⟨b',o',e,_,c1,c2⟩:=h.get hi
 simp only[Option.some.injEq,Addr.mk.injEq,and_true] at e
 obtain⟨rfl,rfl⟩:=e
 obtain⟨e1,e2⟩:=j4p M (j / 2) _ (j6g hi)
 rw[show(⟨b,o,none⟩:Addr).add j=⟨b,o+j,none⟩ by simp[Addr.add]]
 rcases Nat.mod_two_eq_zero_or_one j with h'|h'
 ·
  rw[show j=2*(j / 2) by omega,e1] at hu
  rw[show o+j=o+j / 2*2 by omega,c1];exact hu
 rw[show j=2*(j / 2)+1 by omega,e2] at hu
 rw[show o+j=o+j / 2*2+1 by omega,c2];exact hu
theorem jd1 (M:List (ByteArray×Int)):∀u∈dcells M,u.oneCell'=true:=by
 intro u hu
 simp only[dcells,List.mem_flatMap,List.mem_cons,List.not_mem_nil,or_false] at hu
 obtain⟨p,_,rfl|rfl⟩:=hu<;>rfl
theorem j2w {ops:Array Oper} {o:Oper} {a:Act} {w:World} {K:Act->World->Prop} {Q:Exit->Act->World->Prop} {E:Prop}
  (hg:o.guard=none) (s x:Operand) (hop:o.op=Op.call {callee:=Callee.builtin Builtin.append,args:=#[s,x],argTypes:=#[33,33]})
  (B:Nat) (v:Value) (L:List (ByteArray×Int)) (hs:a.eval s=v) (hv:DRow w B v L)
  (pb po c:Nat) (M:List (ByteArray×Int)) (hx:a.eval x=.slice (some ⟨pb,po,none⟩) M.length c) (hM:j0y w (some ⟨pb,po,none⟩) M) (hl:L.length+M.length<=48) (hB:B<=w.heap.size)
  (hK:∀s' c' w',DRow w' B (.slice s' (L.length+M.length) c') (L++M)->j0y w' s' (L++M)->w.grownBy w' v.ownBlock->K (a.put o.dst (.slice s' (L.length+M.length) c')) w') :
  if Region.wanted o (yielded ops a.tmps)=true then Oper.wp Tryz.prog o a w K Q else E:=by
 have hw:Region.wanted o (yielded ops a.tmps)=true:=by simp[Region.wanted,hg]
 rw[if_pos hw]
 obtain⟨i0,hi,hz0,hz1,hz2⟩:=info_parts Tryz.infoD
 obtain⟨v',w',hrun,r1,r2,_⟩:=run_append_own (P:=Tryz.prog) w B 33 o.type 80 i0 (.agg #[.string ByteArray.empty,.int .i64 0]) 2 24 Tryz.underlying33 hi hz0 hz1 hz2 rfl (by decide) v L.length (dcells L) hv ⟨pb,po,none⟩ M.length c (dcells M) (j3u M) (jey hM) (jd1 M) (by unfold maxLen;omega) (by omega) hB
 have r1':DRow w' B v' (L++M):=by
  unfold DRow
  rw[j5l,List.length_append]
  exact r1
 obtain⟨s',c',rfl,hd⟩:=r1'.shape
 rw[List.length_append] at r1' hrun
 unfold Oper.wp
 simp[execOp,hop,resolve,invoke,builtin,hs,hx,hrun,Result.andThen]
 exact hK s' c' w' r1' hd r2
structure Sr (w:World) (A:Array Value) (X:World):Prop where
 l:Below w.heap.size w X
 k:Blk X w.heap.size A 35
theorem Sr.alloc {w X:World} {A:Array Value} (h:Sr w A X) (o:Obj):Sr w A (X.alloc o):=⟨j00 h.l o,h.k.alloc o⟩
theorem Sr.drew {w X:World} {A:Array Value} (h:Sr w A X):Sr w A X.drew:=⟨j02 h.l,h.k⟩
theorem Sr.grow {w X Y:World} {A:Array Value} {v:Value} {L:List (ByteArray×Int)} (h:Sr w A X) (hv:DRow X (w.heap.size+1) v L) (hg:X.grownBy Y v.ownBlock):Sr w A Y :=
 ⟨h.l.grown hg h.l.size (λk e=>by have:=(World.ownsRow.lt hv k e).1;omega),by
  have:=h.k
  unfold Blk at this ⊢
  rw[hg.block _ h.k.lt (λe=>by have:=(World.ownsRow.lt hv _ e.symm).1;omega)];exact this⟩
theorem Sr.lt {w X:World} {A:Array Value} (h:Sr w A X):w.heap.size+1<=X.heap.size:=h.k.lt
theorem jep {w X:World} {A:Array Value} (h:Sr w A X):DRow (X.alloc (.cells #[] 80)) (w.heap.size+1) (.slice (some ⟨X.heap.size,0,none⟩) 0 0) []:=jlz (Blk.new _ _ _) h.lt
theorem DRow.drew {w:World} {B:Nat} {v:Value} {L:List (ByteArray×Int)} (h:DRow w B v L):DRow w.drew B v L:=h
theorem j8k (p1 q1 c1 p2 q2 c2 p3 q3 c3:Nat) (A B C:List (ByteArray×Int)) (w:World) (hA:j0y w (some ⟨p1,q1,none⟩) A) (hB:j0y w (some ⟨p2,q2,none⟩) B) (hC:j0y w (some ⟨p3,q3,none⟩) C)
  (lA:A.length<=12) (lB:B.length<=12) (lC:C.length<=12) (L:List (ByteArray×Int)) (hL:Hid (A++B++C=L)) (hlen:Hid (A.length+B.length+C.length=L.length)) (hlen2:L.length<=36) :
  Calls Tryz.prog 18 #[.agg #[.slice (some ⟨p1,q1,none⟩) A.length c1,.slice (some ⟨p2,q2,none⟩) B.length c2,.slice (some ⟨p3,q3,none⟩) C.length c3]] w λe w'=>e=.returned (.bool (okL L))/\Below w.heap.size w w':=by
 have hal:=alloc_old
 have haf:=j04
 have k0:=Blk.new w #[.slice (some ⟨p1,q1,none⟩) A.length c1,.slice (some ⟨p2,q2,none⟩) B.length c2,.slice (some ⟨p3,q3,none⟩) C.length c3] 35
 have S0:Sr w _ _:=⟨j00 (Below.refl _ w) _,k0⟩
 obtain⟨x0,x1,x2,x3⟩:=k0.three
 have t1:decide ((12:Int)<(A.length:Int))=false:=by simp;omega
 have t2:decide ((12:Int)<(B.length:Int))=false:=by simp;omega
 have t3:decide ((12:Int)<(C.length:Int))=false:=by simp;omega
 go_enter Tryz.func18,Tryz.ntmps18
 go_wp2_with fail;clear t1 t2 t3 k0;generalize hX:w.alloc (.cells #[.slice (some ⟨p1,q1,none⟩) A.length c1,.slice (some ⟨p2,q2,none⟩) B.length c2,.slice (some ⟨p3,q3,none⟩) C.length c3] 35)=X at S0 x0 x1 x2 x3 ⊢
 clear hX;go_cut [3] (λv wx=>∃s c,v=.slice s L.length c/\j0y wx s L/\Below w.heap.size w wx)
 case first =>
  go_region_law (first
   | (refine j2w rfl (.tmp 22) (.tmp 24) rfl (w.heap.size+1) _ [] rfl (by first|exact jep S0|exact DRow.drew (jep S0)|exact jep (Sr.drew S0)) p1 q1 c1 A rfl (hA.later (Sr.l (w:=w) (by first|exact Sr.alloc S0 _|exact Sr.drew (Sr.alloc S0 _)))) (by simp;omega) (Nat.le_trans (Sr.lt (w:=w) (by first|exact Sr.alloc S0 _|exact Sr.drew (Sr.alloc S0 _))) (Nat.le_refl _)) ?_;intro s5 c5 w5 hv5 hd5 hg5;have S5:=Sr.grow (by first|exact Sr.alloc S0 _|exact Sr.drew (Sr.alloc S0 _)) (by first|exact jep S0|exact DRow.drew (jep S0)) hg5;rw[List.nil_append] at hv5 hd5;rw[show([]:List (ByteArray×Int)).length+A.length=A.length by simp] at hv5 ⊢;obtain⟨x0,x1,x2,x3⟩:=S5.k.three)
   | (refine j2w rfl (.tmp 25) (.tmp 27) rfl (w.heap.size+1) _ A rfl hv5 p2 q2 c2 B rfl (hB.later S5.l) (by omega) S5.lt ?_;intro s6 c6 w6 hv6 hd6 hg6;have S6:=Sr.grow S5 hv5 hg6;obtain⟨x0,x1,x2,x3⟩:=S6.k.three)
   | (refine j2w rfl (.tmp 28) (.tmp 30) rfl (w.heap.size+1) _ (A++B) rfl hv6 p3 q3 c3 C rfl (hC.later S6.l) (by simp;omega) S6.lt ?_;intro s7 c7 w7 hv7 hd7 hg7;have S7:=Sr.grow S6 hv6 hg7;obtain⟨x0,x1,x2,x3⟩:=S7.k.three))
  all_goals
   go_wp2_with fail;go_meet;exact⟨_,_,by rw[<-hlen.out],by rw[<-hL.out];exact hd7,S7.l⟩
 obtain⟨s,c,rfl,hd,hl⟩:=hcut
 clear hL hlen hA hB hC lA lB lC x0 x1 x2 x3 S0;go_wp2_with fail;go_loopw [4] (λi wr=>∃k:Nat,k<=L.length/\i=.int .i64 k/\Hid (∀i,i<k->j3s L i)/\j0y wr s L/\Below w.heap.size w wr) (λi _=>L.length-(intOf i).toNat)
 case atStart=>exact⟨0,Nat.zero_le _,rfl,λi hi=>absurd hi (by omega),hd,hl⟩
 clear hd hl;obtain⟨k,hk,rfl,hall,hd,hl⟩:=hrel
 by_cases hlt:k<L.length
 ·
  obtain⟨b,o,rfl,hp,e1,e2⟩:=hd.get hlt
  obtain⟨p,hp0⟩:∃p,Hid (dAt L k=p):=⟨_,rfl⟩
  rw[hp0.out] at e1 e2
  obtain⟨p1,p2⟩:=p
  cases hn:j1p p1
  ·
   have E:Hid (okL L=false):=by
    unfold Hid okL
    simp only[decide_eq_false_iff_not]
    intro h
    have:=(h k hlt).1
    rw[hp0.out,hn] at this
    cases this
   go_wp2_with (go_at_call 33;refine(j0i _ _).mono ?_;rintro e w2 ⟨rfl,hb2⟩;rw[hn])
   go_ret;exact⟨j17 E.out.symm,j01 hl hb2⟩
  cases hi:(decide ((1:Int)<=p2)&&decide (p2<=4))
  ·
   have E:Hid (okL L=false):=by
    unfold Hid okL
    simp only[decide_eq_false_iff_not]
    intro h
    obtain⟨_,a,b,_⟩:=h k hlt
    rw[hp0.out] at a b
    simp at hi
    exact absurd (hi a) (by omega)
   go_wp2_with fail;refine(j0i _ _).mono ?_
   rintro e w2 ⟨rfl,hb2⟩
   rw[hn]
   have f1:=(hb2.cell (p:=⟨b,o+k*2,none⟩) hp).trans e1
   have f2:=(hb2.cell (p:=⟨b,o+k*2+1,none⟩) hp).trans e2
   go_wp2_with (go_at_call 29;refine(j1j _ _ _ _).mono ?_;rintro e w' ⟨rfl,rfl⟩;rw[hi])
   go_ret;exact⟨j17 E.out.symm,j01 hl hb2⟩
  have hi':Hid (1<=p2/\p2<=4):=by simpa[Hid] using hi
  go_wp2_with fail;refine(j0i _ _).mono ?_
  rintro e w2 ⟨rfl,hb2⟩
  rw[hn]
  have f1:=(hb2.cell (p:=⟨b,o+k*2,none⟩) hp).trans e1
  have f2:=(hb2.cell (p:=⟨b,o+k*2+1,none⟩) hp).trans e2
  have hd2:=hd.later hb2
  have hl2:=j01 hl hb2
  have hp2:b<w2.heap.size:=Nat.lt_of_lt_of_le hp hb2.size
  clear e1 e2 hd hb2 hl hp;go_wp2_with (go_at_call 29;refine(j1j _ _ _ _).mono ?_;rintro e w' ⟨rfl,rfl⟩;rw[hi])
  clear hi;go_loopw [5] (λi wy=>∃m:Nat,m<=k/\i=.int .i64 m/\Hid (∀j,j<m->¬(dAt L j).1=p1)/\j0y wy (some ⟨b,o,none⟩) L/\wy.cell? ⟨b,o+k*2,none⟩=some (.string p1)/\Below w.heap.size w wy) (λi _=>k-(intOf i).toNat)
  case atStart=>exact⟨0,Nat.zero_le _,rfl,λj hj=>absurd hj (by omega),hd2,f1,hl2⟩
  clear f1 f2 hd2 hl2 hp2;obtain⟨m,hm,rfl,hno,hd2,f1,hl2⟩:=hrel
  by_cases hlt2:m<k
  ·
   obtain⟨b',o',e,hp,e1,e2⟩:=hd2.get (show m<L.length by omega)
   simp only[Option.some.injEq,Addr.mk.injEq,and_true] at e
   obtain⟨rfl,rfl⟩:=e
   obtain⟨q,hq0⟩:∃p,Hid (dAt L m=p):=⟨_,rfl⟩
   rw[hq0.out] at e1 e2
   obtain⟨q1,q2⟩:=q
   have i1:(m:Int)<(L.length:Int):=by omega
   have i2:(k:Int)<(L.length:Int):=by omega
   by_cases hqe:q1=p1
   ·
    have E:Hid (okL L=false):=by
     unfold Hid okL
     simp only[decide_eq_false_iff_not]
     intro h
     obtain⟨_,_,_,h4⟩:=h k hlt
     have:=h4 m hlt2
     rw[hp0.out,hq0.out] at this
     exact this hqe
    have hz:=j2l hqe
    go_wp2_with fail;go_quiet (fail)
    go_wp2_with fail;go_ret;exact⟨j17 E.out.symm,by(with_reducible repeat first|exact Below.refl _ _|refine j00 ?_ _|refine j06 ?_ _|refine j02 ?_|refine j0g ?_ (by first|exact Nat.le_refl _|(dsimp only;omega)|(simp<;>omega)) _|refine j01 ?_ (by with_reducible assumption))⟩
   have hno':Hid (∀j,j<m+1->¬(dAt L j).1=p1):=by
    intro j hj
    by_cases h:j=m
    ·
     subst h;rw[hq0.out];exact hqe
    exact hno.out j (by omega)
   have hz:=j35 hqe
   go_wp2_with fail;go_quiet (fail)
   go_wp2_with fail;go_roundw
   case rel=>exact⟨m+1,by omega,by go_num,hno',hd2.later blq,f1,by(with_reducible repeat first|exact Below.refl _ _|refine j00 ?_ _|refine j06 ?_ _|refine j02 ?_|refine j0g ?_ (by first|exact Nat.le_refl _|(dsimp only;omega)|(simp<;>omega)) _|refine j01 ?_ (by with_reducible assumption))⟩
   case measure=>simp[intOf];omega
  have hall':Hid (∀i,i<k+1->j3s L i):=by
   intro i hi
   by_cases h:i=k
   ·
    subst h
    unfold j3s
    rw[hp0.out]
    exact⟨hn,hi'.out.1,hi'.out.2,λj hj=>hno.out j (by omega)⟩
   exact hall.out i (by omega)
  go_wp2_with fail;go_roundw
  case rel=>exact⟨k+1,by omega,by go_num,hall',hd2,hl2⟩
  case measure=>simp[intOf];omega
 have E:Hid (okL L=true):=by
  unfold Hid okL
  simp only[decide_eq_true_eq]
  exact λi hi=>hall.out i (by omega)
 go_wp2_with fail;go_ret;exact⟨j17 E.out.symm,hl⟩
end
end Go.Proofs.YtjbbagcpcepkoaaGreatDoor
