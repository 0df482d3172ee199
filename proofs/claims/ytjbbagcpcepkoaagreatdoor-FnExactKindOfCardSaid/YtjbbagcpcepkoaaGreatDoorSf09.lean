import Derived.Test.YtjbbagcpcepkoaaGreatDoorSf08
namespace Go.Proofs.YtjbbagcpcepkoaaGreatDoor
set_option maxRecDepth 100000
set_option maxHeartbeats 64000000
set_option linter.unusedVariables false
set_option linter.unusedSimpArgs false
section
open Go.RowKit
structure VN (T:Tre) (i:Nat) (n:Nd):Prop where
 at_:T.nodes[i]?=some n
 ok:okN T i
 fit:∃nx,FitL (j0e T) (okN T) n.kids nx i
theorem VN.kid {T:Tre} {i:Nat} {n:Nd} (h:VN T i n) {x:Int} (hx:x∈n.kids):∃(k:Nat) (m:Nd),x=k/\k<i/\VN T k m:=by
 obtain⟨nx,hf⟩:=h.fit
 obtain⟨k,b,rfl,hok,hfk,_,hlt⟩:=hf.mem x hx
 have hok2:=hok
 obtain⟨m,hm,_⟩:=hok2
 exact⟨k,m,rfl,hlt,hm,hok,b,by rw[j0t hm] at hfk;exact hfk⟩
theorem VN.cls {T:Tre} {i:Nat} {n:Nd} (h:VN T i n) {j:Nat} {x c:Int} (hx:n.kids[j]?=some x) (hc:(shp n.kind n.kids.length)[j]?=some c):j1c c (nd T x).kind:=by
 obtain⟨n2,e1,_,e3,e4⟩:=h.ok
 rw[h.at_] at e1
 cases e1
 obtain⟨k,n',rfl,b,d⟩:=e4 j x c hx hc
 rw[j0j b];exact d
theorem VN.len {T:Tre} {i:Nat} {n:Nd} (h:VN T i n):(shp n.kind n.kids.length).length=n.kids.length:=by
 obtain⟨n2,e1,_,e3,_⟩:=h.ok
 rw[h.at_] at e1
 cases e1
 exact e3
def isE (k:Int):Prop:=1<=k/\k<=11
theorem j1q {k:Int} (h:j1c 1 k):isE k:=by
 unfold j1c at h
 simp only[show¬(1:Int)=10 by omega,if_false] at h
 have h:=h.1
 unfold cls at h
 unfold isE
 split at h
 ·
  assumption
 repeat (split at h<;>try omega)
section
variable (D:Int->ByteArray->Int) (T:Tre)
def ckB (ah:List Int) (md:Md) (env:Env) (f:Nat) (K:KM) (i:Int):Ck (Int×KM) :=
 if (nd T i).kind=11 then
  if md.each=true then
   match ckE D T ah md env f K (kid (nd T i) 0) with
   | .error e=> .error e
   | .ok (k,K1)=>if k=1 then (match j1i D T md (nd T i).kids.tail none with | .error e=> .error e | .ok k=> .ok (k,K1)) else .error (4,i)
  else .error (5,i)
 else if (nd T i).kind=5/\md.each=false then .error (5,i)
 else match ckL (ckE D T ah md env f) (nd T i).kids K with
  | .error e=> .error e
  | .ok (ks,K1)=>match rowE D T ah md env (nd T i) ks with
   | .error c=> .error (c,i)
   | .ok k=> .ok (k,K1)
theorem jbs (ah:List Int) (md:Md) (env:Env) (f:Nat) (K:KM) (i:Int):ckE D T ah md env (f+1) K i=match ckB D T ah md env f K i with | .error e=> .error e | .ok (k,K1)=> .ok (k,upd K1 i k):=by
 rw[ckE]
 unfold ckB
 split
 ·
  split
  ·
   cases ckE D T ah md env f K (kid (nd T i) 0) with
   | error e=>rfl
   | ok q =>
    obtain⟨k,K1⟩:=q
    simp only
    split
    ·
     cases j1i D T md (nd T i).kids.tail none<;>rfl
    rfl
  rfl
 split
 ·
  rfl
 cases ckL (ckE D T ah md env f) (nd T i).kids K with
 | error e=>rfl
 | ok q =>
  obtain⟨ks,K1⟩:=q
  simp only
  cases rowE D T ah md env (nd T i) ks<;>rfl
end
theorem Blk.tw {p q:Nat} {w w':World} {n:Nat} {c:Array Value} {t:TypeId} (h:Blk w n c t) (ht:Tw p q w w') (h1:¬n=p) (h2:¬n=q):Blk w' n c t:=by
 unfold Blk
 rw[ht.block n h.lt h1 h2]
 exact h
section
variable {G:Gd} {w w':World} {top:Int} {env:Env} {md:Md} {last:Int} {K:KM} {sn sk sw:Option Addr} {cn ck cw:Nat}
def j0z (G:Gd) (w:World) (top:Int) (env:Env) (md:Md) (last:Int) (sn:Option Addr) (cn:Nat) (sk:Option Addr) (ck:Nat) (sw:Option Addr) (cw:Nat) (r:Ck (Int×KM)) (e:Ending) (w':World):Prop :=
 (match r with
 | .error (c,n)=>e=.returned (.int .i64 0)/\Dd G w' c n
 | .ok (k,K')=>e=.returned (.int .i64 k)/\Lv G w' top env md last K' sn cn sk ck sw cw)/\Tw G.p G.kb w w'
theorem j0z.bad {c n:Int} {r:Ck (Int×KM)} (hr:r=.error (c,n)) (hd:Dd G w' c n) (ht:Tw G.p G.kb w w'):j0z G w top env md last sn cn sk ck sw cw r (.returned (.int .i64 0)) w':=by subst hr;exact⟨⟨rfl,hd⟩,ht⟩
theorem j0z.good {k:Int} {K':KM} {r:Ck (Int×KM)} (hr:r=.ok (k,K')) (hl:Lv G w' top env md last K' sn cn sk ck sw cw) (ht:Tw G.p G.kb w w'):j0z G w top env md last sn cn sk ck sw cw r (.returned (.int .i64 k)) w':=by subst hr;exact⟨⟨rfl,hl⟩,ht⟩
theorem Dd.c13 {c n:Int} (h:Dd G w c n):w.cell? ⟨G.p,13,none⟩=some (.int .i64 c):=by
 obtain⟨cs,_,h1,h2,_⟩:=h.ex
 exact(h1.cell 13).trans h2
def ExpS (G:Gd) (top:Int) (tp:Nat) (env:Env) (md:Md) (last:Int) (f:Nat):Prop :=
 ∀(i:Nat) (n:Nd) (K:KM) (w:World) (sn:Option Addr) (cn:Nat) (sk:Option Addr) (ck:Nat) (sw:Option Addr) (cw:Nat),i<f->VN G.T i n->isE n.kind->Lv G w top env md last K sn cn sk ck sw cw->
  Calls Tryz.prog 96 #[.pointer (some ⟨G.p,0,none⟩),.int .i64 (i:Int)] w λe w'=>j0z G w top env md last sn cn sk ck sw cw (ckE (Dg G) G.T (G.T.tops.take tp) md env f K (i:Int)) e w'
theorem jfy (hG:G.Ok) {tp f:Nat} (hE:ExpS G top tp env md last f) (hw:md.wth.length<=1048576) {i:Nat} {n:Nd} (hv:VN G.T i n) (hi:i<f+1) (hk:n.kind=11) (h:Lv G w top env md last K sn cn sk ck sw cw) :
  Calls Tryz.prog 133 #[.pointer (some ⟨G.p,0,none⟩),.int .i64 (i:Int)] w λe w'=>j0z G w top env md last sn cn sk ck sw cw (ckB (Dg G) G.T (G.T.tops.take tp) md env f K (i:Int)) e w':=by
 have hlen:=hv.len
 rw[hk] at hlen
 have hl2:2<=n.kids.length:=by rw[<-hlen];simp[shp]
 have HB:Hid (ckB (Dg G) G.T (G.T.tops.take tp) md env f K (i:Int)=if md.each=true then (match ckE (Dg G) G.T (G.T.tops.take tp) md env f K (kid n 0) with | .error e=> .error e | .ok (k,K1)=>if k=1 then (match j1i (Dg G) G.T md n.kids.tail none with | .error e=> .error e | .ok k=> .ok (k,K1)) else .error (4,(i:Int))) else .error (5,(i:Int))):=by
  show _=_
  unfold ckB
  rw[j0j hv.at_,if_pos hk]
 obtain⟨nb,no,s9,c9,en1,hnb,e0,e1,e2,e3,ekids⟩:=hG.node hv.at_
 obtain⟨x0,hx0⟩:∃x,n.kids[0]?=some x:=⟨n.kids[0]'(by omega),by simp⟩
 obtain⟨fb,fo,rfl,_,hfb,pp0⟩:=j05 ekids hx0
 obtain⟨a,an,rfl,hai,hva⟩:=hv.kid (List.mem_of_getElem? hx0)
 have hae:isE an.kind:=by
  have:=hv.cls hx0 (c:=1) (by rw[hk];simp[shp])
  rw[j0j hva.at_] at this
  exact j1q this
 have hkid:kid n 0=(a:Int):=by simp[kid,hx0]
 rw[hkid] at HB
 have hiN:i<G.T.nodes.length:=(List.getElem?_eq_some_iff.1 hv.at_).1
 have hnl:G.T.nodes.length<=1048576:=hG.k.1.1
 have hkl:n.kids.length<=1048576:=(hG.k.1.2 n (List.mem_of_getElem? hv.at_)).2
 have x3:w.cell? ⟨G.p,3,none⟩=some (.slice (some ⟨nb,no,none⟩) G.T.nodes.length G.d1):=by rw[<-en1];exact(h.bx.cell 3).trans rfl
 have x8:w.cell? ⟨G.p,8,none⟩=some (.bool md.each):=(h.bx.cell 8).trans rfl
 have q0:=(h.bl.cell (p:=⟨nb,no+i*4,none⟩) hnb).trans e0
 have q1:=(h.bl.cell (p:=⟨nb,no+i*4+1,none⟩) hnb).trans e1
 have q2:=(h.bl.cell (p:=⟨nb,no+i*4+2,none⟩) hnb).trans e2
 have q3:=(h.bl.cell (p:=⟨nb,no+i*4+3,none⟩) hnb).trans e3
 have q4:=(h.bl.cell (p:=⟨fb,fo+0,none⟩) hfb).trans pp0
 have iI:(i:Int)<(G.T.nodes.length:Int):=by omega
 have l0I:(0:Int)<(n.kids.length:Int):=by omega
 have bz:Hid (Below w.heap.size w (w.alloc (.cells #[.int .i64 n.kind,.string n.text,.int .i64 n.num,.slice (some ⟨fb,fo,none⟩) n.kids.length c9] 73))):=j00 (Below.refl _ _) _
 have kk5:=Blk.new w #[.int .i64 n.kind,.string n.text,.int .i64 n.num,.slice (some ⟨fb,fo,none⟩) n.kids.length c9] 73
 have H1:Hid (Lv G (w.alloc (.cells #[.int .i64 n.kind,.string n.text,.int .i64 n.num,.slice (some ⟨fb,fo,none⟩) n.kids.length c9] 73)) top env md last K sn cn sk ck sw cw):=h.later bz.out
 have hk5p:¬w.heap.size=G.p:=by have:=h.bx.lt;omega
 have hk5k:¬w.heap.size=G.kb:=by have:=h.kl;omega
 have HV:Hid (VN G.T i n):=hv
 have HK:Hid (Els 1 cInt G.w0 G.B0 (some ⟨fb,fo,none⟩) n.kids):=ekids
 have HEx:Hid (ExpS G top tp env md last f):=hE
 have HVa:Hid (VN G.T a an):=hva
 clear h e0 e1 e2 e3 ekids hv hE hva hx0 pp0 hlen hk;obtain⟨z0,z1,z2,z3,z4⟩:=Blk.four' kk5
 rw[Nat.add_zero] at q4
 have y8:(w.alloc (.cells #[.int .i64 n.kind,.string n.text,.int .i64 n.num,.slice (some ⟨fb,fo,none⟩) n.kids.length c9] 73)).cell? ⟨G.p,8,none⟩=some (.bool md.each):=(H1.out.bx.cell 8).trans rfl
 have y4:(w.alloc (.cells #[.int .i64 n.kind,.string n.text,.int .i64 n.num,.slice (some ⟨fb,fo,none⟩) n.kids.length c9] 73)).cell? ⟨fb,fo,none⟩=some (.int .i64 (a:Int)):=(bz.out.cell (p:=⟨fb,fo,none⟩) (Nat.lt_of_lt_of_le hfb (by have:=H1.out.bl.size;have:=bz.out.size;have:=kk5.lt;simp at this ⊢;have hh:=hG.p;have:=H1.out.bx.lt;simp at this;omega))).trans q4
 cases he:md.each
 ·
  have hEr:Hid (ckB (Dg G) G.T (G.T.tops.take tp) md env f K (i:Int)=.error (5,(i:Int))):=by rw[HB.out,he];rfl
  rw[he] at x8 y8
  go_enter Tryz.func133,Tryz.ntmps133
  go_wp2_with fail;refine(j0f hG H1.out 5 (i:Int) (by omega)).mono ?_
  rintro e w3 ⟨rfl,hd,ht⟩
  go_wp2_with fail;go_ret;exact j0z.bad hEr.out hd ((Tw.of bz.out).trans ht)
 rw[he] at x8 y8
 go_enter Tryz.func133,Tryz.ntmps133
 go_wp2_with fail;obtain⟨X,hX⟩:∃X,w.alloc (.cells #[.int .i64 n.kind,.string n.text,.int .i64 n.num,.slice (some ⟨fb,fo,none⟩) n.kids.length c9] 73)=X:=⟨_,rfl⟩
 obtain⟨k5,hk5⟩:∃k,w.heap.size=k:=⟨_,rfl⟩
 have T1:Hid (Tw G.p G.kb w (w.alloc (.cells #[.int .i64 n.kind,.string n.text,.int .i64 n.num,.slice (some ⟨fb,fo,none⟩) n.kids.length c9] 73))):=Tw.of bz.out
 rw[hX] at T1 H1 kk5 ⊢
 rw[hk5] at kk5 hk5p hk5k ⊢
 have K5:Hid (Blk X k5 #[.int .i64 n.kind,.string n.text,.int .i64 n.num,.slice (some ⟨fb,fo,none⟩) n.kids.length c9] 73):=kk5
 clear z0 z1 z2 z3 z4 x3 x8 y8 y4 q0 q1 q2 q3 q4 kk5 hX hk5 bz;refine(HEx.out a an K _ sn cn sk ck sw cw (by omega) HVa.out hae H1.out).mono ?_
 rintro e w2 hS2
 cases hr:ckE (Dg G) G.T (G.T.tops.take tp) md env f K (a:Int) with
 | error q =>
  obtain⟨c,nq⟩:=q
  rw[hr] at hS2
  obtain⟨⟨rfl,hd⟩,ht⟩:=hS2
  have hEr:Hid (ckB (Dg G) G.T (G.T.tops.take tp) md env f K (i:Int)=.error (c,nq)):=by rw[HB.out,he,hr];rfl
  have y13:=hd.c13
  have tc:(c != 0)=true:=by simp[hd.ne]
  have HD:Hid (Dd G w2 c nq):=hd
  have T2:Hid (Tw G.p G.kb w w2):=T1.out.trans ht
  clear hd ht;go_wp2_with fail;go_ret;exact j0z.bad hEr.out HD.out T2.out
 | ok q =>
  obtain⟨k,K1⟩:=q
  rw[hr] at hS2
  obtain⟨⟨rfl,hl⟩,ht⟩:=hS2
  have y13:w2.cell? ⟨G.p,13,none⟩=some (.int .i64 0):=(hl.bx.cell 13).trans rfl
  have H2:Hid (Lv G w2 top env md last K1 sn cn sk ck sw cw):=hl
  have T2:Hid (Tw G.p G.kb w w2):=T1.out.trans ht
  have K52:Hid (Blk w2 k5 #[.int .i64 n.kind,.string n.text,.int .i64 n.num,.slice (some ⟨fb,fo,none⟩) n.kids.length c9] 73):=K5.out.tw ht hk5p hk5k
  clear hl ht K5 H1 T1;by_cases hk1:k=1
  ·
   have t1:(k != 1)=false:=by simp[hk1]
   have HB2:Hid (ckB (Dg G) G.T (G.T.tops.take tp) md env f K (i:Int)=(match j1i (Dg G) G.T md n.kids.tail none with | .error e=> .error e | .ok k=> .ok (k,K1))):=by rw[HB.out,he,hr];simp[Hid,hk1]
   clear HB hr;go_wp2_with fail;clear y13;go_loopw [7,8] (λfv mv wr=>∃(m:Nat) (first:Int),1<=m/\m<=n.kids.length/\mv=.int .i64 m/\fv=.int .i64 first/\Hid (j1i (Dg G) G.T md n.kids.tail none=j1i (Dg G) G.T md (n.kids.drop m) (if m=1 then none else some first))/\Hid (m=1->first=0)/\Hid (Lv G wr top env md last K1 sn cn sk ck sw cw)/\Hid (Tw G.p G.kb w wr)/\Hid (Blk wr k5 #[.int .i64 n.kind,.string n.text,.int .i64 n.num,.slice (some ⟨fb,fo,none⟩) n.kids.length c9] 73)) (λ_ mv _=>n.kids.length-(intOf mv).toNat)
   case atStart=>exact⟨1,0,Nat.le_refl _,by omega,rfl,rfl,by show _=_;rw[if_pos rfl,List.drop_one],λ_=>rfl,H2,T2,K52⟩
   clear H2 T2 K52;obtain⟨m,first,hm1,hmn,rfl,rfl,hP,hF0,H4,T4,HK4⟩:=hrel
   have K54:=HK4.out
   obtain⟨z0,z1,z2,z3,z4⟩:=Blk.four' K54
   by_cases hlt:m<n.kids.length
   ·
    obtain⟨xi,hxi⟩:∃x,n.kids[m]?=some x:=⟨n.kids[m],by simp[hlt]⟩
    obtain⟨x,xn,rfl,hxlt,hvx⟩:=HV.out.kid (List.mem_of_getElem? hxi)
    obtain⟨fb2,fo2,ef,_,_,p00⟩:=j05 HK.out hxi
    obtain⟨rfl,rfl⟩:fb2=fb/\fo2=fo:=by cases ef;exact⟨rfl,rfl⟩
    obtain⟨nb2,no2,sx,cx,en2,_,_,p11,_,_,_⟩:=hG.node hvx.at_
    obtain⟨rfl,rfl⟩:nb2=nb/\no2=no:=by rw[en1] at en2;cases en2;exact⟨rfl,rfl⟩
    have p0:Hid (G.w0.cell? ⟨fb2,fo2+m,none⟩=some (.int .i64 (x:Int))):=p00
    have p1:Hid (G.w0.cell? ⟨nb2,no2+x*4+1,none⟩=some (.string xn.text)):=p11
    have x3:wr.cell? ⟨G.p,3,none⟩=some (.slice (some ⟨nb2,no2,none⟩) G.T.nodes.length G.d1):=by rw[<-en1];exact(H4.out.bx.cell 3).trans rfl
    have q0:=(H4.out.bl.cell (p:=⟨fb2,fo2+m,none⟩) hfb).trans p0.out
    have q1:=(H4.out.bl.cell (p:=⟨nb2,no2+x*4+1,none⟩) hnb).trans p1.out
    have HX:Hid (nd G.T (x:Int)=xn):=j0j hvx.at_
    have hd:Hid (n.kids.drop m=(x:Int) :: n.kids.drop (m+1)):=by
     show _=_
     rw[List.drop_eq_getElem_cons hlt]
     congr 1
     exact(List.getElem?_eq_some_iff.1 hxi).2
    have xI:(x:Int)<(G.T.nodes.length:Int):=by have:=(List.getElem?_eq_some_iff.1 hvx.at_).1;omega
    have mI:(m:Int)<(n.kids.length:Int):=by omega
    have t2:decide ((m:Int)<(n.kids.length:Int))=true:=by simp;omega
    clear hxi p00 p11 hvx ef en2;go_upto_region 13 with fail
    refine wp_region_held_drew (S:=(λW=>W.cell? ⟨G.p,3,none⟩=some (.slice (some ⟨nb2,no2,none⟩) G.T.nodes.length G.d1)/\W.cell? ⟨k5,3,none⟩=some (.slice (some ⟨fb2,fo2,none⟩) n.kids.length c9)/\W.cell? ⟨fb2,fo2+m,none⟩=some (.int .i64 (x:Int))/\W.cell? ⟨nb2,no2+x*4+1,none⟩=some (.string xn.text))) (by kernel_rfl) ?_ (λhHeld=>?_)
    ·
     exact⟨x3,z3,q0,q1⟩
    refine wpr 0 49 ?_;simp only[zs];refine wpr 1 50 ?_;simp only[zs];refine wpr 2 51 ?_;simp only[zs];refine wpr 3 52 ?_;simp only[zs];refine wpr 4 53 ?_;simp only[zs];refine wpr 5 54 ?_;simp only[zs];refine wpr 6 55 ?_;simp only[zs];refine wpr 7 56 ?_;simp only[zs];refine wpr 8 57 ?_;simp only[zs];refine wpr 9 58 ?_;simp only[zs];refine wpr 10 59 ?_;simp only[zs];refine wpr 11 60 ?_
    simp only[zs];refine wpr 12 61 ?_;simp only[zs];refine wpr 13 62 ?_;simp only[zs];refine wpr 14 63 ?_;simp only[zs];refine wpr 15 64 ?_;simp only[zs];refine wpr 16 65 ?_;simp only[zs];refine wpr 17 66 ?_;simp only[zs];refine wpr 18 67 ?_;simp only[zs];refine wpy 19 λK hK=>?_
    go_simp;refine(j81 hG (H4.out.later (j02 (Below.refl _ _))) hw xn.text (x:Int)).mono ?_
    rintro z w5 hS5
    have c3:=hS5.c3
    have hbl5:=hS5.bl
    rw[en1] at c3
    have T5:Hid (Tw G.p G.kb wr w5):=(Tw.of (j02 (Below.refl _ _))).trans hS5.2
    have K55:Hid (Blk w5 k5 #[.int .i64 n.kind,.string n.text,.int .i64 n.num,.slice (some ⟨fb2,fo2,none⟩) n.kids.length c9] 73):=K54.tw T5.out hk5p hk5k
    obtain⟨v,hv⟩:∃v,z=.returned v:=by cases hr:j2b (Dg G) md xn.text with|error c=>rw[hr] at hS5;exact⟨_,hS5.1.1⟩|ok k=>rw[hr] at hS5;exact⟨_,hS5.1.1⟩
    subst hv
    refine hK.out _ _ ⟨c3,(K55.out.cell 3).trans rfl,(hbl5.cell (p:=⟨fb2,fo2+m,none⟩) hfb).trans p0.out,(hbl5.cell (p:=⟨nb2,no2+x*4+1,none⟩) hnb).trans p1.out⟩ (λhHeld=>?_)
    clear hK K;try simp only[zs]
    refine wpr 20 9 ?_;simp only[zs];refine wpAnyH_done (by kernel_rfl) ?_ _
    clear hHeld c3;have T6:Hid (Tw G.p G.kb w w5):=T4.out.trans T5.out
    cases hc:j2b (Dg G) md xn.text with
    | error c =>
     rw[hc] at hS5
     obtain⟨⟨ev,hdd⟩,_⟩:=hS5
     cases ev
     have hEr:Hid (ckB (Dg G) G.T (G.T.tops.take tp) md env f K (i:Int)=.error (c,(x:Int))):=by rw[HB2.out,hP.out,hd.out];simp[Hid,j1i,HX.out,hc]
     have y13:=hdd.c13
     have tc:(c != 0)=true:=by simp[hdd.ne]
     have HD:Hid (Dd G w5 c (x:Int)):=hdd
     clear hdd;go_wp2_with fail;go_ret;exact j0z.bad hEr.out HD.out T6.out
    | ok kc =>
     rw[hc] at hS5
     obtain⟨⟨ev,hll⟩,_⟩:=hS5
     cases ev
     have y13:w5.cell? ⟨G.p,13,none⟩=some (.int .i64 0):=(hll.bx.cell 13).trans rfl
     have H5:Hid (Lv G w5 top env md last K1 sn cn sk ck sw cw):=hll
     clear hll;by_cases hm:m=1
     ·
      subst hm
      have hP2:Hid (j1i (Dg G) G.T md n.kids.tail none=j1i (Dg G) G.T md (n.kids.drop 2) (some kc)):=by rw[hP.out,hd.out];simp[Hid,j1i,HX.out,hc]
      go_wp2_with fail;go_roundw
      case rel=>exact⟨2,kc,by omega,by omega,by go_num,rfl,by show _=_;rw[if_neg (by omega)];exact hP2.out,λq=>by omega,H5,T6,K55⟩
      case measure=>simp[intOf];omega
     have tm1:decide ((1:Int)<(m:Int))=true:=by simp;omega
     have tm2:((m:Int) ==1)=false:=by simp;omega
     by_cases hkf:kc=first
     ·
      have tf:(kc != first)=false:=by simp[hkf]
      have hP2:Hid (j1i (Dg G) G.T md n.kids.tail none=j1i (Dg G) G.T md (n.kids.drop (m+1)) (some first)):=by rw[hP.out,hd.out,if_neg hm];simp[Hid,j1i,HX.out,hc,hkf]
      go_wp2_with fail;go_roundw
      case rel=>exact⟨m+1,first,by omega,by omega,by go_num,rfl,by show _=_;rw[if_neg (by omega)];exact hP2.out,λq=>by omega,H5,T6,K55⟩
      case measure=>simp[intOf];omega
     have tf:(kc != first)=true:=by simp[hkf]
     have hEr:Hid (ckB (Dg G) G.T (G.T.tops.take tp) md env f K (i:Int)=.error (4,(x:Int))):=by rw[HB2.out,hP.out,hd.out,if_neg hm];simp[Hid,j1i,HX.out,hc,hkf]
     have v3:w5.cell? ⟨k5,3,none⟩=some (.slice (some ⟨fb2,fo2,none⟩) n.kids.length c9):=(K55.out.cell 3).trans rfl
     have v0:=(H5.out.bl.cell (p:=⟨fb2,fo2+m,none⟩) hfb).trans p0.out
     go_wp2_with fail;refine(j0f hG H5.out 4 (x:Int) (by omega)).mono ?_
     rintro e w6 ⟨rfl,hdd,ht⟩
     go_wp2_with fail;go_ret;exact j0z.bad hEr.out hdd (T6.out.trans ht)
   have hmm:m=n.kids.length:=by omega
   subst hmm
   have hnm:¬n.kids.length=1:=by omega
   have hEr:Hid (ckB (Dg G) G.T (G.T.tops.take tp) md env f K (i:Int)=.ok (first,K1)):=by rw[HB2.out,hP.out,List.drop_length,if_neg hnm];rfl
   have t2:decide ((n.kids.length:Int)<(n.kids.length:Int))=false:=by simp
   go_wp2_with fail;go_ret;exact j0z.good hEr.out H4.out T4.out
  have t1:(k != 1)=true:=by simp[hk1]
  have hEr:Hid (ckB (Dg G) G.T (G.T.tops.take tp) md env f K (i:Int)=.error (4,(i:Int))):=by rw[HB.out,he,hr];simp[Hid,hk1]
  go_wp2_with fail;refine(j0f hG H2.out 4 (i:Int) (by omega)).mono ?_
  rintro e w3 ⟨rfl,hdd,ht⟩
  go_wp2_with fail;go_ret;exact j0z.bad hEr.out hdd (T2.out.trans ht)
end
end
section
open Go.RowKit
theorem OI.tw {p q:Nat} {w w':World} {B:Nat} {v:Value} {L:List Int} (h:OI w B v L) (ht:Tw p q w w') (hp:p<B) (hq:q<B):OI w' B v L :=
 h.same λg hg=>by have:=h.lt g hg;exact ht.block g this.2 (by omega) (by omega)
theorem OI.nums {p q:Nat} {w:World} {B:Nat} {s:Option Addr} {c:Nat} {L:List Int} (h:OI w (B+1) (.slice s L.length c) L) (hp:¬p=B/\p<B+1) (hq:¬q=B/\q<B+1):Nums p q w s L:=by
 rcases h.els with h0|⟨b,o,rfl,h1,h2,h3,_⟩
 ·
  exact Or.inl h0
 refine Or.inr ⟨b,o,rfl,h2,⟨by omega,by omega⟩,λj hj=>?_⟩
 obtain⟨cs,_,e2,e3⟩:=h3 j (L[j]?.getD 0) (by simp[hj])
 subst e3
 simpa using e2 0 _ rfl
theorem Tw.grown {p q:Nat} {w wr w':World} {r:Option Nat} (h:Tw p q w wr) (hg:wr.grownBy w' r) (hr:∀g,r=some g->w.heap.size<=g):Tw p q w w' :=
 ⟨hg.os.trans h.os,hg.tape.trans h.tape,hg.output.trans h.output,Nat.le_trans h.size hg.size,λk h1 h2 h3=>(hg.block k (Nat.lt_of_lt_of_le h1 h.size) (λe=>by have:=hr k e.symm;omega)).trans (h.block k h1 h2 h3)⟩
def OldL {α:Type} (B:Nat) (s:Option Addr) (L:List α):Prop:=L=[]\/∀a,s=some a->a.block<B
theorem Strs.old {p q:Nat} {w:World} {s:Option Addr} {L:List ByteArray} (h:Strs p q w s L):OldL w.heap.size s L:=by
 rcases h with h|⟨b,o,rfl,h1,_⟩
 ·
  exact Or.inl h
 exact Or.inr λa e=>by cases e;exact h1
theorem Nums.old {p q:Nat} {w:World} {s:Option Addr} {L:List Int} (h:Nums p q w s L):OldL w.heap.size s L:=by
 rcases h with h|⟨b,o,rfl,h1,_⟩
 ·
  exact Or.inl h
 exact Or.inr λa e=>by cases e;exact h1
theorem Strs.grown {p q B:Nat} {w w':World} {s:Option Addr} {L:List ByteArray} {r:Option Nat} (h:Strs p q w s L) (ho:OldL B s L) (hg:w.grownBy w' r) (hr:∀g,r=some g->B<=g):Strs p q w' s L:=by
 rcases h with h|⟨b,o,rfl,h1,h2,h3⟩
 ·
  exact Or.inl h
 rcases ho with ho|ho
 ·
  exact Or.inl ho
 have hb:=ho _ rfl
 exact Or.inr ⟨b,o,rfl,Nat.lt_of_lt_of_le h1 hg.size,h2,λj hj=>(World.cell?_of_block (w:=w) (hg.block b h1 (λe=>by have:=hr b e.symm;simp at hb;omega))).trans (h3 j hj)⟩
theorem Nums.grown {p q B:Nat} {w w':World} {s:Option Addr} {L:List Int} {r:Option Nat} (h:Nums p q w s L) (ho:OldL B s L) (hg:w.grownBy w' r) (hr:∀g,r=some g->B<=g):Nums p q w' s L:=by
 rcases h with h|⟨b,o,rfl,h1,h2,h3⟩
 ·
  exact Or.inl h
 rcases ho with ho|ho
 ·
  exact Or.inl ho
 have hb:=ho _ rfl
 exact Or.inr ⟨b,o,rfl,Nat.lt_of_lt_of_le h1 hg.size,h2,λj hj=>(World.cell?_of_block (w:=w) (hg.block b h1 (λe=>by have:=hr b e.symm;simp at hb;omega))).trans (h3 j hj)⟩
section
variable {G:Gd} {w w':World} {top:Int} {env:Env} {md:Md} {last:Int} {K:KM} {sn sk sw:Option Addr} {cn ck cw:Nat}
def Old3 (G:Gd) (B:Nat) (env:Env) (md:Md) (sn sk sw:Option Addr):Prop:=OldL B sn (env.map (·.1))/\OldL B sk (env.map (·.2))/\OldL B sw md.wth
theorem Lv.old (h:Lv G w top env md last K sn cn sk ck sw cw):Old3 G w.heap.size env md sn sk sw:=⟨h.n.old,h.k.old,h.wl.old⟩
theorem Lv.grown {B:Nat} {r:Option Nat} (h:Lv G w top env md last K sn cn sk ck sw cw) (ho:Old3 G B env md sn sk sw) (hg:w.grownBy w' r) (hr:∀g,r=some g->B<=g) (hp:G.p<B) (hk:G.kb<B) (h0:G.w0.heap.size<=B):Lv G w' top env md last K sn cn sk ck sw cw:=by
 have hb:w'.heap[G.kb]?=w.heap[G.kb]?:=hg.block G.kb h.kl (λe=>by have:=hr _ e.symm;omega)
 refine⟨?_,h.n.grown ho.1 hg hr,h.k.grown ho.2.1 hg hr,h.wl.grown ho.2.2 hg hr,Nat.lt_of_lt_of_le h.kl hg.size,λj hj=>(World.cell?_of_block (w:=w) hb).trans (h.kc j hj),λj=>(World.frozen?_of_block (w:=w) (a:=⟨G.kb,j,none⟩) hb).trans (h.kf j),?_⟩
 ·
  unfold Blk
  rw[hg.block G.p h.bx.lt (λe=>by have:=hr _ e.symm;omega)]
  exact h.bx
 exact h.bl.grown hg h.bl.size (λg e=>by have:=hr g e;omega)
theorem Dd.later {c n:Int} (h:Dd G w c n) (hb:Below w.heap.size w w'):Dd G w' c n:=by
 obtain⟨cs,a1,a2,a3⟩:=h.ex
 exact⟨⟨cs,a1,a2.later hb,a3⟩,h.ne,j01 h.bl hb⟩
theorem Dd.grown {B:Nat} {c n:Int} {r:Option Nat} (h:Dd G w c n) (hg:w.grownBy w' r) (hr:∀g,r=some g->B<=g) (hp:G.p<B) (h0:G.w0.heap.size<=B):Dd G w' c n:=by
 obtain⟨cs,a1,a2,a3⟩:=h.ex
 refine⟨⟨cs,a1,?_,a3⟩,h.ne,h.bl.grown hg h.bl.size (λg e=>by have:=hr g e;omega)⟩
 unfold Blk
 rw[hg.block G.p a2.lt (λe=>by have:=hr _ e.symm;omega)]
 exact a2
end
end
section
open Go.RowKit
section
variable {G:Gd} {w w':World} {top:Int} {env:Env} {md:Md} {last:Int} {K:KM} {sn sk sw:Option Addr} {cn ck cw:Nat}
theorem ji2 {k:Int} {m:Nat} (hk:k=1\/k=2\/k=3\/k=4\/k=5\/k=6\/k=7) {j:Nat} (hj:j<m) (hl:(shp k m).length=m):(shp k m)[j]?=some 1:=by
 rcases hk with rfl|rfl|rfl|rfl|rfl|rfl|rfl
 iterate 6 (simp[shp] at hl;omega)
 simp[shp,hj]
theorem jg6 (hG:G.Ok) {tp f:Nat} (hE:ExpS G top tp env md last f) (htp:top=(tp:Int)) (hle:tp<=G.T.tops.length) (hw:md.wth.length<=1048576) (henv:env.length<=1048576) {i:Nat} {n:Nd} (hv:VN G.T i n) (hi:i<f+1) (hk:n.kind=1\/n.kind=2\/n.kind=3\/n.kind=4\/n.kind=5\/n.kind=6\/n.kind=7) (h:Lv G w top env md last K sn cn sk ck sw cw) :
  Calls Tryz.prog 120 #[.pointer (some ⟨G.p,0,none⟩),.int .i64 (i:Int)] w λe w'=>j0z G w top env md last sn cn sk ck sw cw (ckB (Dg G) G.T (G.T.tops.take tp) md env f K (i:Int)) e w':=by
 have hcl:Hid (∀j,j<n.kids.length->(shp n.kind n.kids.length)[j]?=some 1):=λj hj=>ji2 hk hj hv.len
 have HB:Hid (ckB (Dg G) G.T (G.T.tops.take tp) md env f K (i:Int)=if n.kind=5/\md.each=false then .error (5,(i:Int)) else match ckL (ckE (Dg G) G.T (G.T.tops.take tp) md env f) n.kids K with | .error e=> .error e | .ok (ks,K1)=>match rowE (Dg G) G.T (G.T.tops.take tp) md env n ks with | .error c=> .error (c,(i:Int)) | .ok k=> .ok (k,K1)):=by
  show _=_
  unfold ckB
  rw[j0j hv.at_,if_neg (by omega)]
  all_goals rfl
 obtain⟨nb,no,s9,c9,en1,hnb,e0,e1,e2,e3,ekids⟩:=hG.node hv.at_
 have hiN:i<G.T.nodes.length:=(List.getElem?_eq_some_iff.1 hv.at_).1
 have hnl:G.T.nodes.length<=1048576:=hG.k.1.1
 have hkl:n.kids.length<=1048576:=(hG.k.1.2 n (List.mem_of_getElem? hv.at_)).2
 have x3:w.cell? ⟨G.p,3,none⟩=some (.slice (some ⟨nb,no,none⟩) G.T.nodes.length G.d1):=by rw[<-en1];exact(h.bx.cell 3).trans rfl
 have q0:=(h.bl.cell (p:=⟨nb,no+i*4,none⟩) hnb).trans e0
 have q1:=(h.bl.cell (p:=⟨nb,no+i*4+1,none⟩) hnb).trans e1
 have q2:=(h.bl.cell (p:=⟨nb,no+i*4+2,none⟩) hnb).trans e2
 have q3:=(h.bl.cell (p:=⟨nb,no+i*4+3,none⟩) hnb).trans e3
 have iI:(i:Int)<(G.T.nodes.length:Int):=by omega
 have bz:Hid (Below w.heap.size w (w.alloc (.cells #[.int .i64 n.kind,.string n.text,.int .i64 n.num,.slice s9 n.kids.length c9] 73))):=j00 (Below.refl _ _) _
 have kk5:=Blk.new w #[.int .i64 n.kind,.string n.text,.int .i64 n.num,.slice s9 n.kids.length c9] 73
 have H1:Hid (Lv G (w.alloc (.cells #[.int .i64 n.kind,.string n.text,.int .i64 n.num,.slice s9 n.kids.length c9] 73)) top env md last K sn cn sk ck sw cw):=h.later bz.out
 have hp0:G.p<w.heap.size:=h.bx.lt
 have hk0:G.kb<w.heap.size:=h.kl
 have OL:Hid (Old3 G w.heap.size env md sn sk sw):=h.old
 have HV:Hid (VN G.T i n):=hv
 have HK:Hid (Els 1 cInt G.w0 G.B0 s9 n.kids):=ekids
 have HEx:Hid (ExpS G top tp env md last f):=hE
 have y8:(w.alloc (.cells #[.int .i64 n.kind,.string n.text,.int .i64 n.num,.slice s9 n.kids.length c9] 73)).cell? ⟨G.p,8,none⟩=some (.bool md.each):=(H1.out.bx.cell 8).trans rfl
 have hw0s:G.w0.heap.size<=w.heap.size:=h.bl.size
 clear h e0 e1 e2 e3 ekids hE;have t11:(n.kind ==11)=false:=by simp;omega
 obtain⟨z0,z1,z2,z3,z4⟩:=Blk.four' kk5
 by_cases hc5:n.kind=5/\md.each=false
 ·
  have hEr:Hid (ckB (Dg G) G.T (G.T.tops.take tp) md env f K (i:Int)=.error (5,(i:Int))):=by rw[HB.out,if_pos hc5];rfl
  have t5:(n.kind ==5)=true:=by simp[hc5.1]
  rw[hc5.2] at y8
  clear hc5 hv hk;go_enter Tryz.func120,Tryz.ntmps120
  go_wp2_with fail;refine(j0f hG H1.out 5 (i:Int) (by omega)).mono ?_
  rintro e w3 ⟨rfl,hd,ht⟩
  go_wp2_with fail;go_ret;exact j0z.bad hEr.out hd ((Tw.of bz.out).trans ht)
 have HB2:Hid (ckB (Dg G) G.T (G.T.tops.take tp) md env f K (i:Int)=match ckL (ckE (Dg G) G.T (G.T.tops.take tp) md env f) n.kids K with | .error e=> .error e | .ok (ks,K1)=>match rowE (Dg G) G.T (G.T.tops.take tp) md env n ks with | .error c=> .error (c,(i:Int)) | .ok k=> .ok (k,K1)):=by rw[HB.out,if_neg hc5];rfl
 have bz2:Hid (Below w.heap.size w ((w.alloc (.cells #[.int .i64 n.kind,.string n.text,.int .i64 n.num,.slice s9 n.kids.length c9] 73)).alloc (.cells #[] 3))):=j00 bz.out _
 have H2:Hid (Lv G ((w.alloc (.cells #[.int .i64 n.kind,.string n.text,.int .i64 n.num,.slice s9 n.kids.length c9] 73)).alloc (.cells #[] 3)) top env md last K sn cn sk ck sw cw):=H1.out.later (j00 (Below.refl _ _) _)
 have K52:Hid (Blk ((w.alloc (.cells #[.int .i64 n.kind,.string n.text,.int .i64 n.num,.slice s9 n.kids.length c9] 73)).alloc (.cells #[] 3)) w.heap.size #[.int .i64 n.kind,.string n.text,.int .i64 n.num,.slice s9 n.kids.length c9] 73):=kk5.alloc _
 have O2:Hid (OI ((w.alloc (.cells #[.int .i64 n.kind,.string n.text,.int .i64 n.num,.slice s9 n.kids.length c9] 73)).alloc (.cells #[] 3)) (w.heap.size+1) (.slice (some ⟨w.heap.size+1,0,none⟩) 0 0) []):=by
  have:=OI.empty (Blk.new (w.alloc (.cells #[.int .i64 n.kind,.string n.text,.int .i64 n.num,.slice s9 n.kids.length c9] 73)) #[] 3)
  have e:(w.alloc (.cells #[.int .i64 n.kind,.string n.text,.int .i64 n.num,.slice s9 n.kids.length c9] 73)).heap.size=w.heap.size+1:=by simp
  rw[e] at this
  exact this
 have T2:Hid (Tw G.p G.kb w ((w.alloc (.cells #[.int .i64 n.kind,.string n.text,.int .i64 n.num,.slice s9 n.kids.length c9] 73)).alloc (.cells #[] 3))):=Tw.of bz2.out
 have h5e:((n.kind ==5)&&!md.each)=false:=by
  cases h5:(n.kind ==5)
  ·
   rfl
  cases h6:md.each
  ·
   exact absurd ⟨by simpa using h5,h6⟩ hc5
  rfl
 have hk7:=hk
 clear hv hk;go_enter Tryz.func120,Tryz.ntmps120
 cases h5:(n.kind ==5)
 all_goals (try (rw[h5] at h5e;simp only[Bool.true_and,Bool.not_eq_false'] at h5e;rw[h5e] at y8))
 all_goals
  go_wp2_with fail;clear z0 z1 z2 z3 z4 x3 y8 q0 q1 q2 q3 kk5 bz bz2 H1 h5 h5e hc5 t11;go_loopw [6,7] (λlv jv wr=>∃(j:Nat) (so:Option Addr) (co:Nat) (ks:List Int) (Kj:KM),j<=n.kids.length/\jv=.int .i64 j/\lv=.slice so ks.length co/\Hid (ks.length=j)/\Hid (ckL (ckE (Dg G) G.T (G.T.tops.take tp) md env f) n.kids K=match ckL (ckE (Dg G) G.T (G.T.tops.take tp) md env f) (n.kids.drop j) Kj with | .error e=> .error e | .ok (r,K1)=> .ok (ks++r,K1))/\Hid (OI wr (w.heap.size+1) (.slice so ks.length co) ks)/\Hid (Lv G wr top env md last Kj sn cn sk ck sw cw)/\Hid (Blk wr w.heap.size #[.int .i64 n.kind,.string n.text,.int .i64 n.num,.slice s9 n.kids.length c9] 73)/\Hid (Tw G.p G.kb w wr)) (λ_ jv _=>n.kids.length-(intOf jv).toNat)
  case atStart =>
   refine⟨0,_,_,[],K,Nat.zero_le _,rfl,rfl,rfl,?_,O2,H2,K52,T2⟩
   show _=_
   rw[List.drop_zero]
   cases ckL (ckE (Dg G) G.T (G.T.tops.take tp) md env f) n.kids K with
   | error e=>rfl
   | ok q=>obtain⟨a,b⟩:=q;rfl
  clear O2 H2 K52 T2;obtain⟨j,so,co,ks,Kj,hj,rfl,rfl,hks,hL,O4,H4,K54,T4⟩:=hrel
  obtain⟨z0,z1,z2,z3',z4⟩:=Blk.four' K54.out
  have hsz:w.heap.size<wr.heap.size:=K54.out.lt
  by_cases hlt:j<n.kids.length
  ·
   obtain⟨xi,hxi⟩:∃x,n.kids[j]?=some x:=⟨n.kids[j],by simp[hlt]⟩
   obtain⟨x,xn,rfl,hxlt,hvx⟩:=HV.out.kid (List.mem_of_getElem? hxi)
   obtain⟨fb,fo,hs9,_,hfb,p00⟩:=j05 HK.out hxi
   have hxe:isE xn.kind:=by
    have:=HV.out.cls hxi (c:=1) (hcl.out j hlt)
    rw[j0j hvx.at_] at this
    exact j1q this
   have z3:=z3'
   rw[hs9] at z3
   clear z3' hs9;have v0:=(H4.out.bl.cell (p:=⟨fb,fo+j,none⟩) hfb).trans p00
   have hd:Hid (n.kids.drop j=(x:Int) :: n.kids.drop (j+1)):=by
    show _=_
    rw[List.drop_eq_getElem_cons hlt]
    congr 1
    exact(List.getElem?_eq_some_iff.1 hxi).2
   have HVx:Hid (VN G.T x xn):=hvx
   have jI:(j:Int)<(n.kids.length:Int):=by omega
   have t2:decide ((j:Int)<(n.kids.length:Int))=true:=by simp;omega
   have hksl:ks.length<=1048576:=by have:=hks.out;omega
   clear hxi p00 hvx;go_wp2_with fail;refine(HEx.out x xn Kj _ sn cn sk ck sw cw (by omega) HVx.out hxe H4.out).mono ?_
   rintro e w5 hS5
   have T5:Hid (Tw G.p G.kb wr w5):=hS5.2
   have O5:Hid (OI w5 (w.heap.size+1) (.slice so ks.length co) ks):=O4.out.tw T5.out (by omega) (by omega)
   have K55:Hid (Blk w5 w.heap.size #[.int .i64 n.kind,.string n.text,.int .i64 n.num,.slice s9 n.kids.length c9] 73):=K54.out.tw T5.out (by omega) (by omega)
   have T6:Hid (Tw G.p G.kb w w5):=T4.out.trans T5.out
   have s5:w.heap.size+1<=w5.heap.size:=by have:=T5.out.size;omega
   cases hr:ckE (Dg G) G.T (G.T.tops.take tp) md env f Kj (x:Int) with
   | error q =>
    obtain⟨c,nq⟩:=q
    rw[hr] at hS5
    obtain⟨⟨rfl,hdd⟩,_⟩:=hS5
    have hEr:Hid (ckB (Dg G) G.T (G.T.tops.take tp) md env f K (i:Int)=.error (c,nq)):=by rw[HB2.out,hL.out,hd.out];simp[Hid,ckL,hr]
    have O6:Hid (OI (w5.alloc (.cells #[.int .i64 0] 3)) (w.heap.size+1) (.slice so ks.length co) ks):=O5.out.later (j00 (Below.refl _ _) _)
    have E6:Hid (Els 1 cInt (w5.alloc (.cells #[.int .i64 0] 3)) w5.heap.size (some ⟨w5.heap.size,0,none⟩) [0]):=Els.one (Blk.new w5 #[.int .i64 0] 3)
    have HD:Hid (Dd G (w5.alloc (.cells #[.int .i64 0] 3)) c nq):=hdd.later (j00 (Below.refl _ _) _)
    have T7:Hid (Tw G.p G.kb w (w5.alloc (.cells #[.int .i64 0] 3))):=T6.out.trans (Tw.of (j00 (Below.refl _ _) _))
    have s6:w.heap.size+1<=(w5.alloc (.cells #[.int .i64 0] 3)).heap.size:=by simp;omega
    have tc:(c != 0)=true:=by simp[hdd.ne]
    clear hdd;go_wp2_with (at_builtin;refine j0c rfl _ _ rfl (w.heap.size+1) so co ks rfl O6.out w5.heap.size _ 1 [0] rfl E6.out (ks++[0]) rfl (by simp;omega) s6 ?_)
    intro s' c' w7 hO7 hg7 hn7
    have hown:∀g,(Value.slice so ks.length co).ownBlock=some g->w.heap.size+1<=g:=λg hg=>(O6.out.lt g hg).1
    have HD7:Hid (Dd G w7 c nq):=HD.out.grown hg7 hown (by omega) (by omega)
    have T8:Hid (Tw G.p G.kb w w7):=T7.out.grown hg7 (λg hg=>by have:=hown g hg;omega)
    have y13:=HD7.out.c13
    go_wp2_with fail;go_ret;exact j0z.bad hEr.out HD7.out T8.out
   | ok q =>
    obtain⟨k,K1⟩:=q
    rw[hr] at hS5
    obtain⟨⟨rfl,hl⟩,_⟩:=hS5
    have hL2:Hid (ckL (ckE (Dg G) G.T (G.T.tops.take tp) md env f) n.kids K=match ckL (ckE (Dg G) G.T (G.T.tops.take tp) md env f) (n.kids.drop (j+1)) K1 with | .error e=> .error e | .ok (r,K1)=> .ok ((ks++[k])++r,K1)):=by
     show _=_
     rw[hL.out,hd.out]
     simp only[ckL,hr]
     cases ckL (ckE (Dg G) G.T (G.T.tops.take tp) md env f) (n.kids.drop (j+1)) K1 with
     | error e=>rfl
     | ok q=>obtain⟨a,b⟩:=q;simp
    have hks2:Hid ((ks++[k]).length=j+1):=by show _=_;simp[hks.out]
    obtain⟨R2,eR2⟩:∃R2,Hid (ks++[k]=R2):=⟨_,rfl⟩
    rw[eR2.out] at hL2 hks2
    have O6:Hid (OI (w5.alloc (.cells #[.int .i64 k] 3)) (w.heap.size+1) (.slice so ks.length co) ks):=O5.out.later (j00 (Below.refl _ _) _)
    have E6:Hid (Els 1 cInt (w5.alloc (.cells #[.int .i64 k] 3)) w5.heap.size (some ⟨w5.heap.size,0,none⟩) [k]):=Els.one (Blk.new w5 #[.int .i64 k] 3)
    have H6:Hid (Lv G (w5.alloc (.cells #[.int .i64 k] 3)) top env md last K1 sn cn sk ck sw cw):=hl.later (j00 (Below.refl _ _) _)
    have K56:Hid (Blk (w5.alloc (.cells #[.int .i64 k] 3)) w.heap.size #[.int .i64 n.kind,.string n.text,.int .i64 n.num,.slice s9 n.kids.length c9] 73):=K55.out.alloc _
    have T7:Hid (Tw G.p G.kb w (w5.alloc (.cells #[.int .i64 k] 3))):=T6.out.trans (Tw.of (j00 (Below.refl _ _) _))
    have s6:w.heap.size+1<=(w5.alloc (.cells #[.int .i64 k] 3)).heap.size:=by simp;omega
    clear hl;go_wp2_with (at_builtin;refine j0c rfl _ _ rfl (w.heap.size+1) so co ks rfl O6.out w5.heap.size _ 1 [k] rfl E6.out R2 eR2.out (by simp;omega) s6 ?_)
    intro s' c' w7 hO7 hg7 hn7
    have hown:∀g,(Value.slice so ks.length co).ownBlock=some g->w.heap.size+1<=g:=λg hg=>(O6.out.lt g hg).1
    have H7:Hid (Lv G w7 top env md last K1 sn cn sk ck sw cw):=H6.out.grown OL.out hg7 (λg hg=>by have:=hown g hg;omega) hp0 hk0 hw0s
    have T8:Hid (Tw G.p G.kb w w7):=T7.out.grown hg7 (λg hg=>by have:=hown g hg;omega)
    have K57:Hid (Blk w7 w.heap.size #[.int .i64 n.kind,.string n.text,.int .i64 n.num,.slice s9 n.kids.length c9] 73):=by
     show Blk _ _ _ _
     unfold Blk
     rw[hg7.block w.heap.size K56.out.lt (λe=>by have:=hown _ e.symm;omega)]
     exact K56.out
    have HO7:Hid (OI w7 (w.heap.size+1) (.slice s' R2.length c') R2):=hO7
    have y13:w7.cell? ⟨G.p,13,none⟩=some (.int .i64 0):=(H7.out.bx.cell 13).trans rfl
    clear hO7 hg7 hn7 hown O6 E6 H6 K56 T7;go_wp2_with fail;go_roundw
    case rel=>exact⟨j+1,s',c',R2,K1,by omega,by go_num,rfl,hks2,hL2,HO7,H7,K57,T8⟩
    case measure=>simp[intOf];omega
  have hjj:j=n.kids.length:=by omega
  subst hjj
  have t2:decide ((n.kids.length:Int)<(n.kids.length:Int))=false:=by simp
  have hfin:Hid (ckB (Dg G) G.T (G.T.tops.take tp) md env f K (i:Int)=match rowE (Dg G) G.T (G.T.tops.take tp) md env n ks with | .error c=> .error (c,(i:Int)) | .ok k=> .ok (k,Kj)):=by
   show _=_
   rw[HB2.out,hL.out,List.drop_length]
   simp only[ckL,List.append_nil]
  have hp1:¬G.p=w.heap.size/\G.p<w.heap.size+1:=⟨by omega,by omega⟩
  have hk1:¬G.kb=w.heap.size/\G.kb<w.heap.size+1:=⟨by omega,by omega⟩
  clear hL HB2 HB hj hlt;rcases hk7 with q|q|q|q|q|q|q
  ·
   have tk:(n.kind ==1)=true:=by simp[q]
   have hEr:Hid (ckB (Dg G) G.T (G.T.tops.take tp) md env f K (i:Int)=.ok (1,Kj)):=by rw[hfin.out];simp[Hid,rowE,q]
   clear q;go_wp2_with fail;go_ret;exact j0z.good hEr.out H4.out T4.out
  ·
   have tk1:(n.kind ==1)=false:=by simp[q]
   have tk2:(n.kind ==2)=true:=by simp[q]
   have hEr:Hid (ckB (Dg G) G.T (G.T.tops.take tp) md env f K (i:Int)=.ok (2,Kj)):=by rw[hfin.out];simp[Hid,rowE,q]
   clear q;go_wp2_with fail;go_ret;exact j0z.good hEr.out H4.out T4.out
  ·
   have tk1:(n.kind ==1)=false:=by simp[q]
   have tk2:(n.kind ==2)=false:=by simp[q]
   have tk3:(n.kind ==3)=true:=by simp[q]
   have hEr:Hid (ckB (Dg G) G.T (G.T.tops.take tp) md env f K (i:Int)=.ok (4,Kj)):=by rw[hfin.out];simp[Hid,rowE,q]
   clear q;go_wp2_with fail;go_ret;exact j0z.good hEr.out H4.out T4.out
  ·
   have tk1:(n.kind ==1)=false:=by simp[q]
   have tk2:(n.kind ==2)=false:=by simp[q]
   have tk3:(n.kind ==3)=false:=by simp[q]
   have tk4:(n.kind ==4)=true:=by simp[q]
   have hro:Hid (rowE (Dg G) G.T (G.T.tops.take tp) md env n ks=(match look env n.text with|none=> .error 3|some k=> .ok k)):=by simp[Hid,rowE,q];cases look env n.text<;>rfl
   clear q;go_wp2_with fail;refine(j6b hG H4.out n.text henv).mono ?_
   rintro e w5 ⟨⟨r,rfl,hr⟩,hq⟩
   rw[hq]
   clear hq w5;rcases hr with ⟨rfl,hlk⟩|⟨jj,kk,rfl,hat,hlk⟩
   ·
    have hEr:Hid (ckB (Dg G) G.T (G.T.tops.take tp) md env f K (i:Int)=.error (3,(i:Int))):=by rw[hfin.out,hro.out,hlk];rfl
    go_wp2_with fail;refine(j0f hG H4.out 3 (i:Int) (by omega)).mono ?_
    rintro e w6 ⟨rfl,hd,ht⟩
    go_wp2_with fail;go_ret;exact j0z.bad hEr.out hd (T4.out.trans ht)
   have hEr:Hid (ckB (Dg G) G.T (G.T.tops.take tp) md env f K (i:Int)=.ok (kk,Kj)):=by rw[hfin.out,hro.out,hlk];rfl
   have hjl:jj<env.length:=(List.getElem?_eq_some_iff.1 hat).1
   obtain⟨bb,oo,rfl,_,_,v1⟩:=H4.out.k.get (j:=jj) (x:=kk) (by simp[hat])
   have x7:wr.cell? ⟨G.p,7,none⟩=some (.slice (some ⟨bb,oo,none⟩) env.length ck):=(H4.out.bx.cell 7).trans rfl
   have jI:(jj:Int)<(env.length:Int):=by omega
   have jn:decide ((jj:Int)<0)=false:=by simp
   clear hat hlk;go_wp2_with fail;go_ret;exact j0z.good hEr.out H4.out T4.out
  ·
   have tk1:(n.kind ==1)=false:=by simp[q]
   have tk2:(n.kind ==2)=false:=by simp[q]
   have tk3:(n.kind ==3)=false:=by simp[q]
   have tk4:(n.kind ==4)=false:=by simp[q]
   have tk5:(n.kind ==5)=true:=by simp[q]
   have hro:Hid (rowE (Dg G) G.T (G.T.tops.take tp) md env n ks=j2b (Dg G) md n.text):=by simp[Hid,rowE,q]
   clear q;go_wp2_with fail;refine(j81 hG H4.out hw n.text (i:Int)).mono ?_
   rintro e w5 hS5
   cases hc:j2b (Dg G) md n.text with
   | error c =>
    rw[hc] at hS5
    obtain⟨⟨rfl,hd⟩,ht⟩:=hS5
    have hEr:Hid (ckB (Dg G) G.T (G.T.tops.take tp) md env f K (i:Int)=.error (c,(i:Int))):=by rw[hfin.out,hro.out,hc];rfl
    go_wp2_with fail;go_ret;exact j0z.bad hEr.out hd (T4.out.trans ht)
   | ok k =>
    rw[hc] at hS5
    obtain⟨⟨rfl,hl⟩,ht⟩:=hS5
    have hEr:Hid (ckB (Dg G) G.T (G.T.tops.take tp) md env f K (i:Int)=.ok (k,Kj)):=by rw[hfin.out,hro.out,hc];rfl
    go_wp2_with fail;go_ret;exact j0z.good hEr.out hl (T4.out.trans ht)
  ·
   have tk1:(n.kind ==1)=false:=by simp[q]
   have tk2:(n.kind ==2)=false:=by simp[q]
   have tk3:(n.kind ==3)=false:=by simp[q]
   have tk4:(n.kind ==4)=false:=by simp[q]
   have tk5:(n.kind ==5)=false:=by simp[q]
   have tk6:(n.kind ==6)=true:=by simp[q]
   have hro:Hid (rowE (Dg G) G.T (G.T.tops.take tp) md env n ks=if Dg G 2 n.text=0 then .error 3 else .ok (Dg G 2 n.text)):=by simp[Hid,rowE,q]
   clear q;go_wp2_with fail;refine(j40 hG H4.out 2 n.text).mono ?_
   rintro e w5 ⟨rfl,hb5⟩
   have H5:Hid (Lv G w5 top env md last Kj sn cn sk ck sw cw):=H4.out.later hb5
   have T5:Hid (Tw G.p G.kb w w5):=T4.out.trans (Tw.of hb5)
   obtain⟨dk,hdk⟩:∃k,Hid (Dg G 2 n.text=k):=⟨_,rfl⟩
   rw[show dkL (j19 G.A G.B G.C 2) n.text=dk from hdk.out]
   clear hb5;by_cases h0:dk=0
   ·
    subst h0
    have hEr:Hid (ckB (Dg G) G.T (G.T.tops.take tp) md env f K (i:Int)=.error (3,(i:Int))):=by rw[hfin.out,hro.out,hdk.out];rfl
    go_wp2_with fail;refine(j0f hG H5.out 3 (i:Int) (by omega)).mono ?_
    rintro e w6 ⟨rfl,hd,ht⟩
    go_wp2_with fail;go_ret;exact j0z.bad hEr.out hd (T5.out.trans ht)
   have t0:(dk ==0)=false:=by simp[h0]
   have hEr:Hid (ckB (Dg G) G.T (G.T.tops.take tp) md env f K (i:Int)=.ok (dk,Kj)):=by rw[hfin.out,hro.out,hdk.out,if_neg h0];rfl
   go_wp2_with fail;go_ret;exact j0z.good hEr.out H5.out T5.out
  have tk1:(n.kind ==1)=false:=by simp[q]
  have tk2:(n.kind ==2)=false:=by simp[q]
  have tk3:(n.kind ==3)=false:=by simp[q]
  have tk4:(n.kind ==4)=false:=by simp[q]
  have tk5:(n.kind ==5)=false:=by simp[q]
  have tk6:(n.kind ==6)=false:=by simp[q]
  have tk7:(n.kind ==7)=true:=by simp[q]
  have hro:Hid (rowE (Dg G) G.T (G.T.tops.take tp) md env n ks=j2m G.T (G.T.tops.take tp) n ks):=by simp[Hid,rowE,q]
  clear q;go_wp2_with fail;refine(jfn hG H4.out tp htp hle i n HV.out.at_ so co ks (O4.out.nums hp1 hk1) hks.out).mono ?_
  rintro e w5 hS5
  cases hc:j2m G.T (G.T.tops.take tp) n ks with
  | error c =>
   rw[hc] at hS5
   obtain⟨⟨rfl,hd⟩,ht⟩:=hS5
   have hEr:Hid (ckB (Dg G) G.T (G.T.tops.take tp) md env f K (i:Int)=.error (c,(i:Int))):=by rw[hfin.out,hro.out,hc];rfl
   go_wp2_with fail;go_ret;exact j0z.bad hEr.out hd (T4.out.trans ht)
  | ok k =>
   rw[hc] at hS5
   obtain⟨⟨rfl,hl⟩,ht⟩:=hS5
   have hEr:Hid (ckB (Dg G) G.T (G.T.tops.take tp) md env f K (i:Int)=.ok (k,Kj)):=by rw[hfin.out,hro.out,hc];rfl
   go_wp2_with fail;go_ret;exact j0z.good hEr.out hl (T4.out.trans ht)
end
end
section
open Go.RowKit
abbrev V:=Int×Int×Option Nat×Option Nat
def VIs (o:V) (k i:Int) (x y:Nat):Prop:=k=o.1/\i=o.2.1/\Is o.2.2.1 x/\Is o.2.2.2 y
def zV:V:=(0,0,some 0,some 0)
def iV (n:Int):V:=(1,n,some 0,some 0)
def rV (o:Option Nat):V:=(2,0,o,some 0)
def pV (o p:Option Nat):V:=(3,0,o,p)
def bN (b:Bool):Int:=if b then 1 else 0
def bV (b:Bool):V:=(4,bN b,some 0,some 0)
theorem j4z:Is (some 0) 0:=⟨by decide,Or.inl rfl⟩
theorem j2y {x:Nat} (h:x<18446744073709551616):Is (some x) x:=⟨h,Or.inl rfl⟩
theorem jlo:VIs zV 0 0 0 0:=⟨rfl,rfl,j4z,j4z⟩
theorem jm2 (n:Int):VIs (iV n) 1 n 0 0:=⟨rfl,rfl,j4z,j4z⟩
theorem jlr (b:Bool):VIs (bV b) 4 (bN b) 0 0:=⟨rfl,rfl,j4z,j4z⟩
theorem jm7 {o:Option Nat} {x:Nat} (h:Is o x):VIs (rV o) 2 0 x 0:=⟨rfl,rfl,h,j4z⟩
theorem jlx {o p:Option Nat} {x y:Nat} (h:Is o x) (g:Is p y):VIs (pV o p) 3 0 x y:=⟨rfl,rfl,h,g⟩
theorem j2q (n:Int) (w:World) :
  Calls Tryz.prog 178 #[.int .i64 n] w λe w'=>e=.returned (.agg #[.int .i64 1,.int .i64 n,.float .f64 0,.float .f64 0])/\w'=w.alloc (.cells #[.int .i64 1,.int .i64 n,.float .f64 0,.float .f64 0] 200):=by
 go_enter Tryz.func178,Tryz.ntmps178
 go_wp2
 refine bq (.agg #[.int .i64 1,.int .i64 n,.float .f64 0,.float .f64 0]) ⟨rfl,rfl⟩
theorem j23 (x:Nat) (w:World) :
  Calls Tryz.prog 197 #[.float .f64 x] w λe w'=>e=.returned (.agg #[.int .i64 2,.int .i64 0,.float .f64 x,.float .f64 0])/\w'=w.alloc (.cells #[.int .i64 2,.int .i64 0,.float .f64 x,.float .f64 0] 200):=by
 go_enter Tryz.func197,Tryz.ntmps197
 go_wp2
 refine bq (.agg #[.int .i64 2,.int .i64 0,.float .f64 x,.float .f64 0]) ⟨rfl,rfl⟩
theorem j36 (x y:Nat) (w:World) :
  Calls Tryz.prog 190 #[.complex .f64 x y] w λe w'=>e=.returned (.agg #[.int .i64 3,.int .i64 0,.float .f64 x,.float .f64 y])/\w'=w.alloc (.cells #[.int .i64 3,.int .i64 0,.float .f64 x,.float .f64 y] 200):=by
 go_enter Tryz.func190,Tryz.ntmps190
 go_wp2
 refine bq (.agg #[.int .i64 3,.int .i64 0,.float .f64 x,.float .f64 y]) ⟨rfl,rfl⟩
theorem j22 (b:Bool) (w:World) :
  Calls Tryz.prog 196 #[.bool b] w λe w'=>e=.returned (.agg #[.int .i64 4,.int .i64 (bN b),.float .f64 0,.float .f64 0])/\w'=w.alloc (.cells #[.int .i64 4,.int .i64 (bN b),.float .f64 0,.float .f64 0] 200):=by
 cases b
 all_goals
  go_enter Tryz.func196,Tryz.ntmps196
  go_wp2
 ·
  refine bq (.agg #[.int .i64 4,.int .i64 0,.float .f64 0,.float .f64 0]) ⟨rfl,rfl⟩
 refine bq (.agg #[.int .i64 4,.int .i64 1,.float .f64 0,.float .f64 0]) ⟨rfl,rfl⟩
theorem j26 (b:Bool) (w:World) :
  Calls Tryz.prog 155 #[.bool b] w λe w'=>e=.returned (.agg #[.int .i64 4,.int .i64 (bN b),.float .f64 0,.float .f64 0])/\w'=w.alloc (.cells #[.int .i64 4,.int .i64 (bN b),.float .f64 0,.float .f64 0] 200):=by
 cases b
 all_goals
  go_enter Tryz.func155,Tryz.ntmps155
  go_wp2
 ·
  refine bq (.agg #[.int .i64 4,.int .i64 0,.float .f64 0,.float .f64 0]) ⟨rfl,rfl⟩
 refine bq (.agg #[.int .i64 4,.int .i64 1,.float .f64 0,.float .f64 0]) ⟨rfl,rfl⟩
theorem j8d (k i:Int) (x y:Nat) (w:World) :
  Calls Tryz.prog 184 #[.agg #[.int .i64 k,.int .i64 i,.float .f64 x,.float .f64 y]] w λe w'=>e=.returned (.complex .f64 x y)/\w'=w.alloc (.cells #[.int .i64 k,.int .i64 i,.float .f64 x,.float .f64 y] 200):=by
 go_enter Tryz.func184,Tryz.ntmps184
 go_wp2
 go_ret;exact⟨rfl,rfl⟩
def j2i (op a b:Int):V×Int :=
 if op=1 then (iV (wrap64 (a+b)),0) else if op=2 then (iV (wrap64 (a-b)),0) else if op=3 then (iV (wrap64 (a*b)),0)
 else if op=4 then (if b=0 then (zV,2) else (iV (wrap64 (a.tdiv b)),0)) else if op=5 then (if b=0 then (zV,2) else (iV (a.tmod b),0))
 else if op=6 then (bV (decide (a<b)),0) else if op=7 then (bV (a ==b),0) else (zV,1)
def j1m (o:V×Int) (w:World) (e:Ending) (w':World):Prop :=
 ∃(k i:Int) (x y:Nat),e=.returned (.tuple #[.agg #[.int .i64 k,.int .i64 i,.float .f64 x,.float .f64 y],.int .i64 o.2])/\VIs o.1 k i x y/\Below w.heap.size w w'
theorem j28 {o:V×Int} {w:World} {e:Ending} {w':World} {n:Int} (ho:o=(iV n,0)) (he:e=.returned (.tuple #[.agg #[.int .i64 1,.int .i64 n,.float .f64 0,.float .f64 0],.int .i64 0])) (hb:Below w.heap.size w w'):j1m o w e w':=by
 subst ho;exact⟨_,_,_,_,he,jm2 n,hb⟩
theorem j12 {o:V×Int} {w:World} {e:Ending} {w':World} {b:Bool} (ho:o=(bV b,0)) (he:e=.returned (.tuple #[.agg #[.int .i64 4,.int .i64 (bN b),.float .f64 0,.float .f64 0],.int .i64 0])) (hb:Below w.heap.size w w'):j1m o w e w':=by
 subst ho;exact⟨_,_,_,_,he,jlr b,hb⟩
theorem j0k {o:V×Int} {w:World} {e:Ending} {w':World} {c:Int} (ho:o=(zV,c)) (he:e=.returned (.tuple #[.agg #[.int .i64 0,.int .i64 0,.float .f64 0,.float .f64 0],.int .i64 c])) (hb:Below w.heap.size w w'):j1m o w e w':=by
 subst ho;exact⟨_,_,_,_,he,jlo,hb⟩
theorem j1u {o:V×Int} {w:World} {e:Ending} {w':World} {q:Option Nat} {x:Nat} (ho:o=(rV q,0)) (hq:Is q x) (he:e=.returned (.tuple #[.agg #[.int .i64 2,.int .i64 0,.float .f64 x,.float .f64 0],.int .i64 0])) (hb:Below w.heap.size w w'):j1m o w e w':=by
 subst ho;exact⟨_,_,_,_,he,jm7 hq,hb⟩
theorem j3j {o:V×Int} {w:World} {e:Ending} {w':World} {q r:Option Nat} {x y:Nat} (ho:o=(pV q r,0)) (hq:Is q x) (hr:Is r y) (he:e=.returned (.tuple #[.agg #[.int .i64 3,.int .i64 0,.float .f64 x,.float .f64 y],.int .i64 0])) (hb:Below w.heap.size w w'):j1m o w e w':=by
 subst ho;exact⟨_,_,_,_,he,jlx hq hr,hb⟩
theorem j86 (op a:Int) (w:World) :
  Calls Tryz.prog 195 #[.int .i64 op,.int .i64 a,.int .i64 0] w λe w'=>e=.returned (.tuple #[.agg #[.int .i64 0,.int .i64 0,.float .f64 0,.float .f64 0],.int .i64 2])/\w'=w.alloc (.cells #[.int .i64 0,.int .i64 0,.float .f64 0,.float .f64 0] 200):=by
 go_enter Tryz.func195,Tryz.ntmps195
 go_wp2_with fail;refine bq (.tuple #[.agg #[.int .i64 0,.int .i64 0,.float .f64 0,.float .f64 0],.int .i64 2]) ⟨rfl,rfl⟩
theorem jdy (a b:Int) (w:World) (h:¬b=0) :
  Calls Tryz.prog 195 #[.int .i64 4,.int .i64 a,.int .i64 b] w λe w'=>e=.returned (.tuple #[.agg #[.int .i64 1,.int .i64 (wrap64 (a.tdiv b)),.float .f64 0,.float .f64 0],.int .i64 0])/\w'=(w.alloc (.cells #[.int .i64 1,.int .i64 (wrap64 (a.tdiv b)),.float .f64 0,.float .f64 0] 200)).alloc (.cells #[.int .i64 1,.int .i64 (wrap64 (a.tdiv b)),.float .f64 0,.float .f64 0] 200):=by
 have g:(b ==0)=false:=beq_eq_false_iff_ne.2 h
 go_enter Tryz.func195,Tryz.ntmps195
 go_wp2_with (go_at_call 178;refine(j2q _ _).mono ?_;rintro e w' ⟨rfl,rfl⟩)
 refine bq (.tuple #[.agg #[.int .i64 1,.int .i64 (wrap64 (a.tdiv b)),.float .f64 0,.float .f64 0],.int .i64 0]) ⟨rfl,rfl⟩
theorem je0 (a b:Int) (w:World) (h:¬b=0) :
  Calls Tryz.prog 195 #[.int .i64 5,.int .i64 a,.int .i64 b] w λe w'=>e=.returned (.tuple #[.agg #[.int .i64 1,.int .i64 (a.tmod b),.float .f64 0,.float .f64 0],.int .i64 0])/\w'=(w.alloc (.cells #[.int .i64 1,.int .i64 (a.tmod b),.float .f64 0,.float .f64 0] 200)).alloc (.cells #[.int .i64 1,.int .i64 (a.tmod b),.float .f64 0,.float .f64 0] 200):=by
 have g:(b ==0)=false:=beq_eq_false_iff_ne.2 h
 go_enter Tryz.func195,Tryz.ntmps195
 go_wp2_with (go_at_call 178;refine(j2q _ _).mono ?_;rintro e w' ⟨rfl,rfl⟩)
 refine bq (.tuple #[.agg #[.int .i64 1,.int .i64 (a.tmod b),.float .f64 0,.float .f64 0],.int .i64 0]) ⟨rfl,rfl⟩
theorem jex (op a b:Int) (w:World) :
  Calls Tryz.prog 181 #[.int .i64 op,.int .i64 a,.int .i64 b] w λe w'=>j1m (j2i op a b) w e w':=by
 by_cases h1:op=1
 ·
  subst h1
  go_enter Tryz.func181,Tryz.ntmps181
  go_wp2_with ((go_at_call 178;refine(j2q _ _).mono ?_;rintro e w' ⟨rfl,rfl⟩))
  refine bq (.tuple #[.agg #[.int .i64 1,.int .i64 (wrap64 (a+b)),.float .f64 0,.float .f64 0],.int .i64 0]) (j28 rfl rfl ?_)
  exact blq
 by_cases h2:op=2
 ·
  subst h2
  go_enter Tryz.func181,Tryz.ntmps181
  go_wp2_with ((go_at_call 178;refine(j2q _ _).mono ?_;rintro e w' ⟨rfl,rfl⟩))
  refine bq (.tuple #[.agg #[.int .i64 1,.int .i64 (wrap64 (a-b)),.float .f64 0,.float .f64 0],.int .i64 0]) (j28 rfl rfl ?_)
  exact blq
 by_cases h3:op=3
 ·
  subst h3
  go_enter Tryz.func181,Tryz.ntmps181
  go_wp2_with ((go_at_call 178;refine(j2q _ _).mono ?_;rintro e w' ⟨rfl,rfl⟩))
  refine bq (.tuple #[.agg #[.int .i64 1,.int .i64 (wrap64 (a*b)),.float .f64 0,.float .f64 0],.int .i64 0]) (j28 rfl rfl ?_)
  exact blq
 by_cases h6:op=6
 ·
  subst h6
  go_enter Tryz.func181,Tryz.ntmps181
  go_wp2_with ((go_at_call 196;refine(j22 _ _).mono ?_;rintro e w' ⟨rfl,rfl⟩))
  refine bq (.tuple #[.agg #[.int .i64 4,.int .i64 (bN (decide (a<b))),.float .f64 0,.float .f64 0],.int .i64 0]) (j12 rfl rfl ?_)
  exact blq
 by_cases h7:op=7
 ·
  subst h7
  go_enter Tryz.func181,Tryz.ntmps181
  go_wp2_with ((go_at_call 196;refine(j22 _ _).mono ?_;rintro e w' ⟨rfl,rfl⟩))
  refine bq (.tuple #[.agg #[.int .i64 4,.int .i64 (bN (a ==b)),.float .f64 0,.float .f64 0],.int .i64 0]) (j12 rfl rfl ?_)
  exact blq
 have g1:(op ==1)=false:=beq_eq_false_iff_ne.2 h1
 have g2:(op ==2)=false:=beq_eq_false_iff_ne.2 h2
 have g3:(op ==3)=false:=beq_eq_false_iff_ne.2 h3
 have g6:(op ==6)=false:=beq_eq_false_iff_ne.2 h6
 have g7:(op ==7)=false:=beq_eq_false_iff_ne.2 h7
 by_cases h4:op=4
 ·
  subst h4
  by_cases hb:b=0
  ·
   subst hb
   go_enter Tryz.func181,Tryz.ntmps181
   go_wp2_with (go_at_call 195;refine(j86 _ _ _).mono ?_;rintro e w' ⟨rfl,rfl⟩)
   refine bq (.tuple #[.agg #[.int .i64 0,.int .i64 0,.float .f64 0,.float .f64 0],.int .i64 2]) (j0k rfl rfl ?_)
   exact blq
  have E:Hid (j2i 4 a b=(iV (wrap64 (a.tdiv b)),0)):=by simp[Hid,j2i,hb]
  go_enter Tryz.func181,Tryz.ntmps181
  go_wp2_with (go_at_call 195;refine(jdy _ _ _ hb).mono ?_;rintro e w' ⟨rfl,rfl⟩)
  refine bq (.tuple #[.agg #[.int .i64 1,.int .i64 (wrap64 (a.tdiv b)),.float .f64 0,.float .f64 0],.int .i64 0]) (j28 E.out rfl ?_)
  exact blq
 by_cases h5:op=5
 ·
  subst h5
  by_cases hb:b=0
  ·
   subst hb
   go_enter Tryz.func181,Tryz.ntmps181
   go_wp2_with (go_at_call 195;refine(j86 _ _ _).mono ?_;rintro e w' ⟨rfl,rfl⟩)
   refine bq (.tuple #[.agg #[.int .i64 0,.int .i64 0,.float .f64 0,.float .f64 0],.int .i64 2]) (j0k rfl rfl ?_)
   exact blq
  have E:Hid (j2i 5 a b=(iV (a.tmod b),0)):=by simp[Hid,j2i,hb]
  go_enter Tryz.func181,Tryz.ntmps181
  go_wp2_with (go_at_call 195;refine(je0 _ _ _ hb).mono ?_;rintro e w' ⟨rfl,rfl⟩)
  refine bq (.tuple #[.agg #[.int .i64 1,.int .i64 (a.tmod b),.float .f64 0,.float .f64 0],.int .i64 0]) (j28 E.out rfl ?_)
  exact blq
 have g4:(op ==4)=false:=beq_eq_false_iff_ne.2 h4
 have g5:(op ==5)=false:=beq_eq_false_iff_ne.2 h5
 have E:Hid (j2i op a b=(zV,1)):=by simp[Hid,j2i,h1,h2,h3,h4,h5,h6,h7]
 go_enter Tryz.func181,Tryz.ntmps181
 go_wp2_with fail;refine bq (.tuple #[.agg #[.int .i64 0,.int .i64 0,.float .f64 0,.float .f64 0],.int .i64 1]) (j0k E.out rfl ?_)
 exact blq
end
section
open Go.RowKit
def j2p (op:Int) (a b:Nat):V×Int :=
 if op=1 then (rV (floatBits .add .f64 a b),0) else if op=2 then (rV (floatBits .sub .f64 a b),0) else if op=3 then (rV (floatBits .mul .f64 a b),0)
 else if op=4 then (rV (floatBits .quo .f64 a b),0)
 else if op=6 then (bV (FloatKind.f64.format.order a b ==some Ordering.lt),0) else if op=7 then (bV (FloatKind.f64.format.order a b ==some Ordering.eq),0) else (zV,1)
theorem jce (op:Int) (a b:Nat) (w:World) :
  Calls Tryz.prog 182 #[.int .i64 op,.float .f64 a,.float .f64 b] w λe w'=>j1m (j2p op a b) w e w':=by
 by_cases h1:op=1
 ·
  subst h1
  have hf:=λt w=>j0n (P:=Tryz.prog) .add rfl t a b w
  go_enter Tryz.func182,Tryz.ntmps182
  go_wp2_with (go_at_call 197;refine(j23 _ _).mono ?_;rintro e w' ⟨rfl,rfl⟩)
  refine bodyPost_ret (v:=.tuple #[.agg #[.int .i64 2,.int .i64 0,.float .f64 (fres .add a b _),.float .f64 0],.int .i64 0]) (by simp[results,Tryz.results182,go_sem];rfl) rfl (j1u rfl (j11 _ _ _ _) rfl ?_)
  exact blq
 by_cases h2:op=2
 ·
  subst h2
  have hf:=λt w=>j0n (P:=Tryz.prog) .sub rfl t a b w
  go_enter Tryz.func182,Tryz.ntmps182
  go_wp2_with (go_at_call 197;refine(j23 _ _).mono ?_;rintro e w' ⟨rfl,rfl⟩)
  refine bodyPost_ret (v:=.tuple #[.agg #[.int .i64 2,.int .i64 0,.float .f64 (fres .sub a b _),.float .f64 0],.int .i64 0]) (by simp[results,Tryz.results182,go_sem];rfl) rfl (j1u rfl (j11 _ _ _ _) rfl ?_)
  exact blq
 by_cases h3:op=3
 ·
  subst h3
  have hf:=λt w=>j0n (P:=Tryz.prog) .mul rfl t a b w
  go_enter Tryz.func182,Tryz.ntmps182
  go_wp2_with (go_at_call 197;refine(j23 _ _).mono ?_;rintro e w' ⟨rfl,rfl⟩)
  refine bodyPost_ret (v:=.tuple #[.agg #[.int .i64 2,.int .i64 0,.float .f64 (fres .mul a b _),.float .f64 0],.int .i64 0]) (by simp[results,Tryz.results182,go_sem];rfl) rfl (j1u rfl (j11 _ _ _ _) rfl ?_)
  exact blq
 by_cases h4:op=4
 ·
  subst h4
  have hf:=λt w=>j0n (P:=Tryz.prog) .quo rfl t a b w
  go_enter Tryz.func182,Tryz.ntmps182
  go_wp2_with (go_at_call 197;refine(j23 _ _).mono ?_;rintro e w' ⟨rfl,rfl⟩)
  refine bodyPost_ret (v:=.tuple #[.agg #[.int .i64 2,.int .i64 0,.float .f64 (fres .quo a b _),.float .f64 0],.int .i64 0]) (by simp[results,Tryz.results182,go_sem];rfl) rfl (j1u rfl (j11 _ _ _ _) rfl ?_)
  exact blq
 by_cases h6:op=6
 ·
  subst h6
  go_enter Tryz.func182,Tryz.ntmps182
  go_wp2_with (go_at_call 196;refine(j22 _ _).mono ?_;rintro e w' ⟨rfl,rfl⟩)
  refine bq (.tuple #[.agg #[.int .i64 4,.int .i64 (bN (FloatKind.f64.format.order a b ==some Ordering.lt)),.float .f64 0,.float .f64 0],.int .i64 0]) (j12 rfl rfl ?_)
  exact blq
 by_cases h7:op=7
 ·
  subst h7
  go_enter Tryz.func182,Tryz.ntmps182
  go_wp2_with (go_at_call 196;refine(j22 _ _).mono ?_;rintro e w' ⟨rfl,rfl⟩)
  refine bq (.tuple #[.agg #[.int .i64 4,.int .i64 (bN (FloatKind.f64.format.order a b ==some Ordering.eq)),.float .f64 0,.float .f64 0],.int .i64 0]) (j12 rfl rfl ?_)
  exact blq
 have g1:(op ==1)=false:=beq_eq_false_iff_ne.2 h1
 have g2:(op ==2)=false:=beq_eq_false_iff_ne.2 h2
 have g3:(op ==3)=false:=beq_eq_false_iff_ne.2 h3
 have g4:(op ==4)=false:=beq_eq_false_iff_ne.2 h4
 have g6:(op ==6)=false:=beq_eq_false_iff_ne.2 h6
 have g7:(op ==7)=false:=beq_eq_false_iff_ne.2 h7
 have E:Hid (j2p op a b=(zV,1)):=by simp[Hid,j2p,h1,h2,h3,h4,h6,h7]
 go_enter Tryz.func182,Tryz.ntmps182
 go_wp2_with fail;refine bq (.tuple #[.agg #[.int .i64 0,.int .i64 0,.float .f64 0,.float .f64 0],.int .i64 1]) (j0k E.out rfl ?_)
 exact blq
end
end Go.Proofs.YtjbbagcpcepkoaaGreatDoor
