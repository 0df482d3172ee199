import Derived.Test.YtjbbagcpcepkoaaGreatDoorSf21
namespace Go.Proofs.YtjbbagcpcepkoaaGreatDoor
set_option maxRecDepth 100000
set_option maxHeartbeats 64000000
set_option linter.unusedVariables false
set_option linter.unusedSimpArgs false
section
open Go.RowKit Go.Maps Go.WideMaps Go.ChangeShapes Go.WideShapes Go.MapKept Go.ChangeMaps Go.WideElems
theorem j8r {K:Nat->List Int} {ok:Nat->Prop} {x:Int} {xs:List Int} {a e:Nat} (h:FitL K ok (x :: xs) a e):∃k:Nat,x=(k:Int)/\k<e/\ok k/\FitL K ok (K k) a k/\FitL K ok xs (k+1) e/\a<=k:=by
 cases h with
 | cons _ k _ _ h1 h2 h3 h4=>exact⟨k,rfl,h4.le,h2,h3,h4,h1⟩
theorem Tw.fresh {p q b:Nat} {w w':World} (h:Tw p q w w') (hb:w.heap.size<=b) (j:Nat) (u:Value):Tw p q w (w'.setCell ⟨b,j,none⟩ u) :=
 ⟨h.os,h.tape,h.output,by simpa using h.size,λk h1 h2 h3=>(Below.heap_setCell w' ⟨b,j,none⟩ u k (by simp;omega)).trans (h.block k h1 h2 h3)⟩
section
variable {G:Pd} {w w':World} {ah:List Int} {Kp Kp' K:KM} {km ko mb nn:Nat} {gg:Nm} {bs:List Nat} {md:Md} {av:Value} {env:Env} {nx:Nat} {lst hr:Bool} {tk:Int}
theorem Pv.off {p:Nat} (h:Pv G w ah Kp) (ht:Tw p p w w') (h0:G.w0.heap.size<=p) (h1:¬p=G.c) (h2:¬p=G.kb) (h3:¬p=G.bt):Pv G w' ah Kp:=by
 obtain⟨m,h4,h5⟩:=h.tp
 exact⟨h.bx.tw ht (Ne.symm h1) (Ne.symm h1),Nat.lt_of_lt_of_le h.kl ht.size,λj hj=>(ht.cell h.kl (Ne.symm h2) (Ne.symm h2)).trans (h.kc j hj),λj=>(World.frozen?_of_block (a:=⟨G.kb,j,none⟩) (ht.block G.kb h.kl (Ne.symm h2) (Ne.symm h2))).trans (h.kf j),⟨m,h4,h5.same (ht.block _ h5.lt (Ne.symm h3) (Ne.symm h3))⟩,ht.below h.bl h.bl.size h0 h0⟩
theorem Px.off {p:Nat} (h:Px G w km ko gg bs md av env Kp nx) (ht:Tw p p w w') (hb:∀b∈bs,¬b=p) (ha:∀ba,av=.map (some ba)->¬ba=p):Px G w' km ko gg bs md av env Kp nx :=
 ⟨h.sc.same λb hm=>ht.block b (h.sc.lt b hm) (hb b hm) (hb b hm),h.ap,h.er,h.am.one λba h1 h2 _=>ht.block ba h2 (ha ba h1) (ha ba h1)⟩
theorem Lx.off {p:Nat} (hl:Lx G w km ko mb nn gg bs av) (ht:Tw p p w w') (hb:∀b∈bs,¬b=p):Lx G w' km ko mb nn gg bs av:=by
 obtain⟨f,g,v,br,h1,h2,h3,h4,h5,h6,h7⟩:=hl.ex
 subst h6
 have hm:∀b∈(km :: mb :: ko :: br),b<w.heap.size->w'.heap[b]?=w.heap[b]?:=λb q hlt=>ht.block b hlt (hb b q) (hb b q)
 refine⟨⟨f,g,v,br,?_,h2.same (hm mb (by simp) h2.lt),?_,h4.same λb q=>hm b (by simp[q]) (h4.lt b q),h5,rfl,h7⟩,hl.ge,hl.nc,hl.nt,hl.nk,hl.am⟩
 ·
  exact h1.tw ht (hb km (by simp)) (hb km (by simp))
 exact h3.tw ht (hb ko (by simp)) (hb ko (by simp))
structure LdS (G:Pd) (w0 w:World) (ah:List Int) (km ko mb:Nat) (bs:List Nat) (md:Md) (av:Value) (nx b:Nat) (Kp0:KM) (g:Env->KM->Int->Bool->Ck (Env×KM)) (own:Bool) (all:Ck KM) (ks:List Int) (env:Env) (K Kp:KM) (gg:Nm) (nn a:Nat):Prop where
 ck:all=ckSs g own ks env K
 fit:FitL (j0e G.T) (okN G.T) ks a b
 na:nn<=a
 xa:nx<=a
 p:Pv G w ah Kp
 kr:KR G.T Kp K
 lo:∀j,j<nx->Kp j=Kp0 j
 x:Px G w km ko gg bs md av env Kp a
 l:Lx G w km ko mb nn gg bs av
 tw:Tw G.kb mb w0 w
theorem j3o (hG:G.Ok) {f:Nat} (hS:StP G ah f) {b:Nat} {n:Nd} (hv:VN G.T b n) (h27:n.kind=27) (hfit:FitL (j0e G.T) (okN G.T) n.kids nx b) (hbf:b<=f) (own:Bool) (htk:Hid (tk=(if md.fn=true then 33 else 34)/\hr=md.hears)) (h:Pv G w ah Kp) (hp:Px G w km ko gg bs md av env Kp nx) (hkr:KR G.T Kp K) :
  Calls Tryz.prog 68 #[.pointer (some ⟨G.c,0,none⟩),.int .i64 (b:Int),.agg #[addF km,j09 km ko,.int .i64 tk,.bool lst,.bool hr,av],.bool own] w λe w'=>j13 G w ah nx Kp (ckSs (ckS (Dp G) G.T ah G.T.nodes.length f md) own n.kids env K) e w':=by
 obtain⟨nb,no,s9,c9,en1,hnb,e0,e1,e2,e3,ekids,hcap⟩:=Pd.node hG hv.at_
 have hbN:b<G.T.nodes.length:=(List.getElem?_eq_some_iff.1 hv.at_).1
 have bI:(b:Int)<(G.T.nodes.length:Int):=by omega
 have hn4:G.T.nodes.length<=4000:=hG.tr.1
 have hkl:n.kids.length<=1048576:=(hG.k.1.2 n (List.mem_of_getElem? hv.at_)).2
 have hle:=hfit.le
 have b1:Below w.heap.size w (w.alloc (.cells #[addF km,j09 km ko,.int .i64 tk,.bool lst,.bool hr,av] 139)):=j00 (Below.refl _ _) _
 have bp:=Blk.new w #[addF km,j09 km ko,.int .i64 tk,.bool lst,.bool hr,av] 139
 have hsc:=j5c (.func 84) #[.pointer (some ⟨km,0,none⟩),.pointer (some ⟨ko,0,none⟩)] (j09 km ko) rfl (w.alloc (.cells #[addF km,j09 km ko,.int .i64 tk,.bool lst,.bool hr,av] 139))
 have hsz:Hid (((w.alloc (.cells #[addF km,j09 km ko,.int .i64 tk,.bool lst,.bool hr,av] 139))).heap.size=w.heap.size+1):=by show _=_;simp
 have BP:=Hid.mk' bp
 have H1:=Hid.mk' (h.later b1)
 have X1:=Hid.mk' (hp.later b1)
 have T1:Hid (Below w.heap.size w (w.alloc (.cells #[addF km,j09 km ko,.int .i64 tk,.bool lst,.bool hr,av] 139))):=b1
 have p0:_=some (addF km):=(bp.cell 0).trans rfl
 have p1:_=some (j09 km ko):=(bp.cell 1).trans rfl
 have p2:_=some (Value.int .i64 tk):=(bp.cell 2).trans rfl
 have p3:_=some (Value.bool lst):=(bp.cell 3).trans rfl
 have p4:_=some (Value.bool hr):=(bp.cell 4).trans rfl
 have p5:_=some (av):=(bp.cell 5).trans rfl
 have hwk:¬w.heap.size=G.kb:=by have:=h.kl;omega
 have hwc:¬w.heap.size=G.c:=by have:=h.bx.lt;omega
 have hwt:¬w.heap.size=G.bt:=by obtain⟨m,_,q⟩:=h.tp;have:=q.lt;omega
 have hw0:G.w0.heap.size<=w.heap.size:=h.bl.size
 have hbsl:Hid (∀b∈bs,b<w.heap.size):=hp.sc.lt
 have havl:Hid (∀ba,av=.map (some ba)->ba<w.heap.size):=by
  intro ba hba
  rcases hp.am with ⟨_,h2,_⟩|⟨_,ba',na,fa,h2,h3,_⟩
  ·
   rw[h2] at hba;cases hba
  rw[h2] at hba;cases hba;exact h3.lt
 have EK:=Hid.mk' ekids
 have HV:=Hid.mk' hv
 have HFIT:Hid (FitL (j0e G.T) (okN G.T) n.kids nx b):=hfit
 have HKR:=Hid.mk' hkr
 have H27:=Hid.mk' h27
 have HQ:Hid (G.w0.cell? ⟨nb,no+b*4+3,none⟩=some (.slice s9 n.kids.length c9)):=e3
 clear h hp b1 bp e0 e1 e2 e3 ekids hv hfit hkr h27 hcap;have hst:=j6k
 obtain⟨all,hall⟩:∃r,Hid (ckSs (ckS (Dp G) G.T ah G.T.nodes.length f md) own n.kids env K=r):=⟨_,rfl⟩
 rw[hall.out]
 go_enter Tryz.func68,Tryz.ntmps68
 go_wp2_with fail;refine hsc.mono ?_
 rintro e w2 ⟨km2,mb2,ko2,rfl,hN⟩
 clear hsc p0 p1 p2 p3 p4 p5;have hne:=nest (H1.out.later (Below.refl _ _)) X1.out.sc X1.out.ap X1.out.er X1.out.am hN
 have H2:=Hid.mk' (H1.out.later hN.bl)
 have BP2:=Hid.mk' (BP.out.later hN.bl)
 have hm2:w.heap.size<mb2:=by have:=hN.o2;have:=hsz.out;omega
 have hk2:w.heap.size<km2:=by have:=hN.o1;have:=hsz.out;omega
 have ho2:w.heap.size<ko2:=by have:=hN.o3;have:=hsz.out;omega
 have hbs2:Hid (∀b∈(km2 :: mb2 :: ko2 :: bs),¬b=w.heap.size):=by
  intro b hb
  simp only[List.mem_cons] at hb
  rcases hb with rfl|rfl|rfl|hb
  ·
   omega
  ·
   omega
  ·
   omega
  have:=hbsl.out b hb;omega
 have hav2:Hid (∀ba,av=.map (some ba)->¬ba=w.heap.size):=λba hba=>by have:=havl.out ba hba;omega
 have T2:Hid (Below w.heap.size w w2):=T1.out.trans (hN.bl.mono T1.out.size)
 have X2:=Hid.mk' hne.1
 have L2:=Hid.mk' hne.2
 have hmk2:¬w.heap.size=mb2:=by omega
 clear hne hN H1 X1 BP T1;have p0:_=some (addF km):=(BP2.out.cell 0).trans rfl
 have p1:_=some (j09 km ko):=(BP2.out.cell 1).trans rfl
 have p2:_=some (Value.int .i64 tk):=(BP2.out.cell 2).trans rfl
 have p3:_=some (Value.bool lst):=(BP2.out.cell 3).trans rfl
 have p4:_=some (Value.bool hr):=(BP2.out.cell 4).trans rfl
 have p5:_=some (av):=(BP2.out.cell 5).trans rfl
 have pf:=BP2.out.frozen
 have tw4:Tw w.heap.size w.heap.size w2 ((w2.setCell ⟨w.heap.size,0,none⟩ (addF km2)).setCell ⟨w.heap.size,1,none⟩ (j09 km2 ko2)):=(Tw.set _ _ _ _ _).trans (Tw.set _ _ _ _ _)
 have H4:=Hid.mk' (H2.out.off tw4 hw0 hwc hwk hwt)
 have X4:=Hid.mk' (X2.out.off tw4 hbs2.out hav2.out)
 have L4:=Hid.mk' (L2.out.off tw4 hbs2.out)
 have BP4:Hid (Blk ((w2.setCell ⟨w.heap.size,0,none⟩ (addF km2)).setCell ⟨w.heap.size,1,none⟩ (j09 km2 ko2)) w.heap.size #[addF km2,j09 km2 ko2,.int .i64 tk,.bool lst,.bool hr,av] 139):=(BP2.out.set 0 (addF km2)).set 1 (j09 km2 ko2)
 have T4:Hid (Tw G.kb mb2 w ((w2.setCell ⟨w.heap.size,0,none⟩ (addF km2)).setCell ⟨w.heap.size,1,none⟩ (j09 km2 ko2))):=((Tw.of T2.out).fresh (Nat.le_refl _) _ _).fresh (Nat.le_refl _) _ _
 have z0:=pf 0
 have z1:=pf 1
 have x1:((w2.setCell ⟨w.heap.size,0,none⟩ (addF km2)).setCell ⟨w.heap.size,1,none⟩ (j09 km2 ko2)).cell? ⟨G.c,1,none⟩=some (.slice (some ⟨nb,no,none⟩) G.T.nodes.length G.d1):=by rw[<-en1];exact(H4.out.bx.cell 1).trans rfl
 have q3:=(H4.out.bl.cell (p:=⟨nb,no+b*4+3,none⟩) hnb).trans HQ.out
 go_wp2_with fail;clear p0 p1 p2 p3 p4 p5 pf z0 z1 tw4 H2 X2 L2 BP2 T2 x1 q3 hst;generalize ((w2.setCell ⟨w.heap.size,0,none⟩ (addF km2)).setCell ⟨w.heap.size,1,none⟩ (j09 km2 ko2))=X at H4 X4 L4 BP4 T4 ⊢
 have LD0:Hid (LdS G w X ah km2 ko2 mb2 (km2 :: mb2 :: ko2 :: bs) md av nx b Kp (ckS (Dp G) G.T ah G.T.nodes.length f md) own all (n.kids.drop 0) env K Kp (orN (λ_=>none) gg) 0 nx):=⟨by rw[List.drop_zero];exact hall.out.symm,by rw[List.drop_zero];exact HFIT.out,Nat.zero_le _,Nat.le_refl _,H4.out,HKR.out,λ_ _=>rfl,X4.out,L4.out,T4.out⟩
 go_loopw [28] (λiv wr=>∃m:Nat,m<=n.kids.length/\iv=.int .i64 m/\Hid (∃env' K' Kp' gg' nn' a',LdS G w wr ah km2 ko2 mb2 (km2 :: mb2 :: ko2 :: bs) md av nx b Kp (ckS (Dp G) G.T ah G.T.nodes.length f md) own all (n.kids.drop m) env' K' Kp' gg' nn' a')/\Hid (∃l,Blk wr w.heap.size #[addF km2,j09 km2 ko2,.int .i64 tk,.bool l,.bool hr,av] 139)) (λiv _=>n.kids.length-(intOf iv).toNat)
 case atStart=>exact⟨0,Nat.zero_le _,rfl,⟨_,_,_,_,_,_,LD0.out⟩,⟨_,BP4.out⟩⟩
 clear LD0 H4 X4 L4 BP4 T4;obtain⟨m,hm,rfl,hLD,hBl⟩:=hrel
 obtain⟨env1,K1,Kp1,gg1,nn1,a1,hld⟩:=hLD.out
 obtain⟨l1,hbp⟩:=hBl.out
 have LD:=Hid.mk' hld
 have BPM:=Hid.mk' hbp
 clear hLD hBl hld hbp;by_cases hlt:m<n.kids.length
 rotate_left 1
 ·
  have hme:m=n.kids.length:=by omega
  subst hme
  have hR:Hid (all=.ok K1):=by show _=_;rw[LD.out.ck,List.drop_length];rfl
  go_wp2_with fail;go_ret;exact j13.good hR.out (LD.out.tw.less (by omega)) LD.out.p LD.out.kr LD.out.lo
 obtain⟨x,hx⟩:=j0q hlt
 have hdr:n.kids.drop m=x :: n.kids.drop (m+1):=by rw[List.drop_eq_getElem_cons hlt];congr 1;exact(List.getElem?_eq_some_iff.1 hx).2
 have hft:=LD.out.fit
 rw[hdr] at hft
 obtain⟨q,rfl,hqb,hokq,hfq,hfr,haq⟩:=j8r hft
 have hok2:=hokq
 obtain⟨mq,hmq,_⟩:=hok2
 rw[j0t hmq] at hfq
 have hvq:VN G.T q mq:=⟨hmq,hokq,a1,hfq⟩
 have hcq:=HV.out.cls hx (c:=2) (by rw[H27.out];simp[shp,hlt])
 rw[j0j hmq] at hcq
 obtain⟨fb,fo,rfl,_,hfb,pp⟩:=j05 EK.out hx
 have v1:=(LD.out.p.bl.cell (p:=⟨fb,fo+m,none⟩) hfb).trans pp
 have mI:(m:Int)<(n.kids.length:Int):=by omega
 have HDR:=Hid.mk' hdr
 have HVQ:=Hid.mk' hvq
 have HFQ:Hid (FitL (j0e G.T) (okN G.T) mq.kids a1 q):=hfq
 have HFR:Hid (FitL (j0e G.T) (okN G.T) (n.kids.drop (m+1)) (q+1) b):=hfr
 have HCQ:=Hid.mk' (jif hcq)
 clear hx hdr hft hokq hfq hfr hvq hmq hcq pp;have p0:_=some (addF km2):=(BPM.out.cell 0).trans rfl
 have p1:_=some (j09 km2 ko2):=(BPM.out.cell 1).trans rfl
 have p2:_=some (Value.int .i64 tk):=(BPM.out.cell 2).trans rfl
 have p3:_=some (Value.bool l1):=(BPM.out.cell 3).trans rfl
 have p4:_=some (Value.bool hr):=(BPM.out.cell 4).trans rfl
 have p5:_=some (av):=(BPM.out.cell 5).trans rfl
 have pf:=BPM.out.frozen
 have z2:=pf 2
 obtain⟨L,hL⟩:∃L,Hid (n.kids.length=L+1):=⟨n.kids.length-1,by show _=_;omega⟩
 have twr:IntKind.i64.wrap ((n.kids.length:Int)-1)=(L:Int):=by have:=hL.out;rw[IntKind.wrap_i64];omega
 obtain⟨fl,hfl⟩:∃t,Hid ((own&&(n.kids.drop (m+1)).isEmpty)=t):=⟨_,rfl⟩
 have hflag:(own=true/\((m:Int) ==(L:Int))=fl)\/(own=false/\fl=false):=by
  have h1:=hfl.out
  have h2:=hL.out
  cases own
  ·
   right;exact⟨rfl,by rw[<-h1];rfl⟩
  left
  refine⟨rfl,?_⟩
  rw[<-h1]
  simp only[Bool.true_and]
  by_cases e:m=L
  ·
   subst e
   have:n.kids.drop (m+1)=[]:=List.drop_eq_nil_of_le (by omega)
   simp[this]
  have h3:(n.kids.drop (m+1)).length ≠ 0:=by rw[List.length_drop];omega
  have h4:(n.kids.drop (m+1)).isEmpty=false:=by cases h5:n.kids.drop (m+1) with|nil=>simp[h5] at h3|cons _ _=>rfl
  rw[h4];simp;omega
 have tw6:Tw w.heap.size w.heap.size wr (wr.setCell ⟨w.heap.size,2+1,none⟩ (.bool fl)):=Tw.set _ _ _ _ _
 have H6:=Hid.mk' (LD.out.p.off tw6 hw0 hwc hwk hwt)
 have X6:=Hid.mk' (LD.out.x.off tw6 hbs2.out hav2.out)
 have L6:=Hid.mk' (LD.out.l.off tw6 hbs2.out)
 have BP6:Hid (Blk (wr.setCell ⟨w.heap.size,2+1,none⟩ (.bool fl)) w.heap.size #[addF km2,j09 km2 ko2,.int .i64 tk,.bool fl,.bool hr,av] 139):=BPM.out.set 3 (.bool fl)
 have T6:Hid (Tw G.kb mb2 w (wr.setCell ⟨w.heap.size,2+1,none⟩ (.bool fl))):=LD.out.tw.fresh (Nat.le_refl _) _ _
 have p0:_=some (addF km2):=(BP6.out.cell 0).trans rfl
 have p1:_=some (j09 km2 ko2):=(BP6.out.cell 1).trans rfl
 have p2:_=some (Value.int .i64 tk):=(BP6.out.cell 2).trans rfl
 have p3:_=some (Value.bool fl):=(BP6.out.cell 3).trans rfl
 have p4:_=some (Value.bool hr):=(BP6.out.cell 4).trans rfl
 have p5:_=some (av):=(BP6.out.cell 5).trans rfl
 have hcall:=Hid.mk' (hS md env1 km2 ko2 mb2 nn1 gg1 (km2 :: mb2 :: ko2 :: bs) av fl hr tk q a1 mq Kp1 K1 _ (by omega) HVQ.out HFQ.out HCQ.out LD.out.na htk H6.out X6.out L6.out LD.out.kr)
 rcases hflag with ⟨rfl,tfl⟩|⟨rfl,rfl⟩
 ·
  skip
  go_wp2_with fail;refine hcall.out.mono ?_
  intro e w7 hST
  have T7:=Hid.mk' (T6.out.trans hST.tw)
  have BP7:=Hid.mk' (BP6.out.tw hST.tw hwk hmk2)
  clear hcall;cases hr0:ckS (Dp G) G.T ah G.T.nodes.length f md env1 K1 (q:Int) fl with
  | error q9 =>
   obtain⟨c,nq⟩:=q9
   rw[hr0] at hST
   obtain⟨rfl,_⟩:=hST
   have hR:Hid (all=.error (c,nq)):=by show _=_;rw[LD.out.ck,HDR.out];simp only[ckSs];rw[hfl.out,hr0]
   clear hr0;go_wp2_with fail;go_ret;exact j13.bad hR.out (T7.out.less (by omega))
  | ok q9 =>
   obtain⟨env2,K2⟩:=q9
   rw[hr0] at hST
   obtain⟨rfl,_,Kp2,gg2,nn2,hp2,hk2,hl2,hx2,hlx2,hn2⟩:=hST
   have HN:Hid (LdS G w w7 ah km2 ko2 mb2 (km2 :: mb2 :: ko2 :: bs) md av nx b Kp (ckS (Dp G) G.T ah G.T.nodes.length f md) true all (n.kids.drop (m+1)) env2 K2 Kp2 gg2 nn2 (q+1)):=⟨by rw[LD.out.ck,HDR.out];simp only[ckSs];rw[hfl.out,hr0],HFR.out,hn2,by have:=LD.out.xa;omega,hp2,hk2,λj hj=>(hl2 j (by have:=LD.out.xa;omega)).trans (LD.out.lo j hj),hx2,hlx2,T7.out⟩
   clear hr0 hp2 hk2 hl2 hx2 hlx2 hn2;go_wp2_with fail;go_roundw
   case rel=>exact⟨m+1,by omega,by go_num,⟨_,_,_,_,_,_,HN.out⟩,⟨_,BP7.out⟩⟩
   case measure=>simp[intOf];omega
 skip
 go_wp2_with fail;refine hcall.out.mono ?_
 intro e w7 hST
 have T7:=Hid.mk' (T6.out.trans hST.tw)
 have BP7:=Hid.mk' (BP6.out.tw hST.tw hwk hmk2)
 clear hcall;cases hr0:ckS (Dp G) G.T ah G.T.nodes.length f md env1 K1 (q:Int) false with
 | error q9 =>
  obtain⟨c,nq⟩:=q9
  rw[hr0] at hST
  obtain⟨rfl,_⟩:=hST
  have hR:Hid (all=.error (c,nq)):=by show _=_;rw[LD.out.ck,HDR.out];simp only[ckSs];rw[hfl.out,hr0]
  clear hr0;go_wp2_with fail;go_ret;exact j13.bad hR.out (T7.out.less (by omega))
 | ok q9 =>
  obtain⟨env2,K2⟩:=q9
  rw[hr0] at hST
  obtain⟨rfl,_,Kp2,gg2,nn2,hp2,hk2,hl2,hx2,hlx2,hn2⟩:=hST
  have HN:Hid (LdS G w w7 ah km2 ko2 mb2 (km2 :: mb2 :: ko2 :: bs) md av nx b Kp (ckS (Dp G) G.T ah G.T.nodes.length f md) false all (n.kids.drop (m+1)) env2 K2 Kp2 gg2 nn2 (q+1)):=⟨by rw[LD.out.ck,HDR.out];simp only[ckSs];rw[hfl.out,hr0],HFR.out,hn2,by have:=LD.out.xa;omega,hp2,hk2,λj hj=>(hl2 j (by have:=LD.out.xa;omega)).trans (LD.out.lo j hj),hx2,hlx2,T7.out⟩
  clear hr0 hp2 hk2 hl2 hx2 hlx2 hn2;go_wp2_with fail;go_roundw
  case rel=>exact⟨m+1,by omega,by go_num,⟨_,_,_,_,_,_,HN.out⟩,⟨_,BP7.out⟩⟩
  case measure=>simp[intOf];omega
end
end
section
open Go.RowKit Go.Maps Go.WideMaps
theorem jhk {k m len:Nat} {kind:Int} (hk:kind=16\/kind=17) (hl:(shp kind len).length=len) (hm:m+1<len):(shp kind len)[m+1]?=some 3:=by
 rcases hk with rfl|rfl
 ·
  simp only[shp,Int.reduceEq,if_false,if_true,or_self] at hl ⊢
  by_cases h3:len=3
  ·
   subst h3
   simp only[if_true]
   rcases m with _|_|m
   ·
    rfl
   ·
    rfl
   omega
  rw[if_neg h3] at hl ⊢
  simp at hl
  have:m=0:=by omega
  subst this;rfl
 simp only[shp,Int.reduceEq,if_false,if_true,or_self] at hl ⊢
 simp at hl
 have:m=0:=by omega
 subst this;rfl
theorem jkj {len:Nat} {kind:Int} (hk:kind=16\/kind=17) (hl:(shp kind len).length=len):2<=len:=by
 rcases hk with rfl|rfl
 ·
  simp only[shp,Int.reduceEq,if_false,if_true,or_self] at hl
  split at hl<;>simp at hl<;>omega
 simp only[shp,Int.reduceEq,if_false,if_true,or_self] at hl
 simp at hl;omega
theorem jgq {len:Nat} {kind:Int} (hk:kind=16\/kind=17):(shp kind len)[0]?=some 1:=by
 rcases hk with rfl|rfl
 ·
  simp only[shp,Int.reduceEq,if_false,if_true,or_self]
  split<;>rfl
 simp[shp]
section
variable {G:Pd} {w w':World} {ah:List Int} {Kp Kp' K:KM} {km ko mb nn:Nat} {gg:Nm} {bs:List Nat} {md:Md} {av:Value} {env:Env} {nx:Nat} {lst hr:Bool} {tk:Int}
theorem j75 (hG:G.Ok) {N f:Nat} (hE:ExpP G ah N) (hS:StP G ah f) {i:Nat} {n:Nd} (hv:VN G.T i n) (hfit:FitL (j0e G.T) (okN G.T) n.kids nx i) (hif:i<=f) (hiN0:i<=N) (hkd:n.kind=16\/n.kind=17) (htk:Hid (tk=(if md.fn=true then 33 else 34)/\hr=md.hears)) (h:Pv G w ah Kp) (hp:Px G w km ko gg bs md av env Kp nx) (hkr:KR G.T Kp K) :
  Calls Tryz.prog 112 #[.pointer (some ⟨G.c,0,none⟩),.int .i64 (i:Int),.agg #[addF km,j09 km ko,.int .i64 tk,.bool lst,.bool hr,av]] w λe w'=>j13 G w ah nx Kp (ckBr (Dp G) G.T ah md env N K (i:Int) (if n.kind=16 then 4 else 1) λb K=>ckSs (ckS (Dp G) G.T ah G.T.nodes.length f md) false (nd G.T b).kids env K) e w':=by
 obtain⟨nb,no,s9,c9,en1,hnb,e0,e1,e2,e3,ekids,hcap⟩:=Pd.node hG hv.at_
 have hiN:i<G.T.nodes.length:=(List.getElem?_eq_some_iff.1 hv.at_).1
 have iI:(i:Int)<(G.T.nodes.length:Int):=by omega
 have hn4:G.T.nodes.length<=4000:=hG.tr.1
 have hkl:n.kids.length<=1048576:=(hG.k.1.2 n (List.mem_of_getElem? hv.at_)).2
 have hle:=hfit.le
 have h2:2<=n.kids.length:=jkj hkd hv.len
 obtain⟨L,hL⟩:∃L,Hid (n.kids.length=L+1):=⟨n.kids.length-1,by show _=_;omega⟩
 obtain⟨a,an,ba,hx0,hai,hva,hca,hfa,hnba⟩:=hv.kidAt hfit (j:=0) (c:=1) (jgq hkd)
 have hae:=j1q hca
 have haN:a<G.T.nodes.length:=by omega
 have aI:(a:Int)<(G.T.nodes.length:Int):=by omega
 obtain⟨fb,fo,rfl,_,hfb,pp⟩:=j05 ekids hx0
 have pp:G.w0.cell? ⟨fb,fo,none⟩=some (.int .i64 (a:Int)):=by simpa using pp
 have hsl:=j9p 26 Tryz.htI2 j6w fb fo n.kids.length c9 L hL.out h2 hcap
 obtain⟨g,hg⟩:∃g,Hid ((λb K=>ckSs (ckS (Dp G) G.T ah G.T.nodes.length f md) false (nd G.T b).kids env K)=g):=⟨_,rfl⟩
 obtain⟨want,hwant⟩:∃k:Int,Hid ((if n.kind=16 then 4 else 1)=k):=⟨_,rfl⟩
 rw[hg.out,hwant.out]
 have HB0:Hid (ckBr (Dp G) G.T ah md env N K (i:Int) want g=match ckE (Dp G) G.T ah md env N K (a:Int) with | .error e=> .error e | .ok (k,K1)=>if k=want then ckBs g n.kids.tail K1 else .error (4,(i:Int))):=by show _=_;unfold ckBr;rw[j0j hv.at_,show kid n 0=(a:Int) by simp[kid,hx0]];rfl
 have b1:Below w.heap.size w (w.alloc (.cells #[addF km,j09 km ko,.int .i64 tk,.bool lst,.bool hr,av] 139)):=j00 (Below.refl _ _) _
 have b2:Below w.heap.size w ((w.alloc (.cells #[addF km,j09 km ko,.int .i64 tk,.bool lst,.bool hr,av] 139)).alloc (.cells #[.int .i64 n.kind,.string n.text,.int .i64 n.num,.slice (some ⟨fb,fo,none⟩) n.kids.length c9] 73)):=j00 b1 _
 have x1:(w.alloc (.cells #[addF km,j09 km ko,.int .i64 tk,.bool lst,.bool hr,av] 139)).cell? ⟨G.c,1,none⟩=some (.slice (some ⟨nb,no,none⟩) G.T.nodes.length G.d1):=by rw[<-en1];exact((h.later b1).bx.cell 1).trans rfl
 have q0:=((h.later b1).bl.cell (p:=⟨nb,no+i*4,none⟩) hnb).trans e0
 have q1:=((h.later b1).bl.cell (p:=⟨nb,no+i*4+1,none⟩) hnb).trans e1
 have q2:=((h.later b1).bl.cell (p:=⟨nb,no+i*4+2,none⟩) hnb).trans e2
 have q3:=((h.later b1).bl.cell (p:=⟨nb,no+i*4+3,none⟩) hnb).trans e3
 have BP:Hid (Blk ((w.alloc (.cells #[addF km,j09 km ko,.int .i64 tk,.bool lst,.bool hr,av] 139)).alloc (.cells #[.int .i64 n.kind,.string n.text,.int .i64 n.num,.slice (some ⟨fb,fo,none⟩) n.kids.length c9] 73)) w.heap.size #[addF km,j09 km ko,.int .i64 tk,.bool lst,.bool hr,av] 139):=Blk.alloc (Blk.new w #[addF km,j09 km ko,.int .i64 tk,.bool lst,.bool hr,av] 139) _
 have BN:Hid (Blk ((w.alloc (.cells #[addF km,j09 km ko,.int .i64 tk,.bool lst,.bool hr,av] 139)).alloc (.cells #[.int .i64 n.kind,.string n.text,.int .i64 n.num,.slice (some ⟨fb,fo,none⟩) n.kids.length c9] 73)) (w.heap.size+1) #[.int .i64 n.kind,.string n.text,.int .i64 n.num,.slice (some ⟨fb,fo,none⟩) n.kids.length c9] 73):=Blk.new' (w.alloc (.cells #[addF km,j09 km ko,.int .i64 tk,.bool lst,.bool hr,av] 139)) #[.int .i64 n.kind,.string n.text,.int .i64 n.num,.slice (some ⟨fb,fo,none⟩) n.kids.length c9] 73 (by simp)
 have H1:=Hid.mk' (h.later b2)
 have X1:=Hid.mk' (hp.later b2)
 have T1:Hid (Tw G.kb G.kb w ((w.alloc (.cells #[addF km,j09 km ko,.int .i64 tk,.bool lst,.bool hr,av] 139)).alloc (.cells #[.int .i64 n.kind,.string n.text,.int .i64 n.num,.slice (some ⟨fb,fo,none⟩) n.kids.length c9] 73))):=Tw.of b2
 have l0I:(0:Int)<(n.kids.length:Int):=by omega
 have l0N:0<n.kids.length:=by omega
 have hwk:¬w.heap.size=G.kb:=by have:=h.kl;omega
 have hwn:¬w.heap.size+1=G.kb:=by have:=h.kl;omega
 have hfk:¬fb=G.kb:=by have:=hG.kb;omega
 have EK:=Hid.mk' ekids
 have HV:=Hid.mk' hv
 have HKD:=Hid.mk' hkd
 have HKR:=Hid.mk' hkr
 have HVA:=Hid.mk' hva
 have HFA:Hid (FitL (j0e G.T) (okN G.T) an.kids ba a):=hfa
 have HFIT:Hid (FitL (j0e G.T) (okN G.T) n.kids nx i):=hfit
 have PP:=Hid.mk' pp
 clear h hp b1 b2 e0 e1 e2 e3 ekids hfit hv hkr hx0 hva hfa hkd hca hcap pp;go_enter Tryz.func112,Tryz.ntmps112
 go_wp2_with fail;clear x1 q0 q1 q2 q3;generalize ((w.alloc (.cells #[addF km,j09 km ko,.int .i64 tk,.bool lst,.bool hr,av] 139)).alloc (.cells #[.int .i64 n.kind,.string n.text,.int .i64 n.num,.slice (some ⟨fb,fo,none⟩) n.kids.length c9] 73))=wr at BP BN H1 X1 T1 ⊢
 have hwr:w.heap.size<wr.heap.size:=BP.out.lt
 have hwr1:w.heap.size+1<wr.heap.size:=BN.out.lt
 have hcall:=Hid.mk' (hE md env km ko gg bs av lst hr tk a ba an Kp K wr.drew (by omega) HVA.out HFA.out hae (H1.out.later (j02 (Below.refl _ _))) ((X1.out.later (j02 (Below.refl _ _))).mono hnba) HKR.out)
 have hS:Hid (∀X,Tw G.kb G.kb (wr) X->X.cell? ⟨w.heap.size+1,3,none⟩=some (.slice (some ⟨fb,fo,none⟩) n.kids.length c9)/\X.cell? ⟨fb,fo,none⟩=some (.int .i64 (a:Int))/\X.cell? ⟨w.heap.size,0,none⟩=some (addF km)/\X.cell? ⟨w.heap.size,1,none⟩=some (j09 km ko)/\X.cell? ⟨w.heap.size,2,none⟩=some (.int .i64 tk)/\X.cell? ⟨w.heap.size,3,none⟩=some (.bool lst)/\X.cell? ⟨w.heap.size,4,none⟩=some (.bool hr)/\X.cell? ⟨w.heap.size,5,none⟩=some (av)):=λX hX=>⟨(hX.cell hwr1 hwn hwn).trans ((BN.out.cell 3).trans rfl),(hX.cell (Nat.lt_of_lt_of_le hfb H1.out.bl.size) hfk hfk).trans ((H1.out.bl.cell (p:=⟨fb,fo,none⟩) hfb).trans PP.out),(hX.cell hwr hwk hwk).trans ((BP.out.cell 0).trans rfl),(hX.cell hwr hwk hwk).trans ((BP.out.cell 1).trans rfl),(hX.cell hwr hwk hwk).trans ((BP.out.cell 2).trans rfl),(hX.cell hwr hwk hwk).trans ((BP.out.cell 3).trans rfl),(hX.cell hwr hwk hwk).trans ((BP.out.cell 4).trans rfl),(hX.cell hwr hwk hwk).trans ((BP.out.cell 5).trans rfl)⟩
 refine wp_region_held_drew (S:=λX=>X.cell? ⟨w.heap.size+1,3,none⟩=some (.slice (some ⟨fb,fo,none⟩) n.kids.length c9)/\X.cell? ⟨fb,fo,none⟩=some (.int .i64 (a:Int))/\X.cell? ⟨w.heap.size,0,none⟩=some (addF km)/\X.cell? ⟨w.heap.size,1,none⟩=some (j09 km ko)/\X.cell? ⟨w.heap.size,2,none⟩=some (.int .i64 tk)/\X.cell? ⟨w.heap.size,3,none⟩=some (.bool lst)/\X.cell? ⟨w.heap.size,4,none⟩=some (.bool hr)/\X.cell? ⟨w.heap.size,5,none⟩=some (av)) (by kernel_rfl) ?_ (λhHeld=>?_)
 ·
  exact hS.out _ (Tw.of (j02 (Below.refl _ _)))
 refine wpr 0 20 ?_;simp only[zs];refine wpr 1 21 ?_;simp only[zs];refine wpr 2 22 ?_;simp only[zs];refine wpr 3 23 ?_;simp only[zs];refine wpr 4 24 ?_;simp only[zs];refine wpr 5 25 ?_;simp only[zs];refine wpAnyH_ready (rs:=[6]) (by kernel_rfl) (by simp) ?_
 refine AllReadyH.cons rfl (λKQ hK=>?_) AllReadyH.nil
 go_simp;refine hcall.out.mono ?_
 rintro e w2 hSy
 clear hcall;cases hr0:ckE (Dp G) G.T ah md env N K (a:Int) with
 | error q =>
  obtain⟨c,nq⟩:=q
  rw[hr0] at hSy
  obtain⟨rfl,ht⟩:=hSy
  have hR:Hid (ckBr (Dp G) G.T ah md env N K (i:Int) want g=.error (c,nq)):=by show _=_;rw[HB0.out,hr0]
  have T2:Hid (Tw G.kb G.kb wr w2):=Tw.trans (Tw.of (j02 (Below.refl _ _))) ht
  clear ht hr0;refine hK.out _ _ (hS.out _ T2.out) (λhHeld=>?_)
  clear hK KQ;try simp only[zs]
  refine wpr 7 8 ?_;simp only[zs];refine wpAnyH_done (by kernel_rfl) ?_ _
  clear hHeld hS;go_wp2_with fail;go_ret;exact j13.bad hR.out (T1.out.trans T2.out)
 | ok q =>
  obtain⟨v,K1⟩:=q
  rw[hr0] at hSy
  obtain⟨rfl,ht,Kp1,hp1,hk1,hlo⟩:=hSy
  have T2:Hid (Tw G.kb G.kb wr w2):=Tw.trans (Tw.of (j02 (Below.refl _ _))) ht
  have hva1:Kp1 a=v:=(hk1 a haN (by rw[j0j HVA.out.at_];exact hae)).trans (j4i (Dp G) G.T ah md env N ba a K v K1 HVA.out.ok (by rw[j0t HVA.out.at_];exact HFA.out) hr0).1
  have HP0:Hid (ckBr (Dp G) G.T ah md env N K (i:Int) want g=if v=want then ckBs g n.kids.tail K1 else .error (4,(i:Int))):=by show _=_;rw[HB0.out,hr0]
  have P2:=Hid.mk' hp1
  have K2:=Hid.mk' hk1
  have LO2:Hid (∀j,j<nx->Kp1 j=Kp j):=λj hj=>hlo j (by omega)
  have BP2:=Hid.mk' (BP.out.tw T2.out hwk hwk)
  have BN2:=Hid.mk' (BN.out.tw T2.out hwn hwn)
  have X2:=Hid.mk' (X1.out.tw T2.out λj hj=>hlo j (by omega))
  have T3:=Hid.mk' (T1.out.trans T2.out)
  clear ht hr0 hp1 hk1 hlo;refine hK.out _ _ (hS.out _ T2.out) (λhHeld=>?_)
  clear hK KQ;try simp only[zs]
  refine wpr 7 8 ?_;simp only[zs];refine wpAnyH_done (by kernel_rfl) ?_ _
  clear hHeld hS;have y2:w2.cell? ⟨G.c,2,none⟩=some (.slice (some ⟨G.kb,0,none⟩) G.T.nodes.length G.T.nodes.length):=(P2.out.bx.cell 2).trans rfl
  have ya:w2.cell? ⟨fb,fo,none⟩=some (.int .i64 (a:Int)):=(P2.out.bl.cell (p:=⟨fb,fo,none⟩) hfb).trans PP.out
  have yk:w2.cell? ⟨G.kb,a,none⟩=some (.int .i64 v):=by rw[<-hva1];exact P2.out.kc a haN
  have n0:w2.cell? ⟨w.heap.size+1,0,none⟩=some (.int .i64 n.kind):=(BN2.out.cell 0).trans rfl
  have n3:w2.cell? ⟨w.heap.size+1,3,none⟩=some (.slice (some ⟨fb,fo,none⟩) n.kids.length c9):=(BN2.out.cell 3).trans rfl
  clear T2 X1 H1 BP BN T1 hva1;have h17:((n.kind ==17)=true/\want=1)\/((n.kind ==17)=false/\want=4):=by
   have h1:=HKD.out
   have h2:=hwant.out
   rcases h1 with e|e
   ·
    right;rw[e] at h2 ⊢;exact⟨rfl,h2.symm⟩
   left;rw[e] at h2 ⊢;exact⟨rfl,h2.symm⟩
  rcases h17 with ⟨t17,hw1⟩|⟨t17,hw1⟩
  ·
   subst hw1
   by_cases hv1:v=1
   rotate_left 1
   ·
    have tv:(v != 1)=true:=by simp[hv1]
    have hR:Hid (ckBr (Dp G) G.T ah md env N K (i:Int) 1 g=.error (4,(i:Int))):=by show _=_;rw[HP0.out,if_neg hv1]
    clear hv1;go_wp2_with fail;go_quiet (fail)
    go_wp2_with fail;go_ret;exact j13.bad hR.out (T3.out.trans (Tw.of (j06 (Below.refl _ _) _)))
   have tv:(v != 1)=false:=by simp[hv1]
   have HP1:Hid (ckBr (Dp G) G.T ah md env N K (i:Int) 1 g=ckBs g n.kids.tail K1):=by show _=_;rw[HP0.out,if_pos hv1]
   clear hv1 HP0;go_wp2_with fail;go_quiet (fail)
   have T4:=Hid.mk' (T3.out.trans (Tw.of (j06 (Below.refl _ _) nq):Tw G.kb G.kb w2 (w2.drewN nq)))
   have P4:=Hid.mk' (P2.out.later (j06 (Below.refl _ _) nq))
   have X4:=Hid.mk' (X2.out.later (j06 (Below.refl _ _) nq))
   have BP4:=Hid.mk' (BP2.out.later (j06 (Below.refl _ _) nq))
   have BN4:=Hid.mk' (BN2.out.later (j06 (Below.refl _ _) nq))
   generalize w2.drewN nq=X at T4 P4 X4 BP4 BN4 ⊢
   clear T3 P2 X2 BP2 BN2 y2 ya yk n0 n3 tv t17;have n3:X.cell? ⟨w.heap.size+1,3,none⟩=some (.slice (some ⟨fb,fo,none⟩) n.kids.length c9):=(BN4.out.cell 3).trans rfl
   go_wp2_with fail;clear n3;go_loopw [52] (λiv wr=>∃m:Nat,m<=L/\iv=.int .i64 m/\Hid (∃Kpm Km,ckBs g n.kids.tail K1=ckBs g (n.kids.drop (m+1)) Km/\Pv G wr ah Kpm/\KR G.T Kpm Km/\(∀j,j<nx->Kpm j=Kp j)/\Px G wr km ko gg bs md av env Kpm nx/\Tw G.kb G.kb w wr)/\Hid (Blk wr w.heap.size #[addF km,j09 km ko,.int .i64 tk,.bool lst,.bool hr,av] 139)) (λiv _=>L-(intOf iv).toNat)
   case atStart=>exact⟨0,Nat.zero_le _,rfl,⟨Kp1,K1,by rw[List.drop_one],P4.out,K2.out,LO2.out,X4.out,T4.out⟩,BP4.out⟩
   obtain⟨m,hm,rfl,hLD,BPM⟩:=hrel
   clear T4 P4 X4 BP4 BN4;obtain⟨Kpm,Km,hck,hpm,hkm,hlm,hxm,htm⟩:=hLD.out
   have CK:=Hid.mk' hck
   have PM:=Hid.mk' hpm
   have KM_:=Hid.mk' hkm
   have LM:=Hid.mk' hlm
   have XM:=Hid.mk' hxm
   have TM:=Hid.mk' htm
   clear hLD hck hpm hkm hlm hxm htm;by_cases hlt:m<L
   rotate_left 1
   ·
    have hme:m=L:=by omega
    subst hme
    have hR:Hid (ckBr (Dp G) G.T ah md env N K (i:Int) 1 g=.ok Km):=by
     show _=_
     rw[HP1.out,CK.out,<-hL.out,List.drop_length];rfl
    go_wp2_with fail;go_ret;exact j13.good hR.out TM.out PM.out KM_.out LM.out
   have hmk:m+1<n.kids.length:=by have:=hL.out;omega
   obtain⟨qn,mq,bq,hxq,hqi,hvq,hcq,hfq,hnq⟩:=HV.out.kidAt HFIT.out (j:=m+1) (c:=3) (jhk (k:=0) HKD.out HV.out.len hmk)
   obtain⟨fb2,fo2,ef,_,_,p00⟩:=j05 EK.out hxq
   obtain⟨rfl,rfl⟩:fb2=fb/\fo2=fo:=by cases ef;exact⟨rfl,rfl⟩
   have v1:wr.cell? ⟨fb2,fo2+1+m,none⟩=some (.int .i64 (qn:Int)):=by rw[show fo2+1+m=fo2+(m+1) by omega];exact(PM.out.bl.cell (p:=⟨fb2,fo2+(m+1),none⟩) hfb).trans p00
   have mI:(m:Int)<(L:Int):=by omega
   have HD:Hid (n.kids.drop (m+1)=(qn:Int) :: n.kids.drop (m+1+1)):=by
    show _=_
    rw[List.drop_eq_getElem_cons hmk];congr 1;exact(List.getElem?_eq_some_iff.1 hxq).2
   have HG:Hid (∀K,g (qn:Int) K=ckSs (ckS (Dp G) G.T ah G.T.nodes.length f md) false mq.kids env K):=by intro K;rw[<-hg.out];simp only;rw[j0j hvq.at_]
   have hblk:=Hid.mk' (j3o (lst:=lst) (hr:=hr) (tk:=tk) hG hS hvq (j34 hcq) hfq (by omega) false htk PM.out (XM.out.mono hnq) KM_.out)
   clear hxq p00 ef hvq hcq hfq;have p0:_=some (addF km):=(BPM.out.cell 0).trans rfl
   have p1:_=some (j09 km ko):=(BPM.out.cell 1).trans rfl
   have p2:_=some (Value.int .i64 tk):=(BPM.out.cell 2).trans rfl
   have p3:_=some (Value.bool lst):=(BPM.out.cell 3).trans rfl
   have p4:_=some (Value.bool hr):=(BPM.out.cell 4).trans rfl
   have p5:_=some (av):=(BPM.out.cell 5).trans rfl
   go_wp2_with fail;refine hblk.out.mono ?_
   rintro e w5 hSB
   clear hblk p0 p1 p2 p3 p4 p5 v1;cases hr1:ckSs (ckS (Dp G) G.T ah G.T.nodes.length f md) false mq.kids env Km with
   | error q =>
    obtain⟨c,nq⟩:=q
    rw[hr1] at hSB
    obtain⟨rfl,ht⟩:=hSB
    have hR:Hid (ckBr (Dp G) G.T ah md env N K (i:Int) 1 g=.error (c,nq)):=by show _=_;rw[HP1.out,CK.out,HD.out];simp only[ckBs];rw[HG.out,hr1]
    have T5:=Hid.mk' (TM.out.trans ht)
    clear ht hr1;go_wp2_with fail;go_ret;exact j13.bad hR.out T5.out
   | ok K5 =>
    rw[hr1] at hSB
    obtain⟨rfl,ht,Kp5,hp5,hk5,hl5⟩:=hSB
    have HN:Hid (∃Kpm Km,ckBs g n.kids.tail K1=ckBs g (n.kids.drop (m+1+1)) Km/\Pv G w5 ah Kpm/\KR G.T Kpm Km/\(∀j,j<nx->Kpm j=Kp j)/\Px G w5 km ko gg bs md av env Kpm nx/\Tw G.kb G.kb w w5):=⟨Kp5,K5,by rw[CK.out,HD.out];simp only[ckBs];rw[HG.out,hr1],hp5,hk5,λj hj=>(hl5 j (by omega)).trans (LM.out j hj),XM.out.tw ht λj hj=>hl5 j (by omega),TM.out.trans ht⟩
    have BP5:=Hid.mk' (BPM.out.tw ht hwk hwk)
    clear ht hr1 hp5 hk5 hl5;go_wp2_with fail;go_roundw
    case rel=>exact⟨m+1,by omega,by go_num,HN.out,BP5.out⟩
    case measure=>simp[intOf];omega
  subst hw1
  by_cases hv1:v=4
  rotate_left 1
  ·
   have tv:(v != 4)=true:=by simp[hv1]
   have hR:Hid (ckBr (Dp G) G.T ah md env N K (i:Int) 4 g=.error (4,(i:Int))):=by show _=_;rw[HP0.out,if_neg hv1]
   clear hv1;go_wp2_with fail;go_quiet (fail)
   go_wp2_with fail;go_ret;exact j13.bad hR.out (T3.out.trans (Tw.of (j06 (Below.refl _ _) _)))
  have tv:(v != 4)=false:=by simp[hv1]
  have HP1:Hid (ckBr (Dp G) G.T ah md env N K (i:Int) 4 g=ckBs g n.kids.tail K1):=by show _=_;rw[HP0.out,if_pos hv1]
  clear hv1 HP0;go_wp2_with fail;go_quiet (fail)
  have T4:=Hid.mk' (T3.out.trans (Tw.of (j06 (Below.refl _ _) nq):Tw G.kb G.kb w2 (w2.drewN nq)))
  have P4:=Hid.mk' (P2.out.later (j06 (Below.refl _ _) nq))
  have X4:=Hid.mk' (X2.out.later (j06 (Below.refl _ _) nq))
  have BP4:=Hid.mk' (BP2.out.later (j06 (Below.refl _ _) nq))
  have BN4:=Hid.mk' (BN2.out.later (j06 (Below.refl _ _) nq))
  generalize w2.drewN nq=X at T4 P4 X4 BP4 BN4 ⊢
  clear T3 P2 X2 BP2 BN2 y2 ya yk n0 n3 tv t17;have n3:X.cell? ⟨w.heap.size+1,3,none⟩=some (.slice (some ⟨fb,fo,none⟩) n.kids.length c9):=(BN4.out.cell 3).trans rfl
  go_wp2_with fail;clear n3;go_loopw [52] (λiv wr=>∃m:Nat,m<=L/\iv=.int .i64 m/\Hid (∃Kpm Km,ckBs g n.kids.tail K1=ckBs g (n.kids.drop (m+1)) Km/\Pv G wr ah Kpm/\KR G.T Kpm Km/\(∀j,j<nx->Kpm j=Kp j)/\Px G wr km ko gg bs md av env Kpm nx/\Tw G.kb G.kb w wr)/\Hid (Blk wr w.heap.size #[addF km,j09 km ko,.int .i64 tk,.bool lst,.bool hr,av] 139)) (λiv _=>L-(intOf iv).toNat)
  case atStart=>exact⟨0,Nat.zero_le _,rfl,⟨Kp1,K1,by rw[List.drop_one],P4.out,K2.out,LO2.out,X4.out,T4.out⟩,BP4.out⟩
  obtain⟨m,hm,rfl,hLD,BPM⟩:=hrel
  clear T4 P4 X4 BP4 BN4;obtain⟨Kpm,Km,hck,hpm,hkm,hlm,hxm,htm⟩:=hLD.out
  have CK:=Hid.mk' hck
  have PM:=Hid.mk' hpm
  have KM_:=Hid.mk' hkm
  have LM:=Hid.mk' hlm
  have XM:=Hid.mk' hxm
  have TM:=Hid.mk' htm
  clear hLD hck hpm hkm hlm hxm htm;by_cases hlt:m<L
  rotate_left 1
  ·
   have hme:m=L:=by omega
   subst hme
   have hR:Hid (ckBr (Dp G) G.T ah md env N K (i:Int) 4 g=.ok Km):=by
    show _=_
    rw[HP1.out,CK.out,<-hL.out,List.drop_length];rfl
   go_wp2_with fail;go_ret;exact j13.good hR.out TM.out PM.out KM_.out LM.out
  have hmk:m+1<n.kids.length:=by have:=hL.out;omega
  obtain⟨qn,mq,bq,hxq,hqi,hvq,hcq,hfq,hnq⟩:=HV.out.kidAt HFIT.out (j:=m+1) (c:=3) (jhk (k:=0) HKD.out HV.out.len hmk)
  obtain⟨fb2,fo2,ef,_,_,p00⟩:=j05 EK.out hxq
  obtain⟨rfl,rfl⟩:fb2=fb/\fo2=fo:=by cases ef;exact⟨rfl,rfl⟩
  have v1:wr.cell? ⟨fb2,fo2+1+m,none⟩=some (.int .i64 (qn:Int)):=by rw[show fo2+1+m=fo2+(m+1) by omega];exact(PM.out.bl.cell (p:=⟨fb2,fo2+(m+1),none⟩) hfb).trans p00
  have mI:(m:Int)<(L:Int):=by omega
  have HD:Hid (n.kids.drop (m+1)=(qn:Int) :: n.kids.drop (m+1+1)):=by
   show _=_
   rw[List.drop_eq_getElem_cons hmk];congr 1;exact(List.getElem?_eq_some_iff.1 hxq).2
  have HG:Hid (∀K,g (qn:Int) K=ckSs (ckS (Dp G) G.T ah G.T.nodes.length f md) false mq.kids env K):=by intro K;rw[<-hg.out];simp only;rw[j0j hvq.at_]
  have hblk:=Hid.mk' (j3o (lst:=lst) (hr:=hr) (tk:=tk) hG hS hvq (j34 hcq) hfq (by omega) false htk PM.out (XM.out.mono hnq) KM_.out)
  clear hxq p00 ef hvq hcq hfq;have p0:_=some (addF km):=(BPM.out.cell 0).trans rfl
  have p1:_=some (j09 km ko):=(BPM.out.cell 1).trans rfl
  have p2:_=some (Value.int .i64 tk):=(BPM.out.cell 2).trans rfl
  have p3:_=some (Value.bool lst):=(BPM.out.cell 3).trans rfl
  have p4:_=some (Value.bool hr):=(BPM.out.cell 4).trans rfl
  have p5:_=some (av):=(BPM.out.cell 5).trans rfl
  go_wp2_with fail;refine hblk.out.mono ?_
  rintro e w5 hSB
  clear hblk p0 p1 p2 p3 p4 p5 v1;cases hr1:ckSs (ckS (Dp G) G.T ah G.T.nodes.length f md) false mq.kids env Km with
  | error q =>
   obtain⟨c,nq⟩:=q
   rw[hr1] at hSB
   obtain⟨rfl,ht⟩:=hSB
   have hR:Hid (ckBr (Dp G) G.T ah md env N K (i:Int) 4 g=.error (c,nq)):=by show _=_;rw[HP1.out,CK.out,HD.out];simp only[ckBs];rw[HG.out,hr1]
   have T5:=Hid.mk' (TM.out.trans ht)
   clear ht hr1;go_wp2_with fail;go_ret;exact j13.bad hR.out T5.out
  | ok K5 =>
   rw[hr1] at hSB
   obtain⟨rfl,ht,Kp5,hp5,hk5,hl5⟩:=hSB
   have HN:Hid (∃Kpm Km,ckBs g n.kids.tail K1=ckBs g (n.kids.drop (m+1+1)) Km/\Pv G w5 ah Kpm/\KR G.T Kpm Km/\(∀j,j<nx->Kpm j=Kp j)/\Px G w5 km ko gg bs md av env Kpm nx/\Tw G.kb G.kb w w5):=⟨Kp5,K5,by rw[CK.out,HD.out];simp only[ckBs];rw[HG.out,hr1],hp5,hk5,λj hj=>(hl5 j (by omega)).trans (LM.out j hj),XM.out.tw ht λj hj=>hl5 j (by omega),TM.out.trans ht⟩
   have BP5:=Hid.mk' (BPM.out.tw ht hwk hwk)
   clear ht hr1 hp5 hk5 hl5;go_wp2_with fail;go_roundw
   case rel=>exact⟨m+1,by omega,by go_num,HN.out,BP5.out⟩
   case measure=>simp[intOf];omega
end
end
section
open Go.RowKit Go.Maps Go.WideMaps Go.ChangeShapes Go.WideShapes Go.MapKept Go.ChangeMaps Go.WideElems
theorem jio {K:Nat->List Int} {ok:Nat->Prop} {ks:List Int} {a e:Nat} (h:FitL K ok ks a e) {x y:Nat} (hx:ks[0]?=some (x:Int)) (hy:ks[1]?=some (y:Int)):∃b,FitL K ok (K y) b y/\x+1<=b:=by
 cases h with
 | nil=>simp at hx
 | cons _ k ks' _ h1 h2 h3 h4 =>
  cases h4 with
  | nil=>simp at hy
  | cons _ k2 ks2 _ g1 g2 g3 g4 =>
   simp at hx hy
   have e2:k2=y:=by omega
   subst e2
   exact⟨k+1,g3,by omega⟩
theorem jkv {k:Int} (h:j1c 6 k):k=31:=by
 unfold j1c at h
 simp only[show¬(6:Int)=10 by omega,if_false] at h
 have h:=h.1
 unfold cls at h
 repeat (split at h<;>try omega)
section
variable {G:Pd} {w w':World} {ah:List Int} {Kp Kp' K:KM} {km ko mb nn:Nat} {gg:Nm} {bs:List Nat} {md:Md} {av:Value} {env:Env} {nx:Nat} {lst hr:Bool} {tk:Int}
theorem jdl (hG:G.Ok) {f:Nat} (hS:StP G ah f) {i:Nat} {n:Nd} (hv:VN G.T i n) (hfit:FitL (j0e G.T) (okN G.T) n.kids nx i) (hif:i<=f) (hkd:n.kind=20) (htk:Hid (tk=(if md.fn=true then 33 else 34)/\hr=md.hears)) (h:Pv G w ah Kp) (hp:Px G w km ko gg bs md av env Kp nx) (hkr:KR G.T Kp K) :
  Calls Tryz.prog 114 #[.pointer (some ⟨G.c,0,none⟩),.int .i64 (i:Int),.agg #[addF km,j09 km ko,.int .i64 tk,.bool lst,.bool hr,av]] w λe w'=>j13 G w ah nx Kp (ckHe (Dp G) G.T env K (i:Int) λenv K=>ckSs (ckS (Dp G) G.T ah G.T.nodes.length f {md with hears:=true}) false (nd G.T (kid (nd G.T (i:Int)) 1)).kids env K) e w':=by
 obtain⟨nb,no,s9,c9,en1,hnb,e0,e1,e2,e3,ekids,hcap⟩:=Pd.node hG hv.at_
 have hiN:i<G.T.nodes.length:=(List.getElem?_eq_some_iff.1 hv.at_).1
 have iI:(i:Int)<(G.T.nodes.length:Int):=by omega
 have hn4:G.T.nodes.length<=4000:=hG.tr.1
 have hle:=hfit.le
 obtain⟨a,an,ba,hx0,hai,hva,hca,hfa,hnba⟩:=hv.kidAt hfit (j:=0) (c:=6) (by rw[hkd];simp[shp])
 obtain⟨q,qn,bq0,hx1,hqi,hvq,hcq,hfq0,hnbq0⟩:=hv.kidAt hfit (j:=1) (c:=3) (by rw[hkd];simp[shp])
 obtain⟨bq,hfq,hnbq⟩:=jio hfit hx0 hx1
 rw[j0t hvq.at_] at hfq
 have haE:¬isE (nd G.T (a:Int)).kind:=by rw[j0j hva.at_,jkv hca];unfold isE;omega
 have hlea:=hfa.le
 have hkl:1<n.kids.length:=(List.getElem?_eq_some_iff.1 hx1).1
 have l0I:(0:Int)<(n.kids.length:Int):=by omega
 have l0N:0<n.kids.length:=by omega
 have l1I:(1:Int)<(n.kids.length:Int):=by omega
 have l1N:1<n.kids.length:=by omega
 have aI:(a:Int)<(G.T.nodes.length:Int):=by omega
 obtain⟨fb,fo,rfl,_,hfb,pp⟩:=j05 ekids hx0
 obtain⟨fb',fo',efb,_,_,pq⟩:=j05 ekids hx1
 obtain⟨rfl,rfl⟩:fb=fb'/\fo=fo':=by cases efb;exact⟨rfl,rfl⟩
 have pp:G.w0.cell? ⟨fb,fo,none⟩=some (.int .i64 (a:Int)):=by simpa using pp
 have hts:n.text.size<=maxLen:=by have:=(hG.k.1.2 n (List.mem_of_getElem? hv.at_)).1;unfold maxLen;omega
 have hta:an.text.size<=maxLen:=by have:=(hG.k.1.2 an (List.mem_of_getElem? hva.at_)).1;unfold maxLen;omega
 obtain⟨g,hg⟩:∃g,Hid ((λ(env:Env) (K:KM)=>ckSs (ckS (Dp G) G.T ah G.T.nodes.length f {md with hears:=true}) false (nd G.T (kid (nd G.T (i:Int)) 1)).kids env K)=g):=⟨_,rfl⟩
 rw[hg.out]
 have HG:Hid (∀env K,g env K=ckSs (ckS (Dp G) G.T ah G.T.nodes.length f {md with hears:=true}) false qn.kids env K):=by intro env K;rw[<-hg.out];simp only;rw[j0j hv.at_,show kid n 1=(q:Int) by simp[kid,hx1],j0j hvq.at_]
 have HB0:Hid (ckHe (Dp G) G.T env K (i:Int) g=if Dp G 3 n.text=0 then .error (3,(i:Int)) else if (look env an.text).isSome=true then .error (2,(a:Int)) else g (env++[(an.text,Dp G 3 n.text)]) K):=by show _=_;unfold ckHe;rw[j0j hv.at_,show kid n 0=(a:Int) by simp[kid,hx0],j0j hva.at_]
 have b1:Below w.heap.size w (w.alloc (.cells #[addF km,j09 km ko,.int .i64 tk,.bool lst,.bool hr,av] 139)):=j00 (Below.refl _ _) _
 have b2:Below w.heap.size w ((w.alloc (.cells #[addF km,j09 km ko,.int .i64 tk,.bool lst,.bool hr,av] 139)).alloc (.cells #[.int .i64 n.kind,.string n.text,.int .i64 n.num,.slice (some ⟨fb,fo,none⟩) n.kids.length c9] 73)):=j00 b1 _
 have x1:(w.alloc (.cells #[addF km,j09 km ko,.int .i64 tk,.bool lst,.bool hr,av] 139)).cell? ⟨G.c,1,none⟩=some (.slice (some ⟨nb,no,none⟩) G.T.nodes.length G.d1):=by rw[<-en1];exact((h.later b1).bx.cell 1).trans rfl
 have q0:=((h.later b1).bl.cell (p:=⟨nb,no+i*4,none⟩) hnb).trans e0
 have q1:=((h.later b1).bl.cell (p:=⟨nb,no+i*4+1,none⟩) hnb).trans e1
 have q2:=((h.later b1).bl.cell (p:=⟨nb,no+i*4+2,none⟩) hnb).trans e2
 have q3:=((h.later b1).bl.cell (p:=⟨nb,no+i*4+3,none⟩) hnb).trans e3
 have BP:Hid (Blk ((w.alloc (.cells #[addF km,j09 km ko,.int .i64 tk,.bool lst,.bool hr,av] 139)).alloc (.cells #[.int .i64 n.kind,.string n.text,.int .i64 n.num,.slice (some ⟨fb,fo,none⟩) n.kids.length c9] 73)) w.heap.size #[addF km,j09 km ko,.int .i64 tk,.bool lst,.bool hr,av] 139):=Blk.alloc (Blk.new w #[addF km,j09 km ko,.int .i64 tk,.bool lst,.bool hr,av] 139) _
 have BN:Hid (Blk ((w.alloc (.cells #[addF km,j09 km ko,.int .i64 tk,.bool lst,.bool hr,av] 139)).alloc (.cells #[.int .i64 n.kind,.string n.text,.int .i64 n.num,.slice (some ⟨fb,fo,none⟩) n.kids.length c9] 73)) (w.heap.size+1) #[.int .i64 n.kind,.string n.text,.int .i64 n.num,.slice (some ⟨fb,fo,none⟩) n.kids.length c9] 73):=Blk.new' (w.alloc (.cells #[addF km,j09 km ko,.int .i64 tk,.bool lst,.bool hr,av] 139)) #[.int .i64 n.kind,.string n.text,.int .i64 n.num,.slice (some ⟨fb,fo,none⟩) n.kids.length c9] 73 (by simp)
 obtain⟨z0,z1,z2,z3,z4⟩:=Blk.four' BN.out
 have H1:=Hid.mk' (h.later b2)
 have X1:=Hid.mk' (hp.later b2)
 have T1:Hid (Below w.heap.size w ((w.alloc (.cells #[addF km,j09 km ko,.int .i64 tk,.bool lst,.bool hr,av] 139)).alloc (.cells #[.int .i64 n.kind,.string n.text,.int .i64 n.num,.slice (some ⟨fb,fo,none⟩) n.kids.length c9] 73))):=b2
 have hwk:¬w.heap.size=G.kb:=by have:=h.kl;omega
 have hwn:¬w.heap.size+1=G.kb:=by have:=h.kl;omega
 have hwc:¬w.heap.size=G.c:=by have:=h.bx.lt;omega
 have hwt:¬w.heap.size=G.bt:=by obtain⟨m,_,q⟩:=h.tp;have:=q.lt;omega
 have hw0:G.w0.heap.size<=w.heap.size:=h.bl.size
 have hfk:¬fb=G.kb:=by have:=hG.kb;omega
 have hbsl:Hid (∀b∈bs,b<w.heap.size):=hp.sc.lt
 have havl:Hid (∀ba,av=.map (some ba)->ba<w.heap.size):=by
  intro ba hba
  rcases hp.am with ⟨_,h2,_⟩|⟨_,ba',na,fa,h2,h3,_⟩
  ·
   rw[h2] at hba;cases hba
  rw[h2] at hba;cases hba;exact h3.lt
 have HKR:=Hid.mk' hkr
 have HVA:=Hid.mk' hva
 have HVQ:=Hid.mk' hvq
 have HFQ:Hid (FitL (j0e G.T) (okN G.T) qn.kids bq q):=hfq
 have PP:=Hid.mk' pp
 have PQ:=Hid.mk' pq
 have HCQ:=Hid.mk' (j34 hcq)
 have HAE:=Hid.mk' haE
 have HTK:=htk
 clear h hp b1 b2 e0 e1 e2 e3 ekids hfit hv hkr hx0 hx1 hva hfa hvq hcq hfq hfq0 hcap pp pq efb hca haE hkd htk;have hdc:=Hid.mk' (j29 hG H1.out 3 n.text hts)
 go_enter Tryz.func114,Tryz.ntmps114
 go_wp2_with fail;refine hdc.out.mono ?_
 rintro e w2 ⟨rfl,hb2⟩
 clear hdc x1 q0 q1 q2 q3 z0 z1 z2 z3 z4;have H2:=Hid.mk' (H1.out.later hb2)
 have X2:=Hid.mk' (X1.out.later hb2)
 have BP2:=Hid.mk' (BP.out.later hb2)
 have BN2:=Hid.mk' (BN.out.later hb2)
 have B2:Hid (Below w.heap.size w w2):=T1.out.trans (hb2.mono T1.out.size)
 have hs2:Hid (w.heap.size+2<=w2.heap.size):=by have:=BN2.out.lt;show _<=_;omega
 clear H1 X1 BP BN T1 hb2;obtain⟨dk,hdk⟩:∃k,Hid (Dp G 3 n.text=k):=⟨_,rfl⟩
 rw[hdk.out]
 by_cases h0:dk=0
 ·
  subst h0
  have hR:Hid (ckHe (Dp G) G.T env K (i:Int) g=.error (3,(i:Int))):=by show _=_;rw[HB0.out,hdk.out,if_pos rfl]
  have e1:decR 0=(0,3):=rfl
  rw[e1]
  go_wp2_with fail;go_ret;exact j13.bad hR.out (Tw.of B2.out)
 have HB1:Hid (ckHe (Dp G) G.T env K (i:Int) g=if (look env an.text).isSome=true then .error (2,(a:Int)) else g (env++[(an.text,dk)]) K):=by show _=_;rw[HB0.out,hdk.out,if_neg h0]
 have e1:decR dk=(dk,0):=by simp[decR,h0]
 rw[e1]
 have hsc:=Hid.mk' (j5c (.func 84) #[.pointer (some ⟨km,0,none⟩),.pointer (some ⟨ko,0,none⟩)] (j09 km ko) rfl w2)
 have hst:=j6k
 have p0:_=some (addF km):=(BP2.out.cell 0).trans rfl
 have p1:_=some (j09 km ko):=(BP2.out.cell 1).trans rfl
 have p2:_=some (Value.int .i64 tk):=(BP2.out.cell 2).trans rfl
 have p3:_=some (Value.bool lst):=(BP2.out.cell 3).trans rfl
 have p4:_=some (Value.bool hr):=(BP2.out.cell 4).trans rfl
 have p5:_=some (av):=(BP2.out.cell 5).trans rfl
 clear h0 e1 HB0 hdk;go_wp2_with fail;refine hsc.out.mono ?_
 rintro e w3 ⟨km2,mb2,ko2,rfl,hN⟩
 clear hsc p0 p1 p2 p3 p4 p5;have hne:=nest H2.out X2.out.sc X2.out.ap X2.out.er X2.out.am hN
 have hm2:w.heap.size+1<mb2:=by have:=hN.o2;have:=hs2.out;omega
 have hk2:w.heap.size+1<km2:=by have:=hN.o1;have:=hs2.out;omega
 have ho2:w.heap.size+1<ko2:=by have:=hN.o3;have:=hs2.out;omega
 have hbs2:Hid (∀b∈(km2 :: mb2 :: ko2 :: bs),¬b=w.heap.size):=by
  intro b hb
  simp only[List.mem_cons] at hb
  rcases hb with rfl|rfl|rfl|hb
  ·
   omega
  ·
   omega
  ·
   omega
  have:=hbsl.out b hb;omega
 have hav2:Hid (∀ba,av=.map (some ba)->¬ba=w.heap.size):=λba hba=>by have:=havl.out ba hba;omega
 have H3:=Hid.mk' (H2.out.later hN.bl)
 have BP3:=Hid.mk' (BP2.out.later hN.bl)
 have BN3:=Hid.mk' (BN2.out.later hN.bl)
 have B3:Hid (Below w.heap.size w w3):=B2.out.trans (hN.bl.mono B2.out.size)
 have X3:=Hid.mk' hne.1
 have L3:=Hid.mk' hne.2
 clear hne hN H2 X2 BP2 BN2 B2 hs2;have p0:_=some (addF km):=(BP3.out.cell 0).trans rfl
 have p1:_=some (j09 km ko):=(BP3.out.cell 1).trans rfl
 have p2:_=some (Value.int .i64 tk):=(BP3.out.cell 2).trans rfl
 have p3:_=some (Value.bool lst):=(BP3.out.cell 3).trans rfl
 have p4:_=some (Value.bool hr):=(BP3.out.cell 4).trans rfl
 have p5:_=some (av):=(BP3.out.cell 5).trans rfl
 have pf:=BP3.out.frozen
 have tw4:Tw w.heap.size w.heap.size w3 ((w3.setCell ⟨w.heap.size,0,none⟩ (addF km2)).setCell ⟨w.heap.size,1,none⟩ (j09 km2 ko2)):=(Tw.set _ _ _ _ _).trans (Tw.set _ _ _ _ _)
 have H4:=Hid.mk' (H3.out.off tw4 hw0 hwc hwk hwt)
 have X4:=Hid.mk' (X3.out.off tw4 hbs2.out hav2.out)
 have L4:=Hid.mk' (L3.out.off tw4 hbs2.out)
 have BP4:Hid (Blk ((w3.setCell ⟨w.heap.size,0,none⟩ (addF km2)).setCell ⟨w.heap.size,1,none⟩ (j09 km2 ko2)) w.heap.size #[addF km2,j09 km2 ko2,.int .i64 tk,.bool lst,.bool hr,av] 139):=(BP3.out.set 0 (addF km2)).set 1 (j09 km2 ko2)
 have BN4:=Hid.mk' (BN3.out.tw tw4 (by omega) (by omega))
 have T4:Hid (Tw G.kb mb2 w ((w3.setCell ⟨w.heap.size,0,none⟩ (addF km2)).setCell ⟨w.heap.size,1,none⟩ (j09 km2 ko2))):=((Tw.of B3.out).fresh (Nat.le_refl _) _ _).fresh (Nat.le_refl _) _ _
 have z0:=pf 0
 have z1:=pf 1
 go_wp2_with fail;clear p0 p1 p2 p3 p4 p5 pf z0 z1 tw4 H3 X3 L3 BP3 BN3 B3;generalize (w3.setCell ⟨w.heap.size,0,none⟩ (addF km2)).setCell ⟨w.heap.size,1,none⟩ (j09 km2 ko2)=wr at H4 X4 L4 BP4 BN4 T4 ⊢
 have hwr:w.heap.size<wr.heap.size:=BP4.out.lt
 have hwr1:w.heap.size+1<wr.heap.size:=BN4.out.lt
 have hfm:¬fb=mb2:=by omega
 have hwm:¬w.heap.size=mb2:=by omega
 have hwm1:¬w.heap.size+1=mb2:=by omega
 have hcall:=Hid.mk' (j6x (lst:=lst) (hr:=hr) (tk:=tk) hG (H4.out.later (j02 (Below.refl _ _))) (X4.out.later (j02 (Below.refl _ _))) (L4.out.later (j02 (Below.refl _ _))) (by unfold maxLen;omega) HVA.out.at_ (by omega) dk hta)
 have hS:Hid (∀X,Tw G.kb mb2 (wr) X->X.cell? ⟨w.heap.size+1,3,none⟩=some (.slice (some ⟨fb,fo,none⟩) n.kids.length c9)/\X.cell? ⟨fb,fo,none⟩=some (.int .i64 (a:Int))/\X.cell? ⟨w.heap.size,0,none⟩=some (addF km2)/\X.cell? ⟨w.heap.size,1,none⟩=some (j09 km2 ko2)/\X.cell? ⟨w.heap.size,2,none⟩=some (.int .i64 tk)/\X.cell? ⟨w.heap.size,3,none⟩=some (.bool lst)/\X.cell? ⟨w.heap.size,4,none⟩=some (.bool hr)/\X.cell? ⟨w.heap.size,5,none⟩=some (av)):=λX hX=>⟨(hX.cell hwr1 hwn hwm1).trans ((BN4.out.cell 3).trans rfl),(hX.cell (Nat.lt_of_lt_of_le hfb H4.out.bl.size) hfk hfm).trans ((H4.out.bl.cell (p:=⟨fb,fo,none⟩) hfb).trans PP.out),(hX.cell hwr hwk hwm).trans ((BP4.out.cell 0).trans rfl),(hX.cell hwr hwk hwm).trans ((BP4.out.cell 1).trans rfl),(hX.cell hwr hwk hwm).trans ((BP4.out.cell 2).trans rfl),(hX.cell hwr hwk hwm).trans ((BP4.out.cell 3).trans rfl),(hX.cell hwr hwk hwm).trans ((BP4.out.cell 4).trans rfl),(hX.cell hwr hwk hwm).trans ((BP4.out.cell 5).trans rfl)⟩
 refine wp_region_held_drew (S:=λX=>X.cell? ⟨w.heap.size+1,3,none⟩=some (.slice (some ⟨fb,fo,none⟩) n.kids.length c9)/\X.cell? ⟨fb,fo,none⟩=some (.int .i64 (a:Int))/\X.cell? ⟨w.heap.size,0,none⟩=some (addF km2)/\X.cell? ⟨w.heap.size,1,none⟩=some (j09 km2 ko2)/\X.cell? ⟨w.heap.size,2,none⟩=some (.int .i64 tk)/\X.cell? ⟨w.heap.size,3,none⟩=some (.bool lst)/\X.cell? ⟨w.heap.size,4,none⟩=some (.bool hr)/\X.cell? ⟨w.heap.size,5,none⟩=some (av)) (by kernel_rfl) ?_ (λhHeld=>?_)
 ·
  exact hS.out _ (Tw.of (j02 (Below.refl _ _)))
 refine wpr 0 36 ?_;simp only[zs];refine wpr 1 37 ?_;simp only[zs];refine wpr 2 38 ?_;simp only[zs];refine wpr 3 39 ?_;simp only[zs];refine wpr 4 40 ?_;simp only[zs];refine wpr 5 41 ?_;simp only[zs];refine wpr 6 42 ?_;simp only[zs];refine wpAnyH_ready (rs:=[7]) (by kernel_rfl) (by simp) ?_
 refine AllReadyH.cons rfl (λKQ hK=>?_) AllReadyH.nil
 go_simp;refine hcall.out.mono ?_
 intro e w5 hSL
 clear hcall;have T5:Hid (Tw G.kb mb2 wr w5):=Tw.trans (Tw.of (j02 (Below.refl _ _))) hSL.tw
 have T6:=Hid.mk' (T4.out.trans T5.out)
 unfold j6p at hSL
 split at hSL
 ·
  rename_i hlk
  obtain⟨rfl,_⟩:=hSL
  have hR:Hid (ckHe (Dp G) G.T env K (i:Int) g=.error (2,(a:Int))):=by show _=_;rw[HB1.out,if_pos hlk]
  clear hlk;refine hK.out _ _ (hS.out _ T5.out) (λhHeld=>?_)
  clear hK KQ;try simp only[zs]
  refine wpr 8 10 ?_;simp only[zs];refine wpAnyH_done (by kernel_rfl) ?_ _
  clear hHeld hS;go_wp2_with fail;go_ret;exact j13.bad hR.out (T6.out.less (by omega))
 rename_i hlk
 obtain⟨rfl,_,hp5,gg5,hx5,hl5⟩:=hSL
 have HB2:Hid (ckHe (Dp G) G.T env K (i:Int) g=g (env++[(an.text,dk)]) K):=by show _=_;rw[HB1.out,if_neg hlk]
 have P5:=Hid.mk' hp5
 have X5:=Hid.mk' hx5
 have BP5:=Hid.mk' (BP4.out.tw T5.out hwk hwm)
 have BN5:=Hid.mk' (BN4.out.tw T5.out hwn hwm1)
 clear hlk hp5 hx5 hl5 HB1;refine hK.out _ _ (hS.out _ T5.out) (λhHeld=>?_)
 clear hK KQ;try simp only[zs]
 refine wpr 8 10 ?_;simp only[zs];refine wpAnyH_done (by kernel_rfl) ?_ _
 clear hHeld hS;clear H4 X4 L4 BP4 BN4 T4 hwr hwr1;have p0:_=some (addF km2):=(BP5.out.cell 0).trans rfl
 have p1:_=some (j09 km2 ko2):=(BP5.out.cell 1).trans rfl
 have p2:_=some (Value.int .i64 tk):=(BP5.out.cell 2).trans rfl
 have p3:_=some (Value.bool lst):=(BP5.out.cell 3).trans rfl
 have p4:_=some (Value.bool hr):=(BP5.out.cell 4).trans rfl
 have p5:_=some (av):=(BP5.out.cell 5).trans rfl
 have pf:=BP5.out.frozen
 have tw6:Tw w.heap.size w.heap.size w5 (w5.setCell ⟨w.heap.size,4,none⟩ (.bool true)):=Tw.set _ _ _ _ _
 have H6:=Hid.mk' (P5.out.off tw6 hw0 hwc hwk hwt)
 have X6:=Hid.mk' (X5.out.off tw6 hbs2.out hav2.out)
 have BP6:Hid (Blk (w5.setCell ⟨w.heap.size,4,none⟩ (.bool true)) w.heap.size #[addF km2,j09 km2 ko2,.int .i64 tk,.bool lst,.bool true,av] 139):=BP5.out.set 4 (.bool true)
 have BN6:=Hid.mk' (BN5.out.tw tw6 (by omega) (by omega))
 have T7:Hid (Tw G.kb mb2 w (w5.setCell ⟨w.heap.size,4,none⟩ (.bool true))):=T6.out.fresh (Nat.le_refl _) _ _
 have z4:=pf 4
 go_wp2_with fail;clear p0 p1 p2 p3 p4 p5 pf z4 tw6 P5 X5 BP5 BN5 T5 T6;generalize w5.setCell ⟨w.heap.size,4,none⟩ (.bool true)=wl at H6 X6 BP6 BN6 T7 ⊢
 have hwl:w.heap.size<wl.heap.size:=BP6.out.lt
 have hwl1:w.heap.size+1<wl.heap.size:=BN6.out.lt
 have X7:Hid (Px G wl km2 ko2 gg5 (km2 :: mb2 :: ko2 :: bs) {md with hears:=true} av (env++[(an.text,dk)]) (upd Kp (a:Int) dk) (a+1)):=⟨X6.out.sc,X6.out.ap,X6.out.er,X6.out.am⟩
 have hblk:=Hid.mk' (j3o (lst:=lst) (hr:=true) (tk:=tk) (md:={md with hears:=true}) hG hS HVQ.out HCQ.out HFQ.out (by omega) false ⟨HTK.out.1,rfl⟩ (H6.out.later (j02 (Below.refl _ _))) ((X7.out.later (j02 (Below.refl _ _))).mono hnbq) (HKR.out.other HAE.out dk))
 have hS:Hid (∀X,Tw G.kb G.kb (wl) X->X.cell? ⟨w.heap.size+1,3,none⟩=some (.slice (some ⟨fb,fo,none⟩) n.kids.length c9)/\X.cell? ⟨fb,fo+1,none⟩=some (.int .i64 (q:Int))/\X.cell? ⟨w.heap.size,0,none⟩=some (addF km2)/\X.cell? ⟨w.heap.size,1,none⟩=some (j09 km2 ko2)/\X.cell? ⟨w.heap.size,2,none⟩=some (.int .i64 tk)/\X.cell? ⟨w.heap.size,3,none⟩=some (.bool lst)/\X.cell? ⟨w.heap.size,4,none⟩=some (.bool true)/\X.cell? ⟨w.heap.size,5,none⟩=some (av)):=λX hX=>⟨(hX.cell hwl1 hwn hwn).trans ((BN6.out.cell 3).trans rfl),(hX.cell (Nat.lt_of_lt_of_le hfb H6.out.bl.size) hfk hfk).trans ((H6.out.bl.cell (p:=⟨fb,fo+1,none⟩) hfb).trans PQ.out),(hX.cell hwl hwk hwk).trans ((BP6.out.cell 0).trans rfl),(hX.cell hwl hwk hwk).trans ((BP6.out.cell 1).trans rfl),(hX.cell hwl hwk hwk).trans ((BP6.out.cell 2).trans rfl),(hX.cell hwl hwk hwk).trans ((BP6.out.cell 3).trans rfl),(hX.cell hwl hwk hwk).trans ((BP6.out.cell 4).trans rfl),(hX.cell hwl hwk hwk).trans ((BP6.out.cell 5).trans rfl)⟩
 refine wp_region_held_drew (S:=λX=>X.cell? ⟨w.heap.size+1,3,none⟩=some (.slice (some ⟨fb,fo,none⟩) n.kids.length c9)/\X.cell? ⟨fb,fo+1,none⟩=some (.int .i64 (q:Int))/\X.cell? ⟨w.heap.size,0,none⟩=some (addF km2)/\X.cell? ⟨w.heap.size,1,none⟩=some (j09 km2 ko2)/\X.cell? ⟨w.heap.size,2,none⟩=some (.int .i64 tk)/\X.cell? ⟨w.heap.size,3,none⟩=some (.bool lst)/\X.cell? ⟨w.heap.size,4,none⟩=some (.bool true)/\X.cell? ⟨w.heap.size,5,none⟩=some (av)) (by kernel_rfl) ?_ (λhHeld=>?_)
 ·
  exact hS.out _ (Tw.of (j02 (Below.refl _ _)))
 refine wpr 0 48 ?_;simp only[zs];refine wpr 1 49 ?_;simp only[zs];refine wpr 2 50 ?_;simp only[zs];refine wpr 3 51 ?_;simp only[zs];refine wpr 4 52 ?_;simp only[zs];refine wpr 5 53 ?_;simp only[zs];refine wpAnyH_ready (rs:=[6]) (by kernel_rfl) (by simp) ?_
 refine AllReadyH.cons rfl (λKQ hK=>?_) AllReadyH.nil
 go_simp;refine hblk.out.mono ?_
 rintro e w7 hSB
 clear hblk;cases hr1:ckSs (ckS (Dp G) G.T ah G.T.nodes.length f {md with hears:=true}) false qn.kids (env++[(an.text,dk)]) K with
 | error q9 =>
  obtain⟨c,nq⟩:=q9
  rw[hr1] at hSB
  obtain⟨rfl,ht⟩:=hSB
  have hR:Hid (ckHe (Dp G) G.T env K (i:Int) g=.error (c,nq)):=by show _=_;rw[HB2.out,HG.out,hr1]
  have T8:Hid (Tw G.kb G.kb wl w7):=Tw.trans (Tw.of (j02 (Below.refl _ _))) ht
  have T9:=Hid.mk' (T7.out.trans (T8.out.more mb2))
  clear ht hr1;refine hK.out _ _ (hS.out _ T8.out) (λhHeld=>?_)
  clear hK KQ;try simp only[zs]
  refine wpr 7 6 ?_;simp only[zs];refine wpAnyH_done (by kernel_rfl) ?_ _
  clear hHeld hS;go_wp2_with fail;go_ret;exact j13.bad hR.out (T9.out.less (by omega))
 | ok K7 =>
  rw[hr1] at hSB
  obtain⟨rfl,ht,Kp7,hp7,hk7,hl7⟩:=hSB
  have hR:Hid (ckHe (Dp G) G.T env K (i:Int) g=.ok K7):=by show _=_;rw[HB2.out,HG.out,hr1]
  have T8:Hid (Tw G.kb G.kb wl w7):=Tw.trans (Tw.of (j02 (Below.refl _ _))) ht
  have T9:=Hid.mk' (T7.out.trans (T8.out.more mb2))
  have P8:=Hid.mk' hp7
  have K8:=Hid.mk' hk7
  have L8:Hid (∀j,j<nx->Kp7 j=Kp j):=λj hj=>(hl7 j (by omega)).trans (j5n (by omega) dk j hj)
  clear ht hr1 hp7 hk7 hl7;refine hK.out _ _ (hS.out _ T8.out) (λhHeld=>?_)
  clear hK KQ;try simp only[zs]
  refine wpr 7 6 ?_;simp only[zs];refine wpAnyH_done (by kernel_rfl) ?_ _
  clear hHeld hS;go_wp2_with fail;go_ret;exact j13.good hR.out (T9.out.less (by omega)) P8.out K8.out L8.out
end
end
end Go.Proofs.YtjbbagcpcepkoaaGreatDoor
