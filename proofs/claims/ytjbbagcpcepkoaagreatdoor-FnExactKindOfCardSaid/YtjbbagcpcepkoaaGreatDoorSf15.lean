import Derived.Test.YtjbbagcpcepkoaaGreatDoorSf14
namespace Go.Proofs.YtjbbagcpcepkoaaGreatDoor
set_option maxRecDepth 100000
set_option maxHeartbeats 64000000
set_option linter.unusedVariables false
set_option linter.unusedSimpArgs false
section
open Go.RowKit
section
variable {G:Gd} {w w':World} {top:Int} {env:Env} {md:Md} {last:Int} {K:KM} {sn sk sw:Option Addr} {cn ck cw:Nat}
theorem jd9 (hG:G.Ok) {tp f:Nat} (hE:ExpS G top tp env md last f) {i:Nat} {n:Nd} (hv:VN G.T i n) (hi:i<f+1)
  (hN:∀x∈n.kids,∃(k:Nat) (m:Nd) (a:Nat) (an:Nd),x=k/\k<i/\VN G.T k m/\m.kids[0]?=some (a:Int)/\a<k/\VN G.T a an/\isE an.kind) (h:Lv G w top env md last K sn cn sk ck sw cw) :
  Calls Tryz.prog 94 #[.pointer (some ⟨G.p,0,none⟩),.int .i64 (i:Int)] w λe w'=>j2z G w top env md last sn cn sk ck sw cw (j18 (Dg G) G.T (ckE (Dg G) G.T (G.T.tops.take tp) md env f) n.kids [] K) e w':=by
 obtain⟨nb,no,s9,c9,en1,hnb,e0,e1,e2,e3,ekids⟩:=hG.node hv.at_
 have hiN:i<G.T.nodes.length:=(List.getElem?_eq_some_iff.1 hv.at_).1
 have hnl:G.T.nodes.length<=4000:=hG.tr.1
 have hal:n.kids.length<=4000:=by obtain⟨_,hf⟩:=hv.fit;have:=hf.len;omega
 have x3:w.cell? ⟨G.p,3,none⟩=some (.slice (some ⟨nb,no,none⟩) G.T.nodes.length G.d1):=by rw[<-en1];exact(h.bx.cell 3).trans rfl
 have q0:=(h.bl.cell (p:=⟨nb,no+i*4,none⟩) hnb).trans e0
 have q1:=(h.bl.cell (p:=⟨nb,no+i*4+1,none⟩) hnb).trans e1
 have q2:=(h.bl.cell (p:=⟨nb,no+i*4+2,none⟩) hnb).trans e2
 have q3:=(h.bl.cell (p:=⟨nb,no+i*4+3,none⟩) hnb).trans e3
 have iI:(i:Int)<(G.T.nodes.length:Int):=by omega
 have bz:Hid (Below w.heap.size w ((w.alloc (.cells #[.int .i64 n.kind,.string n.text,.int .i64 n.num,.slice s9 n.kids.length c9] 73)).alloc (.cells #[] 9))):=j00 (j00 (Below.refl _ _) _) _
 have hp0:G.p<w.heap.size:=h.bx.lt
 have hk0:G.kb<w.heap.size:=h.kl
 have hw0s:G.w0.heap.size<=w.heap.size:=h.bl.size
 have hpB:G.p<w.heap.size+1:=by omega
 have hkB:G.kb<w.heap.size+1:=by omega
 have H1:Hid (Lv G ((w.alloc (.cells #[.int .i64 n.kind,.string n.text,.int .i64 n.num,.slice s9 n.kids.length c9] 73)).alloc (.cells #[] 9)) top env md last K sn cn sk ck sw cw):=h.later bz.out
 have OL:Hid (Old3 G (w.heap.size+1) env md sn sk sw):=⟨h.old.1.mono (Nat.le_succ _),h.old.2.1.mono (Nat.le_succ _),h.old.2.2.mono (Nat.le_succ _)⟩
 have K51:Hid (Blk ((w.alloc (.cells #[.int .i64 n.kind,.string n.text,.int .i64 n.num,.slice s9 n.kids.length c9] 73)).alloc (.cells #[] 9)) w.heap.size #[.int .i64 n.kind,.string n.text,.int .i64 n.num,.slice s9 n.kids.length c9] 73):=(Blk.new w #[.int .i64 n.kind,.string n.text,.int .i64 n.num,.slice s9 n.kids.length c9] 73).alloc _
 have O1:Hid (OS ((w.alloc (.cells #[.int .i64 n.kind,.string n.text,.int .i64 n.num,.slice s9 n.kids.length c9] 73)).alloc (.cells #[] 9)) (w.heap.size+1) (.slice (some ⟨w.heap.size+1,0,none⟩) 0 0) []):=by
  have:=OS.empty (Blk.new (w.alloc (.cells #[.int .i64 n.kind,.string n.text,.int .i64 n.num,.slice s9 n.kids.length c9] 73)) #[] 9)
  have e:(w.alloc (.cells #[.int .i64 n.kind,.string n.text,.int .i64 n.num,.slice s9 n.kids.length c9] 73)).heap.size=w.heap.size+1:=by simp
  rw[e] at this
  exact this
 have T1:Hid (Tw G.p G.kb w ((w.alloc (.cells #[.int .i64 n.kind,.string n.text,.int .i64 n.num,.slice s9 n.kids.length c9] 73)).alloc (.cells #[] 9))):=Tw.of bz.out
 have HK:Hid (Els 1 cInt G.w0 G.B0 s9 n.kids):=ekids
 have HEN:Hid (G.n1=some ⟨nb,no,none⟩):=en1
 have HE:=Hid.mk' hE
 have HN:=Hid.mk' hN
 obtain⟨iS,hiS,hzS,hsS,hbS⟩:=info_parts Tryz.infoS
 clear h e0 e1 e2 e3 ekids hv hE hN en1;go_enter Tryz.func94,Tryz.ntmps94
 go_wp2_with fail;clear x3 q0 q1 q2 q3 bz;go_loopw [5,6] (λav kv wr=>∃(m:Nat) (so:Option Addr) (co:Nat) (L:List ByteArray) (Km:KM),m<=n.kids.length/\kv=.int .i64 m/\av=.slice so L.length co/\Hid (L.length=m)/\Hid (j18 (Dg G) G.T (ckE (Dg G) G.T (G.T.tops.take tp) md env f) n.kids [] K=j18 (Dg G) G.T (ckE (Dg G) G.T (G.T.tops.take tp) md env f) (n.kids.drop m) L Km)/\Hid (OS wr (w.heap.size+1) (.slice so L.length co) L)/\Hid (Lv G wr top env md last Km sn cn sk ck sw cw)/\Hid (Blk wr w.heap.size #[.int .i64 n.kind,.string n.text,.int .i64 n.num,.slice s9 n.kids.length c9] 73)/\Hid (Tw G.p G.kb w wr)) (λ_ kv _=>n.kids.length-(intOf kv).toNat)
 case atStart=>exact⟨0,_,_,[],K,Nat.zero_le _,rfl,rfl,rfl,by rw[List.drop_zero];rfl,O1,H1,K51,T1⟩
 clear O1 H1 K51 T1;obtain⟨m,so,co,L,Km,hm,rfl,rfl,hLm,hCk,HO,HL,HKn,HT⟩:=hrel
 obtain⟨z0,z1,z2,z3',z4⟩:=Blk.four' HKn.out
 have hLl:L.length<=4000:=by have:=hLm.out;omega
 by_cases hlt:m<n.kids.length
 ·
  obtain⟨xi,hxi⟩:∃x,n.kids[m]?=some x:=⟨n.kids[m],by simp[hlt]⟩
  obtain⟨x,xn,a,an,rfl,hxlt,hvx,hx0,halt,hva,hae⟩:=HN.out _ (List.mem_of_getElem? hxi)
  have hdr:Hid (n.kids.drop m=(x:Int) :: n.kids.drop (m+1)):=by
   show _=_
   rw[List.drop_eq_getElem_cons hlt]
   congr 1
   exact(List.getElem?_eq_some_iff.1 hxi).2
  obtain⟨fb,fo,hs9,_,hfb,p00⟩:=j05 HK.out hxi
  obtain⟨nb2,no2,sx,cx,en2,_,f0,f1,f2,f3,fkids⟩:=hG.node hvx.at_
  obtain⟨rfl,rfl⟩:nb2=nb/\no2=no:=by rw[HEN.out] at en2;cases en2;exact⟨rfl,rfl⟩
  obtain⟨gb,go,rfl,_,hgb,g0⟩:=j05 fkids hx0
  rw[Nat.add_zero] at g0
  have z3:=z3'
  rw[hs9] at z3
  have X3:Hid (wr.cell? ⟨G.p,3,none⟩=some (.slice (some ⟨nb2,no2,none⟩) G.T.nodes.length G.d1)):=by rw[<-HEN.out];exact(HL.out.bx.cell 3).trans rfl
  have X4:=Hid.mk' z3
  have X5:=Hid.mk' ((HL.out.bl.cell (p:=⟨fb,fo+m,none⟩) hfb).trans p00)
  have Y0:=Hid.mk' ((HL.out.bl.cell (p:=⟨nb2,no2+x*4,none⟩) hnb).trans f0)
  have Y1:=Hid.mk' ((HL.out.bl.cell (p:=⟨nb2,no2+x*4+1,none⟩) hnb).trans f1)
  have Y2:=Hid.mk' ((HL.out.bl.cell (p:=⟨nb2,no2+x*4+2,none⟩) hnb).trans f2)
  have Y3:=Hid.mk' ((HL.out.bl.cell (p:=⟨nb2,no2+x*4+3,none⟩) hnb).trans f3)
  have HG0:Hid (G.w0.cell? ⟨gb,go,none⟩=some (.int .i64 (a:Int))):=g0
  have HX:Hid (nd G.T (x:Int)=xn):=j0j hvx.at_
  have HX0:Hid (kid xn 0=(a:Int)):=by show _=_;simp[kid,hx0]
  have HVA:=Hid.mk' hva
  have mI:(m:Int)<(n.kids.length:Int):=by omega
  have xI:(x:Int)<(G.T.nodes.length:Int):=by have:=(List.getElem?_eq_some_iff.1 hvx.at_).1;omega
  have k0I:(0:Int)<(xn.kids.length:Int):=by have:=(List.getElem?_eq_some_iff.1 hx0).1;omega
  have hwr:G.w0.heap.size<=wr.heap.size:=HL.out.bl.size
  have hpr:G.p<wr.heap.size:=HL.out.bx.lt
  have hkr:w.heap.size<wr.heap.size:=HKn.out.lt
  have hfr:fb<wr.heap.size:=by omega
  have hnr:nb2<wr.heap.size:=by omega
  have HXI:=Hid.mk' hxi
  have HSF:Hid (s9=some ⟨fb,fo,none⟩):=hs9
  clear hxi hvx f0 f1 f2 f3 en2 fkids p00 z3' hs9 g0 hx0 hva;have hz:Hid (∀ob:Obj,(λW=>Below wr.heap.size wr W) ((wr.alloc ob).drew)):=λob=>j02 (j00 (Below.refl _ _) _)
  go_wp2_with fail;clear z0 z1 z2 z3 z4;refine wp_region_held_drew (S:=(λW=>Below wr.heap.size wr W)) (by kernel_rfl) ?_ (λhHeld=>?_)
  ·
   exact j02 (Below.refl _ _)
  refine wpr 0 26 ?_;simp only[zs];refine wpr 1 27 ?_;simp only[zs];refine wpr 2 28 ?_;simp only[zs];refine wpr 3 29 ?_;simp only[zs];refine wpq (v:=?_) 4 30 rfl rfl ?_ ?_
  rotate_left 1
  ·
   intro w hSw;(try dsimp only at hSw);have x3:=lowc hSw X3.out hpr;go_simp<;>with_reducible rfl
  simp only[zs];refine wpr 5 31 ?_;simp only[zs];refine wpq (v:=?_) 6 32 rfl rfl ?_ ?_
  rotate_left 1
  ·
   intro w hSw;(try dsimp only at hSw);have x3:=lowc hSw X4.out hkr;go_simp<;>with_reducible rfl
  simp only[zs];refine wpr 7 33 ?_;simp only[zs];refine wpr 8 34 ?_;simp only[zs];refine wpq (v:=?_) 9 35 rfl rfl ?_ ?_
  rotate_left 1
  ·
   intro w hSw;(try dsimp only at hSw);have x3:=lowc hSw X5.out hfr;go_simp<;>with_reducible rfl
  simp only[zs];refine wpr 10 36 ?_;simp only[zs];refine wpq (v:=?_) 11 37 rfl rfl ?_ ?_
  rotate_left 1
  ·
   intro w hSw;(try dsimp only at hSw);have x0:=lowc hSw Y0.out hnr;have x1:=lowc hSw Y1.out hnr;have x2:=lowc hSw Y2.out hnr;have x3:=lowc hSw Y3.out hnr;go_simp<;>with_reducible rfl
  simp only[zs];refine wpy 12 λK hK=>?_
  go_simp;refine hK.out _ _ ?_ (λhHeld=>?_)
  ·
   exact hz.out _
  clear hK K;try simp only[zs]
  refine wpy 13 λK hK=>?_
  go_simp;refine hK.out _ _ ?_ (λhHeld=>?_)
  ·
   exact hz.out _
  clear hK K;try simp only[zs]
  refine wpAnyH_done (by kernel_rfl) ?_ _
  have BZ:=Hid.mk' (hz.out (.cells #[.int .i64 xn.kind,.string xn.text,.int .i64 xn.num,.slice (some ⟨gb,go,none⟩) xn.kids.length cx] 73))
  have H5:=Hid.mk' (HL.out.later BZ.out)
  have K55:=Hid.mk' (HKn.out.later BZ.out)
  have KX5:Hid (Blk ((wr.alloc (.cells #[.int .i64 xn.kind,.string xn.text,.int .i64 xn.num,.slice (some ⟨gb,go,none⟩) xn.kids.length cx] 73)).drew) wr.heap.size #[.int .i64 xn.kind,.string xn.text,.int .i64 xn.num,.slice (some ⟨gb,go,none⟩) xn.kids.length cx] 73):=Blk.new wr _ _
  have O5:=Hid.mk' (HO.out.later BZ.out)
  have T5:=Hid.mk' (HT.out.trans (Tw.of BZ.out))
  obtain⟨X,hX⟩:∃X,(wr.alloc (.cells #[.int .i64 xn.kind,.string xn.text,.int .i64 xn.num,.slice (some ⟨gb,go,none⟩) xn.kids.length cx] 73)).drew=X:=⟨_,rfl⟩
  rw[hX] at H5 K55 KX5 O5 T5 ⊢
  obtain⟨kx,hkx⟩:∃k,wr.heap.size=k:=⟨_,rfl⟩
  rw[hkx] at KX5 hpr hkr ⊢
  have hkk:G.kb<kx:=by rw[<-hkx];exact HL.out.kl
  clear hHeld hz BZ hX hkx X3 X4 X5 Y0 Y1 Y2 Y3 HL HKn HO HT hwr hfr hnr;obtain⟨z0,z1,z2,z3,z4⟩:=Blk.four' KX5.out
  have q0:=(H5.out.bl.cell (p:=⟨gb,go,none⟩) hgb).trans HG0.out
  go_wp2_with fail;refine(HE.out a an Km _ sn cn sk ck sw cw (by omega) HVA.out hae H5.out).mono ?_
  rintro e w6 hS6
  have T6:=Hid.mk' (T5.out.trans hS6.2)
  have K56:=Hid.mk' (K55.out.tw hS6.2 (by omega) (by omega))
  have KX6:=Hid.mk' (KX5.out.tw hS6.2 (by omega) (by omega))
  have O6:=Hid.mk' (O5.out.tw hS6.2 hpB hkB)
  clear z0 z1 z2 z3 z4 q0 H5 K55 KX5 O5 T5;cases hr:ckE (Dg G) G.T (G.T.tops.take tp) md env f Km (a:Int) with
  | error q =>
   obtain⟨c,nq⟩:=q
   rw[hr] at hS6
   obtain⟨⟨rfl,hd⟩,_⟩:=hS6
   have hEr:Hid (j18 (Dg G) G.T (ckE (Dg G) G.T (G.T.tops.take tp) md env f) n.kids [] K=.error (c,nq)):=by rw[hCk.out,hdr.out];simp[Hid,j18,HX.out,HX0.out,hr]
   have y13:=hd.c13
   have tc:(c != 0)=true:=by simp[hd.ne]
   have HD:Hid (Dd G w6 c nq):=hd
   clear hd;go_wp2_with fail;refine bq (.tuple #[]) ?_
   exact j2z.bad hEr.out HD.out T6.out
  | ok q =>
   obtain⟨k,K1⟩:=q
   rw[hr] at hS6
   obtain⟨⟨rfl,hl⟩,_⟩:=hS6
   have hCk2:Hid (j18 (Dg G) G.T (ckE (Dg G) G.T (G.T.tops.take tp) md env f) n.kids [] K=if Dg G 1 xn.text=0 then .error (3,(x:Int)) else if inL xn.text L=true then .error (2,(x:Int)) else if Dg G 1 xn.text=k then j18 (Dg G) G.T (ckE (Dg G) G.T (G.T.tops.take tp) md env f) (n.kids.drop (m+1)) (L++[xn.text]) K1 else .error (4,(x:Int))):=by rw[hCk.out,hdr.out];simp[Hid,j18,HX.out,HX0.out,hr]
   have y13:w6.cell? ⟨G.p,13,none⟩=some (.int .i64 0):=(hl.bx.cell 13).trans rfl
   have H6:=Hid.mk' hl
   clear hl hr hCk hdr;obtain⟨z0,z1,z2,z3,z4⟩:=Blk.four' KX6.out
   go_wp2_with fail;refine(j40 hG H6.out 1 xn.text).mono ?_
   rintro e w7 ⟨rfl,hb7⟩
   have H7:=Hid.mk' (H6.out.later hb7)
   have T7:=Hid.mk' (T6.out.trans (Tw.of hb7))
   have K57:=Hid.mk' (K56.out.later hb7)
   have KX7:=Hid.mk' (KX6.out.later hb7)
   have O7:=Hid.mk' (O6.out.later hb7)
   obtain⟨dk,hdk⟩:∃k,Hid (Dg G 1 xn.text=k):=⟨_,rfl⟩
   rw[show dkL (j19 G.A G.B G.C 1) xn.text=dk from hdk.out]
   rw[hdk.out] at hCk2
   clear hb7 z0 z1 z2 z3 z4 y13 H6 T6 K56 KX6 O6 hdk;obtain⟨z0,z1,z2,z3,z4⟩:=Blk.four' KX7.out
   obtain⟨u0,u1,u2,u3',u4⟩:=Blk.four' K57.out
   obtain⟨fb2,fo2,hs9,_,_,p00⟩:=j05 HK.out HXI.out
   have u3:=u3'
   rw[hs9] at u3
   have v0:=(H7.out.bl.cell (p:=⟨fb2,fo2+m,none⟩) (by have e:=HSF.out;rw[hs9] at e;cases e;exact hfb)).trans p00
   clear u3' p00 hs9;by_cases h0:dk=0
   ·
    subst h0
    have hEr:Hid (j18 (Dg G) G.T (ckE (Dg G) G.T (G.T.tops.take tp) md env f) n.kids [] K=.error (3,(x:Int))):=by rw[hCk2.out];rfl
    go_wp2_with fail;refine(j0f hG H7.out 3 (x:Int) (by omega)).mono ?_
    rintro e w8 ⟨rfl,hd,ht⟩
    go_wp2_with fail;refine bq (.tuple #[]) ?_
    exact j2z.bad hEr.out hd (T7.out.trans ht)
   have t0:(dk ==0)=false:=by simp[h0]
   rw[if_neg h0] at hCk2
   go_wp2_with fail;refine(j3t G.p G.kb so co L xn.text _ (OS.strs2 O7.out rfl hpB hkB) (by omega)).mono ?_
   rintro e w8 ⟨rfl,hq⟩
   rw[hq]
   clear hq w8;cases hi:inL xn.text L
   ·
    rw[hi] at hCk2
    by_cases hkk2:dk=k
    ·
     have tk:(dk != k)=false:=by simp[hkk2]
     have hCk3:Hid (j18 (Dg G) G.T (ckE (Dg G) G.T (G.T.tops.take tp) md env f) n.kids [] K=j18 (Dg G) G.T (ckE (Dg G) G.T (G.T.tops.take tp) md env f) (n.kids.drop (m+1)) (L++[xn.text]) K1):=by rw[hCk2.out,if_neg (by simp),if_pos hkk2];rfl
     have hl1:Hid ((L++[xn.text]).length=m+1):=by show _=_;simp[hLm.out]
     obtain⟨L2,hL2⟩:∃L2,Hid (L++[xn.text]=L2):=⟨_,rfl⟩
     rw[hL2.out] at hCk3 hl1
     have b8:Below w7.heap.size w7 (w7.alloc (.cells #[.string xn.text] 9)):=j00 (Below.refl _ _) _
     have hR8:Hid (Rs (w7.alloc (.cells #[.string xn.text] 9)) (w.heap.size+1) (w7.alloc (.cells #[.string xn.text] 9)) ([]++rS (.slice so L.length co) L :: [])):=Rs.start (Owns.one (r:=rS (.slice so L.length co) L) (O7.out.later b8)) (by have:=K57.out.lt;have:=b8.size;omega)
     have H8:=Hid.mk' (H7.out.later b8)
     have K58:=Hid.mk' (K57.out.later b8)
     have T8:=Hid.mk' (T7.out.trans (Tw.of b8))
     clear b8 H7 K57 T7 O7 KX7 hCk2 hkk2;go_wp2_with (at_builtin;refine j37 [] [] hR8.out rfl _ _ 53 16 rfl Tryz.underlying53 hiS hzS hsS hbS rfl (Nat.succ_pos _) rfl (some ⟨w7.heap.size,0,none⟩) 1 1 [.string xn.text] rfl rfl (srcB (Blk.new w7 #[.string xn.text] 9)) (λu hu=>by simp at hu;subst hu;rfl) (by show _<=_;simp[rS,rI];unfold maxLen;omega) (by simp[rS,rI];omega) L2.length (by rw[<-hL2.out];simp[rS]) (λv=>rS v L2) (λ_=>by rw[<-hL2.out];simp[rS]) ?_)
     intro s8 c8 w8 hR9
     have O9:Hid (OS w8 (w.heap.size+1) (.slice s8 L2.length c8) L2):=j7g (hR9.at [] [])
     have H9:Hid (Lv G w8 top env md last K1 sn cn sk ck sw cw):=H8.out.low OL.out hR9.l hpB hkB (by omega)
     have K59:Hid (Blk w8 w.heap.size #[.int .i64 n.kind,.string n.text,.int .i64 n.num,.slice s9 n.kids.length c9] 73):=hR9.blk K58.out (Nat.lt_succ_self _)
     have T9:Hid (Tw G.p G.kb w w8):=T8.out.low hR9.l (Nat.le_succ _)
     clear hR9 hR8 H8 K58 T8 hL2;go_wp2_with fail;go_roundw
     case rel=>exact⟨m+1,s8,c8,L2,K1,by omega,by go_num,rfl,hl1,hCk3,O9,H9,K59,T9⟩
     case measure=>simp[intOf];omega
    have tk:(dk != k)=true:=by simp[hkk2]
    have hEr:Hid (j18 (Dg G) G.T (ckE (Dg G) G.T (G.T.tops.take tp) md env f) n.kids [] K=.error (4,(x:Int))):=by rw[hCk2.out,if_neg (by simp),if_neg hkk2];rfl
    go_wp2_with fail;refine(j0f hG H7.out 4 (x:Int) (by omega)).mono ?_
    rintro e w8 ⟨rfl,hd,ht⟩
    go_wp2_with fail;refine bq (.tuple #[]) ?_
    exact j2z.bad hEr.out hd (T7.out.trans ht)
   rw[hi] at hCk2
   have hEr:Hid (j18 (Dg G) G.T (ckE (Dg G) G.T (G.T.tops.take tp) md env f) n.kids [] K=.error (2,(x:Int))):=by rw[hCk2.out];rfl
   go_wp2_with fail;refine(j0f hG H7.out 2 (x:Int) (by omega)).mono ?_
   rintro e w8 ⟨rfl,hd,ht⟩
   go_wp2_with fail;refine bq (.tuple #[]) ?_
   exact j2z.bad hEr.out hd (T7.out.trans ht)
 have hmm:m=n.kids.length:=by omega
 subst hmm
 have t2:decide ((n.kids.length:Int)<(n.kids.length:Int))=false:=by simp
 have z3:=z3'
 have hEr:Hid (j18 (Dg G) G.T (ckE (Dg G) G.T (G.T.tops.take tp) md env f) n.kids [] K=.ok Km):=by rw[hCk.out,List.drop_length];rfl
 go_wp2_with fail;refine bq (.tuple #[]) ?_
 exact j2z.good hEr.out HL.out HT.out
end
end
section
open Go.RowKit
section
variable {G:Gd} {w w':World} {top:Int} {env:Env} {md:Md} {last:Int} {K:KM} {sn sk sw:Option Addr} {cn ck cw:Nat}
theorem jij (hG:G.Ok) {tp f:Nat} (hE:ExpS G top tp env md last f) (hw:md.wth.length<=1048576) {i:Nat} {n:Nd} (hv:VN G.T i n) {a:Nat} {an:Nd} (hx0:n.kids[0]?=some (a:Int)) (hva:VN G.T a an) (hae:isE an.kind) (haf:a<f) (hk12:n.kind=12) (henv:env.length+1<=1048576) (h:Lv G w top env md last K sn cn sk ck sw cw) :
  Calls Tryz.prog 89 #[.pointer (some ⟨G.p,0,none⟩),.int .i64 (i:Int)] w λe w'=>j3b G w top md last (ckLt (Dg G) G.T (G.T.tops.take tp) md env f K (i:Int)) e w':=by
 have HB:Hid (ckLt (Dg G) G.T (G.T.tops.take tp) md env f K (i:Int)=match ckE (Dg G) G.T (G.T.tops.take tp) md env f K (a:Int) with | .error e=> .error e | .ok (k,K1)=>if (look env n.text).isSome=true then .error (2,(i:Int)) else .ok (env++[(n.text,k)],K1)):=by
  show _=_
  unfold ckLt
  rw[j0j hv.at_,show kid n 0=(a:Int) by simp[kid,hx0]]
  all_goals rfl
 obtain⟨nb,no,s9,c9,en1,hnb,e0,e1,e2,e3,ekids⟩:=hG.node hv.at_
 obtain⟨fb,fo,rfl,_,hfb,pp0⟩:=j05 ekids hx0
 have hiN:i<G.T.nodes.length:=(List.getElem?_eq_some_iff.1 hv.at_).1
 have hnl:G.T.nodes.length<=1048576:=hG.k.1.1
 have hkl:0<n.kids.length:=(List.getElem?_eq_some_iff.1 hx0).1
 have x3:w.cell? ⟨G.p,3,none⟩=some (.slice (some ⟨nb,no,none⟩) G.T.nodes.length G.d1):=by rw[<-en1];exact(h.bx.cell 3).trans rfl
 have q0:=(h.bl.cell (p:=⟨nb,no+i*4,none⟩) hnb).trans e0
 have q1:=(h.bl.cell (p:=⟨nb,no+i*4+1,none⟩) hnb).trans e1
 have q2:=(h.bl.cell (p:=⟨nb,no+i*4+2,none⟩) hnb).trans e2
 have q3:=(h.bl.cell (p:=⟨nb,no+i*4+3,none⟩) hnb).trans e3
 rw[Nat.add_zero] at pp0
 have iI:(i:Int)<(G.T.nodes.length:Int):=by omega
 have l0I:(0:Int)<(n.kids.length:Int):=by omega
 have bz:Hid (Below w.heap.size w (w.alloc (.cells #[.int .i64 n.kind,.string n.text,.int .i64 n.num,.slice (some ⟨fb,fo,none⟩) n.kids.length c9] 73))):=j00 (Below.refl _ _) _
 have kk5:=Blk.new w #[.int .i64 n.kind,.string n.text,.int .i64 n.num,.slice (some ⟨fb,fo,none⟩) n.kids.length c9] 73
 have H1:Hid (Lv G (w.alloc (.cells #[.int .i64 n.kind,.string n.text,.int .i64 n.num,.slice (some ⟨fb,fo,none⟩) n.kids.length c9] 73)) top env md last K sn cn sk ck sw cw):=h.later bz.out
 have hk5p:¬w.heap.size=G.p:=by have:=h.bx.lt;omega
 have hk5k:¬w.heap.size=G.kb:=by have:=h.kl;omega
 have y4:(w.alloc (.cells #[.int .i64 n.kind,.string n.text,.int .i64 n.num,.slice (some ⟨fb,fo,none⟩) n.kids.length c9] 73)).cell? ⟨fb,fo,none⟩=some (.int .i64 (a:Int)):=(H1.out.bl.cell (p:=⟨fb,fo,none⟩) hfb).trans pp0
 have hr0:=hE a an K _ sn cn sk ck sw cw haf hva hae H1.out
 have t12:(n.kind ==12)=true:=by simp[hk12]
 clear h e0 e1 e2 e3 ekids hv hE hva hx0 pp0 hk12;obtain⟨z0,z1,z2,z3,z4⟩:=Blk.four' kk5
 go_enter Tryz.func89,Tryz.ntmps89
 go_wp2_with fail;refine hr0.mono ?_
 rintro e w2 hS2
 have T2:Hid (Tw G.p G.kb w w2):=(Tw.of bz.out).trans hS2.2
 have K52:Hid (Blk w2 w.heap.size #[.int .i64 n.kind,.string n.text,.int .i64 n.num,.slice (some ⟨fb,fo,none⟩) n.kids.length c9] 73):=kk5.tw hS2.2 hk5p hk5k
 clear hr0 z0 z1 z2 z3 z4 x3 y4 q0 q1 q2 q3 kk5 bz H1;cases hr:ckE (Dg G) G.T (G.T.tops.take tp) md env f K (a:Int) with
 | error q =>
  obtain⟨c,nq⟩:=q
  rw[hr] at hS2
  obtain⟨⟨rfl,hd⟩,_⟩:=hS2
  have hEr:Hid (ckLt (Dg G) G.T (G.T.tops.take tp) md env f K (i:Int)=.error (c,nq)):=by rw[HB.out,hr];rfl
  have y13:=hd.c13
  have tc:(c != 0)=true:=by simp[hd.ne]
  have HD:Hid (Dd G w2 c nq):=hd
  clear hd;go_wp2_with fail;refine bq (.tuple #[]) ?_
  exact j3b.bad hEr.out HD.out T2.out
 | ok q =>
  obtain⟨k,K1⟩:=q
  rw[hr] at hS2
  obtain⟨⟨rfl,hl⟩,_⟩:=hS2
  have y13:w2.cell? ⟨G.p,13,none⟩=some (.int .i64 0):=(hl.bx.cell 13).trans rfl
  have H2:Hid (Lv G w2 top env md last K1 sn cn sk ck sw cw):=hl
  have HB2:Hid (ckLt (Dg G) G.T (G.T.tops.take tp) md env f K (i:Int)=if (look env n.text).isSome=true then .error (2,(i:Int)) else .ok (env++[(n.text,k)],K1)):=by rw[HB.out,hr];rfl
  clear hl HB hr;obtain⟨z0,z1,z2,z3,z4⟩:=Blk.four' K52.out
  go_wp2_with fail;refine(j6b hG H2.out n.text (by omega)).mono ?_
  rintro e w3 ⟨⟨r,rfl,hr⟩,hq⟩
  rw[hq]
  clear hq w3;rcases hr with ⟨rfl,hlk⟩|⟨jj,kk,rfl,hat,hlk⟩
  ·
   have hEr:Hid (ckLt (Dg G) G.T (G.T.tops.take tp) md env f K (i:Int)=.ok (env++[(n.text,k)],K1)):=by rw[HB2.out,hlk];rfl
   clear hlk HB2;go_wp2_with fail;clear z0 z1 z2 z3 z4 y13;have hp2:G.p<w2.heap.size:=H2.out.bx.lt
   have hk2:G.kb<w2.heap.size:=H2.out.kl
   have b0:w.heap.size<w2.heap.size:=K52.out.lt
   obtain⟨iS,hiS,hzS,hsS,hbS⟩:=info_parts Tryz.infoS
   obtain⟨iI',hiI,hzI,hsI,hbI⟩:=info_parts Tryz.infoI
   have hR:=Hid.mk' (Rs.nil w2)
   refine wp_region_held_drew (S:=(λw'=>Blk w' w.heap.size #[.int .i64 n.kind,.string n.text,.int .i64 n.num,.slice (some ⟨fb,fo,none⟩) n.kids.length c9] 73)) (by kernel_rfl) ?_ (λhHeld=>?_)
   ·
    exact hR.out.blk K52.out b0
   have hR:=Hid.mk' hR.out.drew
   refine wpr 0 38 ?_;simp only[zs];refine wpr 2 40 ?_;simp only[zs];refine wpr 3 41 ?_;simp only[zs];refine wpr 4 42 ?_;simp only[zs];refine wpr 7 45 ?_;simp only[zs];refine wpq (v:=?_) 8 46 rfl rfl ?_ ?_
   rotate_left 1
   ·
    intro w hSw;(try dsimp only at hSw);obtain⟨z0,z1,z2,z3,z4⟩:=Blk.four' hSw;go_simp<;>with_reducible rfl
   simp only[zs];refine j76 λGd a0 hDg ha=>?_
   have st0:∀(ka:Nat) (sa:Option Addr) (ca kc:Nat) (sd:Option Addr) (cd:Nat) (g0:World),Hid (Rs w2 w2.heap.size g0 [rS (.slice sd (env.length+1) cd) ((env.map (·.1))++[n.text]),rB kc 9 [.string n.text]])->(λw'=>Blk w' w.heap.size #[.int .i64 n.kind,.string n.text,.int .i64 n.num,.slice (some ⟨fb,fo,none⟩) n.kids.length c9] 73) g0->Gd 3 #[true,true,true,true,true,true,true,true,true,true,true,false,false,false] (((((a0.put (some 39) (.slice (some ⟨ka,0,none⟩) 0 0)).put (some 43) (.slice sn env.length cn)).put (some 44) (.slice sa env.length ca)).put (some 47) (.slice (some ⟨kc,0,none⟩) 1 1)).put (some 48) (.slice sd (env.length+1) cd)) g0:=by
    intro ka sa ca kc sd cd g0 hR hHeld
    rw[hDg,ha]
    simp only[zs];refine wpr 11 49 ?_;simp only[zs];refine wpr 12 50 ?_;simp only[zs];refine wpy 13 λK hK=>?_
    have hbx:=hR.out.blk H2.out.bx hp2
    have x6:_=some (Value.slice sn env.length cn):=(hbx.cell 6).trans rfl
    have y6:=hbx.frozen 6
    clear hbx;go_simp;clear x6 y6;refine hK.out _ _ ?_ (λhHeld=>?_)
    ·
     exact Blk.tw (hR.out.blk K52.out b0) (Tw.set G.p G.kb _ _ _) hk5p hk5k
    clear hK K;try simp only[zs]
    refine wpAnyH_done (by kernel_rfl) ?_ _
    have HZ:=Hid.mk' ((H2.out.z.later hR.out.l).set6 hG (.slice sd (env.length+1) cd))
    have NK:=Hid.mk' ((H2.out.k.later hR.out.l).two (Tw.set G.p G.kb _ 6 (.slice sd (env.length+1) cd)))
    have WL:=Hid.mk' ((H2.out.wl.later hR.out.l).two (Tw.set G.p G.kb _ 6 (.slice sd (env.length+1) cd)))
    have K58:=Hid.mk' (Blk.tw (hR.out.blk K52.out b0) (Tw.set G.p G.kb _ 6 (.slice sd (env.length+1) cd)) hk5p hk5k)
    have ON:=Hid.mk' (OS.tw (j7g (hR.out.at [] _)) (Tw.set G.p G.kb _ 6 (.slice sd (env.length+1) cd)) hp2 hk2)
    have T8:=Hid.mk' (T2.out.trans ((Tw.of hR.out.l).trans (Tw.set G.p G.kb _ 6 (.slice sd (env.length+1) cd))))
    clear hR hHeld H2 K52 T2;generalize hX8:World.setCell g0 ⟨G.p,6,none⟩ (.slice sd (env.length+1) cd)=X8 at HZ NK WL K58 ON T8 ⊢
    clear hX8;have hp1:=hp2
    have hk1:=hk2
    clear hp2 hk2 b0;have hp2:G.p<X8.heap.size:=HZ.out.bx.lt
    have hk2:G.kb<X8.heap.size:=HZ.out.kl
    have b0:w.heap.size<X8.heap.size:=K58.out.lt
    have hR3:Hid (Rs X8 X8.heap.size (X8.alloc (.cells #[] 3)) ([]++rI (.slice (some ⟨X8.heap.size,0,none⟩) 0 0) [] :: [])):=Hid.mk' ((Rs.nil X8).ins [] [] (j00 (Below.refl _ _) _) (jdt X8))
    have x7:(X8.alloc (.cells #[] 3)).cell? ⟨G.p,7,none⟩=some (.slice sk env.length ck):=((HZ.out.bx.later hR3.out.l).cell 7).trans rfl
    go_wp2_with (at_builtin;refine j37 [] [] hR3.out rfl _ _ 26 8 rfl Tryz.underlying26 hiI hzI hsI hbI rfl (Nat.succ_pos _) rfl sk env.length ck ((env.map (·.2)).map (Value.int .i64)) rfl (by simp[rS,rI]) (srcI (by simp) (NK.out.later hR3.out.l)) (j4r _) (by show _<=_;simp[rS,rI];unfold maxLen;omega) (by simp[rS,rI];omega) env.length (by simp[rS,rI]) (λv=>rI v (env.map (·.2))) (λ_=>by simp[rS,rI]) ?_)
    intro s3 c3 w3 hR4'
    have hR5:Hid (Rs X8 X8.heap.size (w3.alloc (.cells #[.int .i64 k] 3)) ([]++rI (.slice s3 env.length c3) (env.map (·.2)) :: [])):=Hid.mk' (hR4'.later (j00 (Below.refl _ _) _))
    clear hR4' hR3 x7;go_wp2_with (at_builtin;refine j37 [] [] hR5.out rfl _ _ 26 8 rfl Tryz.underlying26 hiI hzI hsI hbI rfl (Nat.succ_pos _) rfl (some ⟨w3.heap.size,0,none⟩) 1 1 [.int .i64 k] rfl (by simp[rS,rI]) (srcB (Blk.new w3 #[.int .i64 k] 3)) (λu hu=>by simp at hu;subst hu;rfl) (by show _<=_;simp[rS,rI];unfold maxLen;omega) (by simp[rS,rI];omega) (env.length+1) (by simp[rS,rI]) (λv=>rI v ((env.map (·.2))++[k])) (λ_=>by simp[rS,rI]) ?_)
    intro s6 c6 w6 hR6'
    have hR:=Hid.mk' hR6'
    clear hR6' hR5;have hbx:=HZ.out.bx.later hR.out.l
    have x7:_=some (Value.slice sk env.length ck):=(hbx.cell 7).trans rfl
    have y7:=hbx.frozen 7
    clear hbx;have HZ9:=(HZ.out.later hR.out.l).set7 hG (.slice s6 (env.length+1) c6)
    have NN:=((ON.out.later hR.out.l).tw (Tw.set G.p G.kb _ 7 (.slice s6 (env.length+1) c6)) hp1 hk1).strs2 (by simp) hp1 hk1
    have NKK:=(OI.tw (jcn (hR.out.at [] _)) (Tw.set G.p G.kb _ 7 (.slice s6 (env.length+1) c6)) hp2 hk2).nums2 (by simp) hp2 hk2
    have WLL:=(WL.out.later hR.out.l).two (Tw.set G.p G.kb _ 7 (.slice s6 (env.length+1) c6))
    have TTH:=Hid.mk' (T8.out.trans ((Tw.of hR.out.l).trans (Tw.set G.p G.kb _ 7 (.slice s6 (env.length+1) c6))))
    have HLV:=Hid.mk' (HZ9.lv (env:=env++[(n.text,k)]) (by simp) (by simpa using NN) (by simpa using NKK) WLL)
    clear HZ9 NN NKK WLL hR HZ NK WL K58 ON T8;go_wp2_with fail;refine bq (.tuple #[]) ?_
    exact j3b.good hEr.out ⟨_,_,_,_,_,_,HLV.out⟩ TTH.out
   have st1:∀(ka:Nat) (sa:Option Addr) (ca kc:Nat) (g0:World),Hid (Rs w2 w2.heap.size g0 [rS (.slice sa env.length ca) (env.map (·.1)),rB kc 9 [.string n.text]])->(λw'=>Blk w' w.heap.size #[.int .i64 n.kind,.string n.text,.int .i64 n.num,.slice (some ⟨fb,fo,none⟩) n.kids.length c9] 73) g0->Gd 4 #[true,true,true,true,true,true,true,true,true,true,false,false,false,false] ((((a0.put (some 39) (.slice (some ⟨ka,0,none⟩) 0 0)).put (some 43) (.slice sn env.length cn)).put (some 44) (.slice sa env.length ca)).put (some 47) (.slice (some ⟨kc,0,none⟩) 1 1)) g0:=by
    intro ka sa ca kc g0 hR hHeld
    rw[hDg,ha]
    simp only[zs];refine wpy 10 λK hK=>?_
    refine j3k [] [rB kc 9 [.string n.text]] hR.out rfl (d0:=(some 48)) rfl (.tmp 44) (.tmp 47) 53 16 rfl Tryz.underlying53 hiS hzS hsS hbS rfl (Nat.succ_pos _) rfl (some ⟨kc,0,none⟩) 1 1 [.string n.text] rfl rfl (srcB (hR.out.box [rS (.slice sa env.length ca) (env.map (·.1))] [])) (λu hu=>by simp at hu;subst hu;rfl) (by show _<=_;simp[rS,rI];unfold maxLen;omega) (by simp[rS,rI];omega) (env.length+1) (by simp[rS,rI]) (λv=>rS v ((env.map (·.1))++[n.text])) (λ_=>by simp[rS,rI]) ?_
    intro sd cd g1 hR'
    have hR:Hid (Rs w2 w2.heap.size g1 [rS (.slice sd (env.length+1) cd) ((env.map (·.1))++[n.text]),rB kc 9 [.string n.text]]):=hR'
    clear hR';refine hK.out _ _ ?_ (λhHeld=>?_)
    ·
     exact hR.out.blk K52.out b0
    clear hK K;exact j20 hDg (st0 ka sa ca kc sd cd _ hR hHeld) rfl (by kernel_rfl) (by rw[ha]<;>rfl)
   have st2:∀(ka:Nat) (sa:Option Addr) (ca:Nat) (g0:World),Hid (Rs w2 w2.heap.size g0 [rS (.slice sa env.length ca) (env.map (·.1))])->(λw'=>Blk w' w.heap.size #[.int .i64 n.kind,.string n.text,.int .i64 n.num,.slice (some ⟨fb,fo,none⟩) n.kids.length c9] 73) g0->Gd 5 #[true,true,true,true,true,true,true,true,true,false,false,false,false,false] (((a0.put (some 39) (.slice (some ⟨ka,0,none⟩) 0 0)).put (some 43) (.slice sn env.length cn)).put (some 44) (.slice sa env.length ca)) g0:=by
    intro ka sa ca g0 hR hHeld
    rw[hDg,ha]
    simp only[zs];refine wpy 9 λK hK=>?_
    refine j54 [rS (.slice sa env.length ca) (env.map (·.1))] [] hR.out rfl (d0:=(some 47)) rfl 53 9 Tryz.underlying53 hiS hzS hsS (.tmp 46) rfl (.string n.text) rfl rfl ?_
    intro kc g2 hR'
    have hR:Hid (Rs w2 w2.heap.size g2 [rS (.slice sa env.length ca) (env.map (·.1)),rB kc 9 [.string n.text]]):=hR'
    clear hR';refine hK.out _ _ ?_ (λhHeld=>?_)
    ·
     exact hR.out.blk K52.out b0
    clear hK K;exact j20 hDg (st1 ka sa ca kc _ hR hHeld) rfl (by kernel_rfl) (by rw[ha]<;>rfl)
   have st3:∀(ka kc:Nat) (g0:World),Hid (Rs w2 w2.heap.size g0 [rS (.slice (some ⟨ka,0,none⟩) 0 0) [],rB kc 9 [.string n.text]])->(λw'=>Blk w' w.heap.size #[.int .i64 n.kind,.string n.text,.int .i64 n.num,.slice (some ⟨fb,fo,none⟩) n.kids.length c9] 73) g0->Gd 5 #[true,true,true,true,true,true,false,true,true,true,false,false,false,false] (((a0.put (some 39) (.slice (some ⟨ka,0,none⟩) 0 0)).put (some 43) (.slice sn env.length cn)).put (some 47) (.slice (some ⟨kc,0,none⟩) 1 1)) g0:=by
    intro ka kc g0 hR hHeld
    rw[hDg,ha]
    simp only[zs];refine wpy 6 λK hK=>?_
    refine j3k [] [rB kc 9 [.string n.text]] hR.out rfl (d0:=(some 44)) rfl (.tmp 39) (.tmp 43) 53 16 rfl Tryz.underlying53 hiS hzS hsS hbS rfl (Nat.succ_pos _) rfl sn env.length cn ((env.map (·.1)).map Value.string) rfl (by simp[rS,rI]) (srcS (by simp) (H2.out.n.later hR.out.l)) (j43 _) (by show _<=_;simp[rS,rI];unfold maxLen;omega) (by simp[rS,rI];omega) env.length (by simp[rS,rI]) (λv=>rS v (env.map (·.1))) (λ_=>by simp[rS,rI]) ?_
    intro sa ca g3 hR'
    have hR:Hid (Rs w2 w2.heap.size g3 [rS (.slice sa env.length ca) (env.map (·.1)),rB kc 9 [.string n.text]]):=hR'
    clear hR';refine hK.out _ _ ?_ (λhHeld=>?_)
    ·
     exact hR.out.blk K52.out b0
    clear hK K;exact j20 hDg (st1 ka sa ca kc _ hR hHeld) rfl (by kernel_rfl) (by rw[ha]<;>rfl)
   have st4:∀(ka:Nat) (g0:World),Hid (Rs w2 w2.heap.size g0 [rS (.slice (some ⟨ka,0,none⟩) 0 0) []])->(λw'=>Blk w' w.heap.size #[.int .i64 n.kind,.string n.text,.int .i64 n.num,.slice (some ⟨fb,fo,none⟩) n.kids.length c9] 73) g0->Gd 6 #[true,true,true,true,true,true,false,true,true,false,false,false,false,false] ((a0.put (some 39) (.slice (some ⟨ka,0,none⟩) 0 0)).put (some 43) (.slice sn env.length cn)) g0:=by
    intro ka g0 hR hHeld
    rw[hDg,ha]
    simp only[zs];refine wpAnyH_ready (rs:=[6,9]) (by kernel_rfl) (by simp) ?_
    refine AllReadyH.cons rfl (λK hK=>?_) ?_
    ·
     skip
     refine j3k [] [] hR.out rfl (d0:=(some 44)) rfl (.tmp 39) (.tmp 43) 53 16 rfl Tryz.underlying53 hiS hzS hsS hbS rfl (Nat.succ_pos _) rfl sn env.length cn ((env.map (·.1)).map Value.string) rfl (by simp[rS,rI]) (srcS (by simp) (H2.out.n.later hR.out.l)) (j43 _) (by show _<=_;simp[rS,rI];unfold maxLen;omega) (by simp[rS,rI];omega) env.length (by simp[rS,rI]) (λv=>rS v (env.map (·.1))) (λ_=>by simp[rS,rI]) ?_
     intro sa ca g4 hR'
     have hR:Hid (Rs w2 w2.heap.size g4 [rS (.slice sa env.length ca) (env.map (·.1))]):=hR'
     clear hR';refine hK.out _ _ ?_ (λhHeld=>?_)
     ·
      exact hR.out.blk K52.out b0
     clear hK K;exact j20 hDg (st2 ka sa ca _ hR hHeld) rfl (by kernel_rfl) (by rw[ha]<;>rfl)
    refine AllReadyH.cons rfl (λK hK=>?_) AllReadyH.nil
    refine j54 [rS (.slice (some ⟨ka,0,none⟩) 0 0) []] [] hR.out rfl (d0:=(some 47)) rfl 53 9 Tryz.underlying53 hiS hzS hsS (.tmp 46) rfl (.string n.text) rfl rfl ?_
    intro kc g5 hR'
    have hR:Hid (Rs w2 w2.heap.size g5 [rS (.slice (some ⟨ka,0,none⟩) 0 0) [],rB kc 9 [.string n.text]]):=hR'
    clear hR';refine hK.out _ _ ?_ (λhHeld=>?_)
    ·
     exact hR.out.blk K52.out b0
    clear hK K;exact j20 hDg (st3 ka kc _ hR hHeld) rfl (by kernel_rfl) (by rw[ha]<;>rfl)
   have st5:∀(ka kc:Nat) (g0:World),Hid (Rs w2 w2.heap.size g0 [rS (.slice (some ⟨ka,0,none⟩) 0 0) [],rB kc 9 [.string n.text]])->(λw'=>Blk w' w.heap.size #[.int .i64 n.kind,.string n.text,.int .i64 n.num,.slice (some ⟨fb,fo,none⟩) n.kids.length c9] 73) g0->Gd 6 #[true,true,true,true,true,false,false,true,true,true,false,false,false,false] ((a0.put (some 39) (.slice (some ⟨ka,0,none⟩) 0 0)).put (some 47) (.slice (some ⟨kc,0,none⟩) 1 1)) g0:=by
    intro ka kc g0 hR hHeld
    rw[hDg,ha]
    simp only[zs];refine wpy 5 λK hK=>?_
    have hbx:=hR.out.blk H2.out.bx hp2
    have x6:_=some (Value.slice sn env.length cn):=(hbx.cell 6).trans rfl
    clear hbx;go_simp;clear x6;refine hK.out _ _ ?_ (λhHeld=>?_)
    ·
     exact hR.out.blk K52.out b0
    clear hK K;exact j20 hDg (st3 ka kc _ hR hHeld) rfl (by kernel_rfl) (by rw[ha]<;>rfl)
   have st6:∀(ka:Nat) (g0:World),Hid (Rs w2 w2.heap.size g0 [rS (.slice (some ⟨ka,0,none⟩) 0 0) []])->(λw'=>Blk w' w.heap.size #[.int .i64 n.kind,.string n.text,.int .i64 n.num,.slice (some ⟨fb,fo,none⟩) n.kids.length c9] 73) g0->Gd 7 #[true,true,true,true,true,false,false,true,true,false,false,false,false,false] (a0.put (some 39) (.slice (some ⟨ka,0,none⟩) 0 0)) g0:=by
    intro ka g0 hR hHeld
    rw[hDg,ha]
    simp only[zs];refine wpAnyH_ready (rs:=[5,9]) (by kernel_rfl) (by simp) ?_
    refine AllReadyH.cons rfl (λK hK=>?_) ?_
    ·
     skip
     have hbx:=hR.out.blk H2.out.bx hp2
     have x6:_=some (Value.slice sn env.length cn):=(hbx.cell 6).trans rfl
     clear hbx;go_simp;clear x6;refine hK.out _ _ ?_ (λhHeld=>?_)
     ·
      exact hR.out.blk K52.out b0
     clear hK K;exact j20 hDg (st4 ka _ hR hHeld) rfl (by kernel_rfl) (by rw[ha]<;>rfl)
    refine AllReadyH.cons rfl (λK hK=>?_) AllReadyH.nil
    refine j54 [rS (.slice (some ⟨ka,0,none⟩) 0 0) []] [] hR.out rfl (d0:=(some 47)) rfl 53 9 Tryz.underlying53 hiS hzS hsS (.tmp 46) rfl (.string n.text) rfl rfl ?_
    intro kc g8 hR'
    have hR:Hid (Rs w2 w2.heap.size g8 [rS (.slice (some ⟨ka,0,none⟩) 0 0) [],rB kc 9 [.string n.text]]):=hR'
    clear hR';refine hK.out _ _ ?_ (λhHeld=>?_)
    ·
     exact hR.out.blk K52.out b0
    clear hK K;exact j20 hDg (st5 ka kc _ hR hHeld) rfl (by kernel_rfl) (by rw[ha]<;>rfl)
   have st7:∀(kc:Nat) (g0:World),Hid (Rs w2 w2.heap.size g0 [rB kc 9 [.string n.text]])->(λw'=>Blk w' w.heap.size #[.int .i64 n.kind,.string n.text,.int .i64 n.num,.slice (some ⟨fb,fo,none⟩) n.kids.length c9] 73) g0->Gd 6 #[true,false,true,true,true,true,false,true,true,true,false,false,false,false] ((a0.put (some 43) (.slice sn env.length cn)).put (some 47) (.slice (some ⟨kc,0,none⟩) 1 1)) g0:=by
    intro kc g0 hR hHeld
    rw[hDg,ha]
    simp only[zs];refine wpy 1 λK hK=>?_
    refine j2s [] [rB kc 9 [.string n.text]] hR.out rfl (d0:=(some 39)) rfl 53 9 Tryz.underlying53 hiS rfl (λv=>rS v []) 1 (λ_=>rfl) ?_
    intro ka g9 hR'
    have hR:Hid (Rs w2 w2.heap.size g9 [rS (.slice (some ⟨ka,0,none⟩) 0 0) [],rB kc 9 [.string n.text]]):=hR'
    clear hR';refine hK.out _ _ ?_ (λhHeld=>?_)
    ·
     exact hR.out.blk K52.out b0
    clear hK K;exact j20 hDg (st3 ka kc _ hR hHeld) rfl (by kernel_rfl) (by rw[ha]<;>rfl)
   have st8:∀g0:World,Hid (Rs w2 w2.heap.size g0 [])->(λw'=>Blk w' w.heap.size #[.int .i64 n.kind,.string n.text,.int .i64 n.num,.slice (some ⟨fb,fo,none⟩) n.kids.length c9] 73) g0->Gd 7 #[true,false,true,true,true,true,false,true,true,false,false,false,false,false] (a0.put (some 43) (.slice sn env.length cn)) g0:=by
    intro g0 hR hHeld
    rw[hDg,ha]
    simp only[zs];refine wpAnyH_ready (rs:=[1,9]) (by kernel_rfl) (by simp) ?_
    refine AllReadyH.cons rfl (λK hK=>?_) ?_
    ·
     skip
     refine j2s [] [] hR.out rfl (d0:=(some 39)) rfl 53 9 Tryz.underlying53 hiS rfl (λv=>rS v []) 1 (λ_=>rfl) ?_
     intro ka g10 hR'
     have hR:Hid (Rs w2 w2.heap.size g10 [rS (.slice (some ⟨ka,0,none⟩) 0 0) []]):=hR'
     clear hR';refine hK.out _ _ ?_ (λhHeld=>?_)
     ·
      exact hR.out.blk K52.out b0
     clear hK K;exact j20 hDg (st4 ka _ hR hHeld) rfl (by kernel_rfl) (by rw[ha]<;>rfl)
    refine AllReadyH.cons rfl (λK hK=>?_) AllReadyH.nil
    refine j54 [] [] hR.out rfl (d0:=(some 47)) rfl 53 9 Tryz.underlying53 hiS hzS hsS (.tmp 46) rfl (.string n.text) rfl rfl ?_
    intro kc g11 hR'
    have hR:Hid (Rs w2 w2.heap.size g11 [rB kc 9 [.string n.text]]):=hR'
    clear hR';refine hK.out _ _ ?_ (λhHeld=>?_)
    ·
     exact hR.out.blk K52.out b0
    clear hK K;exact j20 hDg (st7 kc _ hR hHeld) rfl (by kernel_rfl) (by rw[ha]<;>rfl)
   have st9:∀(kc:Nat) (g0:World),Hid (Rs w2 w2.heap.size g0 [rB kc 9 [.string n.text]])->(λw'=>Blk w' w.heap.size #[.int .i64 n.kind,.string n.text,.int .i64 n.num,.slice (some ⟨fb,fo,none⟩) n.kids.length c9] 73) g0->Gd 7 #[true,false,true,true,true,false,false,true,true,true,false,false,false,false] (a0.put (some 47) (.slice (some ⟨kc,0,none⟩) 1 1)) g0:=by
    intro kc g0 hR hHeld
    rw[hDg,ha]
    simp only[zs];refine wpAnyH_ready (rs:=[1,5]) (by kernel_rfl) (by simp) ?_
    refine AllReadyH.cons rfl (λK hK=>?_) ?_
    ·
     skip
     refine j2s [] [rB kc 9 [.string n.text]] hR.out rfl (d0:=(some 39)) rfl 53 9 Tryz.underlying53 hiS rfl (λv=>rS v []) 1 (λ_=>rfl) ?_
     intro ka g12 hR'
     have hR:Hid (Rs w2 w2.heap.size g12 [rS (.slice (some ⟨ka,0,none⟩) 0 0) [],rB kc 9 [.string n.text]]):=hR'
     clear hR';refine hK.out _ _ ?_ (λhHeld=>?_)
     ·
      exact hR.out.blk K52.out b0
     clear hK K;exact j20 hDg (st5 ka kc _ hR hHeld) rfl (by kernel_rfl) (by rw[ha]<;>rfl)
    refine AllReadyH.cons rfl (λK hK=>?_) AllReadyH.nil
    have hbx:=hR.out.blk H2.out.bx hp2
    have x6:_=some (Value.slice sn env.length cn):=(hbx.cell 6).trans rfl
    clear hbx;go_simp;clear x6;refine hK.out _ _ ?_ (λhHeld=>?_)
    ·
     exact hR.out.blk K52.out b0
    clear hK K;exact j20 hDg (st7 kc _ hR hHeld) rfl (by kernel_rfl) (by rw[ha]<;>rfl)
   rw[hDg,ha]
   try simp only[zs]
   refine wpAnyH_ready (rs:=[1,5,9]) (by kernel_rfl) (by simp) ?_
   refine AllReadyH.cons rfl (λK hK=>?_) ?_
   ·
    skip
    refine j2s [] [] hR.out rfl (d0:=(some 39)) rfl 53 9 Tryz.underlying53 hiS rfl (λv=>rS v []) 1 (λ_=>rfl) ?_
    intro ka g14 hR'
    have hR:Hid (Rs w2 w2.heap.size g14 [rS (.slice (some ⟨ka,0,none⟩) 0 0) []]):=hR'
    clear hR';refine hK.out _ _ ?_ (λhHeld=>?_)
    ·
     exact hR.out.blk K52.out b0
    clear hK K;exact j20 hDg (st6 ka _ hR hHeld) rfl (by kernel_rfl) (by rw[ha]<;>rfl)
   refine AllReadyH.cons rfl (λK hK=>?_) ?_
   ·
    skip
    have hbx:=hR.out.blk H2.out.bx hp2
    have x6:_=some (Value.slice sn env.length cn):=(hbx.cell 6).trans rfl
    clear hbx;go_simp;clear x6;refine hK.out _ _ ?_ (λhHeld=>?_)
    ·
     exact hR.out.blk K52.out b0
    clear hK K;exact j20 hDg (st8 _ hR hHeld) rfl (by kernel_rfl) (by rw[ha]<;>rfl)
   refine AllReadyH.cons rfl (λK hK=>?_) AllReadyH.nil
   refine j54 [] [] hR.out rfl (d0:=(some 47)) rfl 53 9 Tryz.underlying53 hiS hzS hsS (.tmp 46) rfl (.string n.text) rfl rfl ?_
   intro kc g16 hR'
   have hR:Hid (Rs w2 w2.heap.size g16 [rB kc 9 [.string n.text]]):=hR'
   clear hR';refine hK.out _ _ ?_ (λhHeld=>?_)
   ·
    exact hR.out.blk K52.out b0
   clear hK K;exact j20 hDg (st9 kc _ hR hHeld) rfl (by kernel_rfl) (by rw[ha]<;>rfl)
  have jn:decide ((jj:Int) ≥ 0)=true:=by simp
  have hEr:Hid (ckLt (Dg G) G.T (G.T.tops.take tp) md env f K (i:Int)=.error (2,(i:Int))):=by rw[HB2.out,hlk];rfl
  clear hlk hat;go_wp2_with fail;refine(j0f hG H2.out 2 (i:Int) (by omega)).mono ?_
  rintro e w4 ⟨rfl,hd,ht⟩
  go_wp2_with fail;refine bq (.tuple #[]) ?_
  exact j3b.bad hEr.out hd (T2.out.trans ht)
end
end
section
open Go.RowKit
section
variable {G:Gd} {w w':World} {top:Int} {env:Env} {md:Md} {last:Int} {K:KM} {sn sk sw:Option Addr} {cn ck cw:Nat}
theorem jcj (hG:G.Ok) (h:Lv G w top env md last K sn cn sk ck sw cw) {i:Nat} {n:Nd} (hn:G.T.nodes[i]?=some n) :
  Calls Tryz.prog 88 #[.pointer (some ⟨G.p,0,none⟩),.int .i64 (i:Int)] w λe w'=>e=.returned (.bool (stands md n.kind (md.fn&&((i:Int) ==last))))/\Below w.heap.size w w':=by
 obtain⟨nb,no,s9,c9,en1,hnb,e0,e1,e2,e3,ekids⟩:=hG.node hn
 have hiN:i<G.T.nodes.length:=(List.getElem?_eq_some_iff.1 hn).1
 have hnl:G.T.nodes.length<=1048576:=hG.k.1.1
 have x3:w.cell? ⟨G.p,3,none⟩=some (.slice (some ⟨nb,no,none⟩) G.T.nodes.length G.d1):=by rw[<-en1];exact(h.bx.cell 3).trans rfl
 have x8:w.cell? ⟨G.p,8,none⟩=some (.bool md.each):=(h.bx.cell 8).trans rfl
 have x9:w.cell? ⟨G.p,9,none⟩=some (.bool (md.each || md.hears)):=(h.bx.cell 9).trans rfl
 have x11:w.cell? ⟨G.p,11,none⟩=some (.bool md.fn):=(h.bx.cell 11).trans rfl
 have x12:w.cell? ⟨G.p,12,none⟩=some (.int .i64 last):=(h.bx.cell 12).trans rfl
 have q0:=(h.bl.cell (p:=⟨nb,no+i*4,none⟩) hnb).trans e0
 have iI:(i:Int)<(G.T.nodes.length:Int):=by omega
 obtain⟨kd,hkd⟩:∃k,Hid (n.kind=k):=⟨_,rfl⟩
 rw[hkd.out] at q0 ⊢
 obtain⟨fn,hfn⟩:∃f,Hid (md.fn=f):=⟨_,rfl⟩
 rw[hfn.out] at x11 ⊢
 obtain⟨inn,hin⟩:∃f,Hid ((md.each || md.hears)=f):=⟨_,rfl⟩
 rw[hin.out] at x9
 obtain⟨ea,hea⟩:∃f,Hid (md.each=f):=⟨_,rfl⟩
 rw[hea.out] at x8
 obtain⟨ls,hls⟩:∃f,((i:Int) ==last)=f:=⟨_,rfl⟩
 rw[hls]
 clear h e0 e1 e2 e3 ekids hn hG en1;by_cases h18:kd=18
 ·
  subst h18
  have HS:Hid (stands md 18 (fn&&ls)=(!fn&&!inn)):=by simp only[Hid,stands,hfn.out,hin.out];rfl
  cases fn
  ·
   go_enter Tryz.func88,Tryz.ntmps88
   go_wp2_with fail;go_ret;exact⟨by rw[HS.out];rfl,Below.refl _ _⟩
  go_enter Tryz.func88,Tryz.ntmps88
  go_wp2_with fail;go_ret;exact⟨by rw[HS.out];rfl,Below.refl _ _⟩
 have t18:(kd ==18)=false:=by simpa using h18
 by_cases h20:kd=20
 ·
  subst h20
  have HS:Hid (stands md 20 (fn&&ls)=(!fn&&!inn)):=by simp only[Hid,stands,hfn.out,hin.out];rfl
  cases fn
  ·
   go_enter Tryz.func88,Tryz.ntmps88
   go_wp2_with fail;go_ret;exact⟨by rw[HS.out];rfl,Below.refl _ _⟩
  go_enter Tryz.func88,Tryz.ntmps88
  go_wp2_with fail;go_ret;exact⟨by rw[HS.out];rfl,Below.refl _ _⟩
 have t20:(kd ==20)=false:=by simpa using h20
 by_cases h14:kd=14
 ·
  subst h14
  have HS:Hid (stands md 14 (fn&&ls)=ea):=by simp only[Hid,stands,hea.out];rfl
  go_enter Tryz.func88,Tryz.ntmps88
  go_wp2_with fail;go_ret;exact⟨by rw[HS.out];rfl,Below.refl _ _⟩
 have t14:(kd ==14)=false:=by simpa using h14
 by_cases h22:kd=22
 ·
  subst h22
  have HS:Hid (stands md 22 (fn&&ls)=ea):=by simp only[Hid,stands,hea.out];rfl
  go_enter Tryz.func88,Tryz.ntmps88
  go_wp2_with fail;go_ret;exact⟨by rw[HS.out];rfl,Below.refl _ _⟩
 have t22:(kd ==22)=false:=by simpa using h22
 by_cases h23:kd=23
 ·
  subst h23
  have HS:Hid (stands md 23 (fn&&ls)=ea):=by simp only[Hid,stands,hea.out];rfl
  go_enter Tryz.func88,Tryz.ntmps88
  go_wp2_with fail;go_ret;exact⟨by rw[HS.out];rfl,Below.refl _ _⟩
 have t23:(kd ==23)=false:=by simpa using h23
 by_cases h24:kd=24
 ·
  subst h24
  have HS:Hid (stands md 24 (fn&&ls)=ea):=by simp only[Hid,stands,hea.out];rfl
  go_enter Tryz.func88,Tryz.ntmps88
  go_wp2_with fail;go_ret;exact⟨by rw[HS.out];rfl,Below.refl _ _⟩
 have t24:(kd ==24)=false:=by simpa using h24
 by_cases h26:kd=26
 ·
  subst h26
  have HS:Hid (stands md 26 (fn&&ls)=(fn&&ls)):=by simp only[Hid,stands];rfl
  cases fn
  ·
   go_enter Tryz.func88,Tryz.ntmps88
   go_wp2_with fail;go_ret;exact⟨by rw[HS.out];rfl,Below.refl _ _⟩
  go_enter Tryz.func88,Tryz.ntmps88
  go_wp2_with fail;go_ret;exact⟨by rw[HS.out];rfl,Below.refl _ _⟩
 have t26:(kd ==26)=false:=by simpa using h26
 have HS:Hid (stands md kd (fn&&ls)=true):=by simp[Hid,stands,h18,h20,h14,h22,h23,h24,h26]
 clear h18 h20 h14 h22 h23 h24 h26;go_enter Tryz.func88,Tryz.ntmps88
 go_wp2_with fail;go_ret;exact⟨by rw[HS.out];rfl,Below.refl _ _⟩
end
end
end Go.Proofs.YtjbbagcpcepkoaaGreatDoor
