import Derived.Test.YtjbbagcpcepkoaaGreatDoorSf19
namespace Go.Proofs.YtjbbagcpcepkoaaGreatDoor
set_option maxRecDepth 100000
set_option maxHeartbeats 64000000
set_option linter.unusedVariables false
set_option linter.unusedSimpArgs false
section
open Go.RowKit
section
variable {G:Pd} {w w':World} {ah:List Int} {Kp Kp':KM}
theorem jdz (hG:G.Ok) (h:Pv G w ah Kp) (n:Nd) (hk9:n.kind=10) (c9:Nat) {fb fo a:Nat} (hfb:fb<G.w0.heap.size) (pp:G.w0.cell? ⟨fb,fo,none⟩=some (.int .i64 (a:Int))) (ha:a<G.T.nodes.length) {b:Nat} (pp2:G.w0.cell? ⟨fb,fo+1,none⟩=some (.int .i64 (b:Int))) (hb2:b<G.T.nodes.length) (hkl:1<n.kids.length) :
  Calls Tryz.prog 148 #[.pointer (some ⟨G.c,0,none⟩),.agg #[.int .i64 n.kind,.string n.text,.int .i64 n.num,.slice (some ⟨fb,fo,none⟩) n.kids.length c9]] w λe w'=>e=.returned (.tuple #[.int .i64 (prE (kdOr (j2h (Kp a) (Kp b)))).1,.int .i64 (prE (kdOr (j2h (Kp a) (Kp b)))).2])/\Below w.heap.size w w':=by
 obtain⟨kb,hkb⟩:∃k,Hid (Kp b=k):=⟨_,rfl⟩
 have bI:(b:Int)<(G.T.nodes.length:Int):=by omega
 have l1I:(1:Int)<(n.kids.length:Int):=by omega
 have l0N:0<n.kids.length:=by omega
 obtain⟨ka,hka⟩:∃k,Hid (Kp a=k):=⟨_,rfl⟩
 have b1:Below w.heap.size w ((w.alloc (.cells #[.int .i64 n.kind,.string n.text,.int .i64 n.num,.slice (some ⟨fb,fo,none⟩) n.kids.length c9] 73)).alloc (.cells #[.int .i64 0,.int .i64 0,.float .f64 0,.float .f64 0] 200)):=j00 (j00 (Below.refl _ _) _) _
 have KN:=Hid.mk' (Blk.alloc (Blk.new w #[.int .i64 n.kind,.string n.text,.int .i64 n.num,.slice (some ⟨fb,fo,none⟩) n.kids.length c9] 73) (.cells #[.int .i64 0,.int .i64 0,.float .f64 0,.float .f64 0] 200))
 have K6:=Hid.mk' (Blk.new' (n:=w.heap.size+1) (w.alloc (.cells #[.int .i64 n.kind,.string n.text,.int .i64 n.num,.slice (some ⟨fb,fo,none⟩) n.kids.length c9] 73)) #[.int .i64 0,.int .i64 0,.float .f64 0,.float .f64 0] 200 (by simp))
 have H1:=Hid.mk' (h.later b1)
 have B1:=Hid.mk' b1
 have aI:(a:Int)<(G.T.nodes.length:Int):=by omega
 have l0I:(0:Int)<(n.kids.length:Int):=by omega
 have HK9:=Hid.mk' hk9
 have HD:Hid (G.c<w.heap.size/\G.kb<w.heap.size/\fb<w.heap.size):=⟨h.bx.lt,h.kl,Nat.lt_of_lt_of_le hfb h.bl.size⟩
 clear h b1 hk9;go_enter Tryz.func148,Tryz.ntmps148
 go_wp2_with fail;generalize (w.alloc (.cells #[.int .i64 n.kind,.string n.text,.int .i64 n.num,.slice (some ⟨fb,fo,none⟩) n.kids.length c9] 73)).alloc (.cells #[.int .i64 0,.int .i64 0,.float .f64 0,.float .f64 0] 200)=wr at KN K6 H1 B1 ⊢
 have hsn:=KN.out.lt
 have hsk:=H1.out.kl
 have hsc:=H1.out.bx.lt
 have hsf:fb<wr.heap.size:=Nat.lt_of_lt_of_le hfb H1.out.bl.size
 have c2:wr.cell? ⟨G.c,2,none⟩=some (.slice (some ⟨G.kb,0,none⟩) G.T.nodes.length G.T.nodes.length):=(H1.out.bx.cell 2).trans rfl
 have n3:wr.cell? ⟨w.heap.size,3,none⟩=some (.slice (some ⟨fb,fo,none⟩) n.kids.length c9):=(KN.out.cell 3).trans rfl
 have n2:wr.cell? ⟨w.heap.size,2,none⟩=some (.int .i64 n.num):=(KN.out.cell 2).trans rfl
 have k0:wr.cell? ⟨fb,fo,none⟩=some (.int .i64 (a:Int)):=(H1.out.bl.cell (p:=⟨fb,fo,none⟩) hfb).trans pp
 have kk:wr.cell? ⟨G.kb,a,none⟩=some (.int .i64 ka):=by rw[<-hka.out];exact H1.out.kc a ha
 have hS:Hid (∀X,Below wr.heap.size wr X->X.cell? ⟨G.c,2,none⟩=some (.slice (some ⟨G.kb,0,none⟩) G.T.nodes.length G.T.nodes.length)/\X.cell? ⟨w.heap.size,3,none⟩=some (.slice (some ⟨fb,fo,none⟩) n.kids.length c9)/\X.cell? ⟨fb,fo,none⟩=some (.int .i64 (a:Int))/\X.cell? ⟨G.kb,a,none⟩=some (.int .i64 ka)):=λX hX=>⟨(hX.cell (p:=⟨G.c,2,none⟩) hsc).trans c2,(hX.cell (p:=⟨w.heap.size,3,none⟩) hsn).trans n3,(hX.cell (p:=⟨fb,fo,none⟩) hsf).trans k0,(hX.cell (p:=⟨G.kb,a,none⟩) hsk).trans kk⟩
 refine wp_region_held_drew (S:=λX=>X.cell? ⟨G.c,2,none⟩=some (.slice (some ⟨G.kb,0,none⟩) G.T.nodes.length G.T.nodes.length)/\X.cell? ⟨w.heap.size,3,none⟩=some (.slice (some ⟨fb,fo,none⟩) n.kids.length c9)/\X.cell? ⟨fb,fo,none⟩=some (.int .i64 (a:Int))/\X.cell? ⟨G.kb,a,none⟩=some (.int .i64 ka)) (by kernel_rfl) ?_ (λhHeld=>?_)
 ·
  exact hS.out _ (j02 (Below.refl _ _))
 have BX:Hid (Below wr.heap.size wr wr.drew):=j02 (Below.refl _ _)
 refine wpr 0 8 ?_;simp only[zs];refine wpr 1 9 ?_;simp only[zs];refine wpr 2 10 ?_;simp only[zs];refine wpr 3 11 ?_;simp only[zs];refine wpr 4 12 ?_;simp only[zs];refine wpr 5 13 ?_;simp only[zs];refine wpr 6 14 ?_;simp only[zs];refine wpr 7 15 ?_;simp only[zs];refine wpr 8 16 ?_;simp only[zs];refine wpr 9 17 ?_;simp only[zs];refine wpAnyH_ready (rs:=[10,11]) (by kernel_rfl) (by simp) ?_
 refine AllReadyH.cons rfl (λK hK=>?_) ?_
 ·
  skip
  go_simp;refine(j27 ka _).mono ?_
  rintro z g1 ⟨rfl,hb⟩
  have BX:Hid (Below wr.heap.size wr g1):=j01 BX.out hb
  clear hb;refine hK.out _ _ (hS.out _ BX.out) (λhHeld=>?_)
  clear hK K;try simp only[zs]
  refine wpy 11 λK hK=>?_
  refine j1z rfl (d0:=some 7) rfl rfl ?_
  intro kz g2 KZ0 hk hb
  have hwk:Hid (wr.heap.size<=kz):=by have:=BX.out.size;show _<=_;omega
  have KZ:Hid (Blk g2 kz #[.int .i64 0,.int .i64 0,.float .f64 0,.float .f64 0] 200):=KZ0
  have BX:Hid (Below wr.heap.size wr g2):=j01 BX.out hb
  clear KZ0 hk hb;refine hK.out _ _ (hS.out _ BX.out) (λhHeld=>?_)
  clear hK K;try simp only[zs]
  refine wpy 12 λK hK=>?_
  refine j1y rfl rfl (.tmp 7) (.tmp 18) rfl kz #[.int .i64 (zk ka),.int .i64 (sm ka),.float .f64 0,.float .f64 0] rfl rfl KZ.out rfl (by simp[Value.oneCell']) ?_
  intro Z KV0 hb
  have BX:Hid (Below wr.heap.size wr Z):=hb _ _ BX.out hwk.out
  have KV:Hid (Blk Z kz #[.int .i64 (zk ka),.int .i64 (sm ka),.float .f64 0,.float .f64 0] 200):=KV0
  clear KV0 hb KZ;refine hK.out _ _ (hS.out _ BX.out) (λhHeld=>?_)
  clear hK K;try simp only[zs]
  refine wpAnyH_done (by kernel_rfl) ?_ _
  clear hHeld hS;have hkz:Hid (w.heap.size+1<kz):=Nat.lt_of_lt_of_le K6.out.lt hwk.out
  have H6:=Hid.mk' (H1.out.later BX.out)
  have K7:=Hid.mk' (KN.out.later BX.out)
  have K8:=Hid.mk' (K6.out.later BX.out)
  have B8:Hid (Below w.heap.size w Z):=j25 B1.out BX.out
  clear c2 n3 n2 k0 kk hsn hsk hsc hsf H1 KN K6 B1 BX;have q0:Z.cell? ⟨w.heap.size,0,none⟩=some (.int .i64 n.kind):=(K7.out.cell 0).trans rfl
  have t8:(n.kind ==8)=false:=by simp[HK9.out]
  have t9:(n.kind ==9)=false:=by simp[HK9.out]
  have t10:(n.kind ==10)=true:=by simp[HK9.out]
  have e5:Z.cell? ⟨G.kb,b,none⟩=some (.int .i64 kb):=by rw[<-hkb.out];exact H6.out.kc b hb2
  have f0:Z.cell? ⟨G.c,2,none⟩=some (.slice (some ⟨G.kb,0,none⟩) G.T.nodes.length G.T.nodes.length):=(H6.out.bx.cell 2).trans rfl
  have f1:Z.cell? ⟨w.heap.size,3,none⟩=some (.slice (some ⟨fb,fo,none⟩) n.kids.length c9):=(K7.out.cell 3).trans rfl
  have f2:Z.cell? ⟨fb,fo+1,none⟩=some (.int .i64 (b:Int)):=(H6.out.bl.cell (p:=⟨fb,fo+1,none⟩) hfb).trans pp2
  have f3:Z.cell? ⟨G.kb,b,none⟩=some (.int .i64 kb):=e5
  have f4:Z.cell? ⟨kz,0,none⟩=some (.int .i64 (zk ka)):=(KV.out.cell 0).trans rfl
  have f5:Z.cell? ⟨kz,1,none⟩=some (.int .i64 (sm ka)):=(KV.out.cell 1).trans rfl
  have f6:Z.cell? ⟨kz,2,none⟩=some (.float .f64 0):=(KV.out.cell 2).trans rfl
  have f7:Z.cell? ⟨kz,3,none⟩=some (.float .f64 0):=(KV.out.cell 3).trans rfl
  have hS2:Hid (∀X,Tw (w.heap.size+1) (w.heap.size+1) Z X->X.cell? ⟨G.c,2,none⟩=some (.slice (some ⟨G.kb,0,none⟩) G.T.nodes.length G.T.nodes.length)/\X.cell? ⟨w.heap.size,3,none⟩=some (.slice (some ⟨fb,fo,none⟩) n.kids.length c9)/\X.cell? ⟨fb,fo+1,none⟩=some (.int .i64 (b:Int))/\X.cell? ⟨G.kb,b,none⟩=some (.int .i64 kb)/\X.cell? ⟨kz,0,none⟩=some (.int .i64 (zk ka))/\X.cell? ⟨kz,1,none⟩=some (.int .i64 (sm ka))/\X.cell? ⟨kz,2,none⟩=some (.float .f64 0)/\X.cell? ⟨kz,3,none⟩=some (.float .f64 0)):=λX hX=>⟨(hX.cell H6.out.bx.lt (by have:=HD.out.1;omega) (by have:=HD.out.1;omega)).trans f0,(hX.cell K7.out.lt (by omega) (by omega)).trans f1,(hX.cell (Nat.lt_of_lt_of_le hfb H6.out.bl.size) (by have:=HD.out.2.2;omega) (by have:=HD.out.2.2;omega)).trans f2,(hX.cell H6.out.kl (by have:=HD.out.2.1;omega) (by have:=HD.out.2.1;omega)).trans f3,(hX.cell KV.out.lt (by have:=hkz.out;omega) (by have:=hkz.out;omega)).trans f4,(hX.cell KV.out.lt (by have:=hkz.out;omega) (by have:=hkz.out;omega)).trans f5,(hX.cell KV.out.lt (by have:=hkz.out;omega) (by have:=hkz.out;omega)).trans f6,(hX.cell KV.out.lt (by have:=hkz.out;omega) (by have:=hkz.out;omega)).trans f7⟩
  clear e5 f0 f1 f2 f3 f4 f5 f6 f7;go_wp2_with fail;clear q0;refine wp_region_held_drew (S:=λX=>X.cell? ⟨G.c,2,none⟩=some (.slice (some ⟨G.kb,0,none⟩) G.T.nodes.length G.T.nodes.length)/\X.cell? ⟨w.heap.size,3,none⟩=some (.slice (some ⟨fb,fo,none⟩) n.kids.length c9)/\X.cell? ⟨fb,fo+1,none⟩=some (.int .i64 (b:Int))/\X.cell? ⟨G.kb,b,none⟩=some (.int .i64 kb)/\X.cell? ⟨kz,0,none⟩=some (.int .i64 (zk ka))/\X.cell? ⟨kz,1,none⟩=some (.int .i64 (sm ka))/\X.cell? ⟨kz,2,none⟩=some (.float .f64 0)/\X.cell? ⟨kz,3,none⟩=some (.float .f64 0)) (by kernel_rfl) ?_ (λhHeld=>?_)
  ·
   exact hS2.out _ (Tw.of (j02 (Below.refl _ _)))
  have BY:Hid (Below Z.heap.size Z Z.drew):=j02 (Below.refl _ _)
  refine wpr 0 53 ?_;simp only[zs];refine wpr 1 54 ?_;simp only[zs];refine wpr 2 55 ?_;simp only[zs];refine wpr 3 56 ?_;simp only[zs];refine wpr 4 57 ?_;simp only[zs];refine wpr 5 58 ?_;simp only[zs];refine wpr 6 59 ?_;simp only[zs];refine wpr 7 60 ?_;simp only[zs];refine wpr 8 61 ?_;simp only[zs];refine wpr 9 62 ?_;simp only[zs];refine wpr 10 63 ?_;simp only[zs];refine wpy 11 λK hK=>?_
  go_simp;refine(j27 kb _).mono ?_
  rintro z g3 ⟨rfl,hb⟩
  have BY:Hid (Below Z.heap.size Z g3):=j01 BY.out hb
  clear hb;refine hK.out _ _ (hS2.out _ (Tw.of BY.out)) (λhHeld=>?_)
  clear hK K;try simp only[zs]
  refine wpy 12 λK hK=>?_
  go_simp;refine(j5z (zk ka) (sm ka) 0 0 (zk kb) (sm kb) 0 0 _).mono ?_
  rintro z g4 ⟨rfl,hb⟩
  have hek0:=j7x ka kb
  obtain⟨ek,hek1⟩:∃ek,pk (j31 (zk ka) (sm ka) 0 0 (zk kb) (sm kb) 0 0)=ek:=⟨_,rfl⟩
  obtain⟨ex,hex⟩:∃ex,px (j31 (zk ka) (sm ka) 0 0 (zk kb) (sm kb) 0 0) 0=ex:=⟨_,rfl⟩
  rw[hek1,hex]
  rw[hek1] at hek0
  have hek:Hid (ek=j2h ka kb):=hek0
  clear hek0 hek1 hex;have BY:Hid (Below Z.heap.size Z g4):=j01 BY.out hb
  clear hb;refine hK.out _ _ (hS2.out _ (Tw.of BY.out)) (λhHeld=>?_)
  clear hK K;try simp only[zs]
  refine wpr 13 52 ?_;simp only[zs];refine wpr 14 66 ?_;simp only[zs];refine wpr 15 67 ?_;simp only[zs];have K9:=Hid.mk' (K8.out.later BY.out)
  have B9:Hid (Below w.heap.size w g4):=j25 B8.out BY.out
  refine wpy 16 λK hK=>?_
  refine j5a rfl rfl (.tmp 6) (.tmp 66) rfl (w.heap.size+1) #[.int .i64 ek,.int .i64 0,.float .f64 ex,.float .f64 ex] rfl rfl K9.out rfl (by simp[Value.oneCell']) ?_
  intro w6 hB60 hb6 ht6
  have B6:Hid (Below w.heap.size w w6):=hb6 _ _ B9.out (Nat.le_succ _)
  have hB6:=Hid.mk' hB60
  refine hK.out _ _ (hS2.out _ ((Tw.of BY.out).trans ht6)) (λhHeld=>?_)
  clear hK K hb6 ht6 hB60;try simp only[zs]
  refine wpAnyH_done (by kernel_rfl) ?_ _
  clear hHeld hS2 BY K9 B9 H6 K7 K8 B8 KV;obtain⟨r0,r1,r2,r3,r4⟩:=Blk.four' hB6.out
  by_cases h0:ek=0
  ·
   have t0:(ek ==0)=true:=by simp[h0]
   have hR:Hid (prE (kdOr (j2h ka kb))=(0,4)):=by show _=_;rw[<-hek.out,h0];rfl
   clear h0 hek;go_wp2_with fail;refine bq (.tuple #[.int .i64 0,.int .i64 4]) ?_
   rw[hka.out,hkb.out,hR.out]
   exact⟨rfl,B6.out⟩
  have t0:(ek ==0)=false:=by simp[h0]
  have hR:Hid (prE (kdOr (j2h ka kb))=(ek,0)):=by show _=_;rw[<-hek.out];unfold kdOr;rw[if_neg h0];rfl
  clear h0 hek;go_wp2_with fail;refine bq (.tuple #[.int .i64 ek,.int .i64 0]) ?_
  rw[hka.out,hkb.out,hR.out]
  exact⟨rfl,B6.out⟩
 refine AllReadyH.cons rfl (λK hK=>?_) AllReadyH.nil
 refine j1z rfl (d0:=some 7) rfl rfl ?_
 intro kz g1 KZ0 hk hb
 have hwk:Hid (wr.heap.size<=kz):=by have:=BX.out.size;show _<=_;omega
 have KZ:Hid (Blk g1 kz #[.int .i64 0,.int .i64 0,.float .f64 0,.float .f64 0] 200):=KZ0
 have BX:Hid (Below wr.heap.size wr g1):=j01 BX.out hb
 clear KZ0 hk hb;refine hK.out _ _ (hS.out _ BX.out) (λhHeld=>?_)
 clear hK K;try simp only[zs]
 refine wpy 10 λK hK=>?_
 go_simp;refine(j27 ka _).mono ?_
 rintro z g2 ⟨rfl,hb⟩
 have BX:Hid (Below wr.heap.size wr g2):=j01 BX.out hb
 have KZ:Hid (Blk g2 kz #[.int .i64 0,.int .i64 0,.float .f64 0,.float .f64 0] 200):=KZ.out.later hb
 clear hb;refine hK.out _ _ (hS.out _ BX.out) (λhHeld=>?_)
 clear hK K;try simp only[zs]
 refine wpy 12 λK hK=>?_
 refine j1y rfl rfl (.tmp 7) (.tmp 18) rfl kz #[.int .i64 (zk ka),.int .i64 (sm ka),.float .f64 0,.float .f64 0] rfl rfl KZ.out rfl (by simp[Value.oneCell']) ?_
 intro Z KV0 hb
 have BX:Hid (Below wr.heap.size wr Z):=hb _ _ BX.out hwk.out
 have KV:Hid (Blk Z kz #[.int .i64 (zk ka),.int .i64 (sm ka),.float .f64 0,.float .f64 0] 200):=KV0
 clear KV0 hb KZ;refine hK.out _ _ (hS.out _ BX.out) (λhHeld=>?_)
 clear hK K;try simp only[zs]
 refine wpAnyH_done (by kernel_rfl) ?_ _
 clear hHeld hS;have hkz:Hid (w.heap.size+1<kz):=Nat.lt_of_lt_of_le K6.out.lt hwk.out
 have H6:=Hid.mk' (H1.out.later BX.out)
 have K7:=Hid.mk' (KN.out.later BX.out)
 have K8:=Hid.mk' (K6.out.later BX.out)
 have B8:Hid (Below w.heap.size w Z):=j25 B1.out BX.out
 clear c2 n3 n2 k0 kk hsn hsk hsc hsf H1 KN K6 B1 BX;have q0:Z.cell? ⟨w.heap.size,0,none⟩=some (.int .i64 n.kind):=(K7.out.cell 0).trans rfl
 have t8:(n.kind ==8)=false:=by simp[HK9.out]
 have t9:(n.kind ==9)=false:=by simp[HK9.out]
 have t10:(n.kind ==10)=true:=by simp[HK9.out]
 have e5:Z.cell? ⟨G.kb,b,none⟩=some (.int .i64 kb):=by rw[<-hkb.out];exact H6.out.kc b hb2
 have f0:Z.cell? ⟨G.c,2,none⟩=some (.slice (some ⟨G.kb,0,none⟩) G.T.nodes.length G.T.nodes.length):=(H6.out.bx.cell 2).trans rfl
 have f1:Z.cell? ⟨w.heap.size,3,none⟩=some (.slice (some ⟨fb,fo,none⟩) n.kids.length c9):=(K7.out.cell 3).trans rfl
 have f2:Z.cell? ⟨fb,fo+1,none⟩=some (.int .i64 (b:Int)):=(H6.out.bl.cell (p:=⟨fb,fo+1,none⟩) hfb).trans pp2
 have f3:Z.cell? ⟨G.kb,b,none⟩=some (.int .i64 kb):=e5
 have f4:Z.cell? ⟨kz,0,none⟩=some (.int .i64 (zk ka)):=(KV.out.cell 0).trans rfl
 have f5:Z.cell? ⟨kz,1,none⟩=some (.int .i64 (sm ka)):=(KV.out.cell 1).trans rfl
 have f6:Z.cell? ⟨kz,2,none⟩=some (.float .f64 0):=(KV.out.cell 2).trans rfl
 have f7:Z.cell? ⟨kz,3,none⟩=some (.float .f64 0):=(KV.out.cell 3).trans rfl
 have hS2:Hid (∀X,Tw (w.heap.size+1) (w.heap.size+1) Z X->X.cell? ⟨G.c,2,none⟩=some (.slice (some ⟨G.kb,0,none⟩) G.T.nodes.length G.T.nodes.length)/\X.cell? ⟨w.heap.size,3,none⟩=some (.slice (some ⟨fb,fo,none⟩) n.kids.length c9)/\X.cell? ⟨fb,fo+1,none⟩=some (.int .i64 (b:Int))/\X.cell? ⟨G.kb,b,none⟩=some (.int .i64 kb)/\X.cell? ⟨kz,0,none⟩=some (.int .i64 (zk ka))/\X.cell? ⟨kz,1,none⟩=some (.int .i64 (sm ka))/\X.cell? ⟨kz,2,none⟩=some (.float .f64 0)/\X.cell? ⟨kz,3,none⟩=some (.float .f64 0)):=λX hX=>⟨(hX.cell H6.out.bx.lt (by have:=HD.out.1;omega) (by have:=HD.out.1;omega)).trans f0,(hX.cell K7.out.lt (by omega) (by omega)).trans f1,(hX.cell (Nat.lt_of_lt_of_le hfb H6.out.bl.size) (by have:=HD.out.2.2;omega) (by have:=HD.out.2.2;omega)).trans f2,(hX.cell H6.out.kl (by have:=HD.out.2.1;omega) (by have:=HD.out.2.1;omega)).trans f3,(hX.cell KV.out.lt (by have:=hkz.out;omega) (by have:=hkz.out;omega)).trans f4,(hX.cell KV.out.lt (by have:=hkz.out;omega) (by have:=hkz.out;omega)).trans f5,(hX.cell KV.out.lt (by have:=hkz.out;omega) (by have:=hkz.out;omega)).trans f6,(hX.cell KV.out.lt (by have:=hkz.out;omega) (by have:=hkz.out;omega)).trans f7⟩
 clear e5 f0 f1 f2 f3 f4 f5 f6 f7;go_wp2_with fail;clear q0;refine wp_region_held_drew (S:=λX=>X.cell? ⟨G.c,2,none⟩=some (.slice (some ⟨G.kb,0,none⟩) G.T.nodes.length G.T.nodes.length)/\X.cell? ⟨w.heap.size,3,none⟩=some (.slice (some ⟨fb,fo,none⟩) n.kids.length c9)/\X.cell? ⟨fb,fo+1,none⟩=some (.int .i64 (b:Int))/\X.cell? ⟨G.kb,b,none⟩=some (.int .i64 kb)/\X.cell? ⟨kz,0,none⟩=some (.int .i64 (zk ka))/\X.cell? ⟨kz,1,none⟩=some (.int .i64 (sm ka))/\X.cell? ⟨kz,2,none⟩=some (.float .f64 0)/\X.cell? ⟨kz,3,none⟩=some (.float .f64 0)) (by kernel_rfl) ?_ (λhHeld=>?_)
 ·
  exact hS2.out _ (Tw.of (j02 (Below.refl _ _)))
 have BY:Hid (Below Z.heap.size Z Z.drew):=j02 (Below.refl _ _)
 refine wpr 0 53 ?_;simp only[zs];refine wpr 1 54 ?_;simp only[zs];refine wpr 2 55 ?_;simp only[zs];refine wpr 3 56 ?_;simp only[zs];refine wpr 4 57 ?_;simp only[zs];refine wpr 5 58 ?_;simp only[zs];refine wpr 6 59 ?_;simp only[zs];refine wpr 7 60 ?_;simp only[zs];refine wpr 8 61 ?_;simp only[zs];refine wpr 9 62 ?_;simp only[zs];refine wpr 10 63 ?_;simp only[zs];refine wpy 11 λK hK=>?_
 go_simp;refine(j27 kb _).mono ?_
 rintro z g3 ⟨rfl,hb⟩
 have BY:Hid (Below Z.heap.size Z g3):=j01 BY.out hb
 clear hb;refine hK.out _ _ (hS2.out _ (Tw.of BY.out)) (λhHeld=>?_)
 clear hK K;try simp only[zs]
 refine wpy 12 λK hK=>?_
 go_simp;refine(j5z (zk ka) (sm ka) 0 0 (zk kb) (sm kb) 0 0 _).mono ?_
 rintro z g4 ⟨rfl,hb⟩
 have hek0:=j7x ka kb
 obtain⟨ek,hek1⟩:∃ek,pk (j31 (zk ka) (sm ka) 0 0 (zk kb) (sm kb) 0 0)=ek:=⟨_,rfl⟩
 obtain⟨ex,hex⟩:∃ex,px (j31 (zk ka) (sm ka) 0 0 (zk kb) (sm kb) 0 0) 0=ex:=⟨_,rfl⟩
 rw[hek1,hex]
 rw[hek1] at hek0
 have hek:Hid (ek=j2h ka kb):=hek0
 clear hek0 hek1 hex;have BY:Hid (Below Z.heap.size Z g4):=j01 BY.out hb
 clear hb;refine hK.out _ _ (hS2.out _ (Tw.of BY.out)) (λhHeld=>?_)
 clear hK K;try simp only[zs]
 refine wpr 13 52 ?_;simp only[zs];refine wpr 14 66 ?_;simp only[zs];refine wpr 15 67 ?_;simp only[zs];have K9:=Hid.mk' (K8.out.later BY.out)
 have B9:Hid (Below w.heap.size w g4):=j25 B8.out BY.out
 refine wpy 16 λK hK=>?_
 refine j5a rfl rfl (.tmp 6) (.tmp 66) rfl (w.heap.size+1) #[.int .i64 ek,.int .i64 0,.float .f64 ex,.float .f64 ex] rfl rfl K9.out rfl (by simp[Value.oneCell']) ?_
 intro w6 hB60 hb6 ht6
 have B6:Hid (Below w.heap.size w w6):=hb6 _ _ B9.out (Nat.le_succ _)
 have hB6:=Hid.mk' hB60
 refine hK.out _ _ (hS2.out _ ((Tw.of BY.out).trans ht6)) (λhHeld=>?_)
 clear hK K hb6 ht6 hB60;try simp only[zs]
 refine wpAnyH_done (by kernel_rfl) ?_ _
 clear hHeld hS2 BY K9 B9 H6 K7 K8 B8 KV;obtain⟨r0,r1,r2,r3,r4⟩:=Blk.four' hB6.out
 by_cases h0:ek=0
 ·
  have t0:(ek ==0)=true:=by simp[h0]
  have hR:Hid (prE (kdOr (j2h ka kb))=(0,4)):=by show _=_;rw[<-hek.out,h0];rfl
  clear h0 hek;go_wp2_with fail;refine bq (.tuple #[.int .i64 0,.int .i64 4]) ?_
  rw[hka.out,hkb.out,hR.out]
  exact⟨rfl,B6.out⟩
 have t0:(ek ==0)=false:=by simp[h0]
 have hR:Hid (prE (kdOr (j2h ka kb))=(ek,0)):=by show _=_;rw[<-hek.out];unfold kdOr;rw[if_neg h0];rfl
 clear h0 hek;go_wp2_with fail;refine bq (.tuple #[.int .i64 ek,.int .i64 0]) ?_
 rw[hka.out,hkb.out,hR.out]
 exact⟨rfl,B6.out⟩
end
end
section
open Go.RowKit
def Frm (K:KM) (nx k:Nat) (v:Int) (K1:KM):Prop:=K1 k=v/\∀j:Nat,j<nx\/k<j->K1 j=K j
theorem j9a {T:Tre} {g:KM->Int->Ck (Int×KM)} (hg:∀(nx k:Nat) (K:KM) (v:Int) (K1:KM),okN T k->FitL (j0e T) (okN T) (j0e T k) nx k->g K (k:Int)=.ok (v,K1)->Frm K nx k v K1) {ks:List Int} {a e:Nat} (h:FitL (j0e T) (okN T) ks a e) :
  ∀(K:KM) (vs:List Int) (K1:KM),ckL g ks K=.ok (vs,K1)->vs.length=ks.length/\(∀j:Nat,j<a\/e<=j->K1 j=K j)/\∀(m:Nat) (x:Nat) (v:Int),ks[m]?=some (x:Int)->vs[m]?=some v->K1 x=v:=by
 induction h with
 | nil nx =>
  intro K vs K1 hc
  simp only[ckL,Except.ok.injEq,Prod.mk.injEq] at hc
  obtain⟨rfl,rfl⟩:=hc
  exact⟨rfl,λ_ _=>rfl,λm x v hm=>by simp at hm⟩
 | cons nx k ks e h1 h2 h3 h4 _ ih =>
  intro K vs K1 hc
  simp only[ckL] at hc
  cases hk:g K (k:Int) with
  | error q=>rw[hk] at hc;simp at hc
  | ok q =>
   obtain⟨v,K2⟩:=q
   rw[hk] at hc
   simp only at hc
   cases hr:ckL g ks K2 with
   | error q=>rw[hr] at hc;simp at hc
   | ok q =>
    obtain⟨ws,K3⟩:=q
    rw[hr] at hc
    simp only[Except.ok.injEq,Prod.mk.injEq] at hc
    obtain⟨rfl,rfl⟩:=hc
    obtain⟨f1,f2⟩:=hg nx k K v K2 h2 h3 hk
    obtain⟨i1,i2,i3⟩:=ih K2 ws K3 hr
    have hle:=h4.le
    refine⟨by simp[i1],λj hj=>?_,λm x u hm hu=>?_⟩
    ·
     rw[i2 j (by omega),f2 j (by omega)]
    cases m with
    | zero =>
     simp only[List.getElem?_cons_zero,Option.some.injEq] at hm hu
     have:x=k:=by omega
     subst this
     rw[i2 x (by omega),f1,hu]
    | succ m=>exact i3 m x u (by simpa using hm) (by simpa using hu)
theorem jbm (m:Nat):2<=(shp 11 m).length:=by simp[shp]
theorem j4i (D:Int->ByteArray->Int) (T:Tre) (ah:List Int) (md:Md) (env:Env):∀(f:Nat) (nx k:Nat) (K:KM) (v:Int) (K1:KM),okN T k->FitL (j0e T) (okN T) (j0e T k) nx k->ckE D T ah md env f K (k:Int)=.ok (v,K1)->Frm K nx k v K1
 | 0,nx,k,K,v,K1,_,_,h=>by simp[ckE] at h
 | f+1,nx,k,K,v,K1,hok,hf,h=>by
  have ih:=j4i D T ah md env f
  obtain⟨n,hn,hh,hl,hcl⟩:=hok
  have hnd:=j0j hn
  rw[j0t hn] at hf
  have hle:=hf.le
  have mark:∀(K2:KM) (u:Int),(∀j:Nat,j<nx\/k<=j->K2 j=K j)->(v,K1)=(u,upd K2 (k:Int) u)->Frm K nx k v K1:=by
   intro K2 u h2 e
   simp only[Prod.mk.injEq] at e
   obtain⟨rfl,rfl⟩:=e
   refine⟨by simp[upd],λj hj=>?_⟩
   unfold upd
   rw[if_neg (by omega),h2 j (by omega)]
  rw[ckE,hnd] at h
  split at h
  ·
   rename_i hk
   rw[hk] at hl
   have h2:=jbm n.kids.length
   split at h
   ·
    cases hks:n.kids with
    | nil=>rw[hks] at hl h2;simp[shp] at hl
    | cons x0 xs =>
     rw[hks] at hf h
     cases hf with
     | cons _ a _ _ p1 p2 p3 p4 =>
      have hk0:kid n 0=(a:Int):=by simp[kid,hks]
      rw[hk0] at h
      cases hr:ckE D T ah md env f K (a:Int) with
      | error q=>rw[hr] at h;simp at h
      | ok q =>
       obtain⟨u,K2⟩:=q
       rw[hr] at h
       simp only at h
       split at h
       ·
        cases hp:j1i D T md (List.tail ((a:Int) :: xs)) none with
        | error q=>rw[hp] at h;simp at h
        | ok q =>
         rw[hp] at h
         simp only[Except.ok.injEq] at h
         have hle4:=p4.le
         refine mark K2 q (λj hj=>?_) h.symm
         exact(ih nx a K u K2 p2 p3 hr).2 j (by omega)
       simp at h
   simp at h
  split at h
  ·
   simp at h
  cases hr:ckL (ckE D T ah md env f) n.kids K with
  | error q=>rw[hr] at h;simp at h
  | ok q =>
   obtain⟨vs,K2⟩:=q
   rw[hr] at h
   simp only at h
   cases hro:rowE D T ah md env n vs with
   | error q=>rw[hro] at h;simp at h
   | ok q =>
    rw[hro] at h
    simp only[Except.ok.injEq] at h
    have hfr:=j9a (λnx k K v K1 a b c=>ih nx k K v K1 a b c) hf K vs K2 hr
    exact mark K2 q (λj hj=>hfr.2.1 j (by omega)) h.symm
end
section
open Go.RowKit
def KR (T:Tre) (Kp K:KM):Prop:=∀j:Nat,j<T.nodes.length->isE (nd T (j:Int)).kind->Kp j=K j
theorem KR.put {T:Tre} {Kp K:KM} (h:KR T Kp K) (i:Int) (v:Int):KR T (upd Kp i v) (upd K i v):=by
 intro j hj hE
 unfold upd
 split
 ·
  rfl
 exact h j hj hE
theorem KR.other {T:Tre} {Kp K:KM} (h:KR T Kp K) {i:Int} (hi:¬isE (nd T i).kind) (v:Int):KR T (upd Kp i v) K:=by
 intro j hj hE
 unfold upd
 split
 ·
  rename_i e
  subst e
  exact absurd hE hi
 exact h j hj hE
theorem j5n {Kp:KM} {i nx:Nat} (h:nx<=i) (v:Int):∀j,j<nx->upd Kp (i:Int) v j=Kp j:=by
 intro j hj
 unfold upd
 rw[if_neg (by omega)]
theorem j72 {g:KM->Int->Ck (Int×KM)} {ks:List Int}:∀{m:Nat} {K Km K1:KM} {vs:List Int} {x v:Int},ckL g (ks.take m) K=.ok (vs,Km)->ks[m]?=some x->g Km x=.ok (v,K1)->ckL g (ks.take (m+1)) K=.ok (vs++[v],K1):=by
 induction ks with
 | nil=>intro m K Km K1 vs x v _ hx;simp at hx
 | cons a ks ih =>
  intro m K Km K1 vs x v h hx hg
  cases m with
  | zero =>
   simp[ckL] at h
   obtain⟨rfl,rfl⟩:=h
   simp at hx
   subst hx
   simp[ckL,hg]
  | succ m =>
   simp only[List.take_succ_cons,ckL] at h ⊢
   cases ha:g K a with
   | error q=>rw[ha] at h;simp at h
   | ok q =>
    obtain⟨u,K2⟩:=q
    rw[ha] at h
    simp only at h ⊢
    cases hr:ckL g (ks.take m) K2 with
    | error q=>rw[hr] at h;simp at h
    | ok q =>
     obtain⟨us,K3⟩:=q
     rw[hr] at h
     simp only[Except.ok.injEq,Prod.mk.injEq] at h
     obtain⟨rfl,rfl⟩:=h
     rw[ih hr (by simpa using hx) hg]
     all_goals rfl
theorem j5x {g:KM->Int->Ck (Int×KM)} {ks:List Int} {q:Int×Int}:∀{m:Nat} {K Km:KM} {vs:List Int} {x:Int},ckL g (ks.take m) K=.ok (vs,Km)->ks[m]?=some x->g Km x=.error q->ckL g ks K=.error q:=by
 induction ks with
 | nil=>intro m K Km vs x _ hx;simp at hx
 | cons a ks ih =>
  intro m K Km vs x h hx hg
  cases m with
  | zero =>
   simp[ckL] at h
   obtain⟨rfl,rfl⟩:=h
   simp at hx
   subst hx
   simp[ckL,hg]
  | succ m =>
   simp only[List.take_succ_cons,ckL] at h ⊢
   cases ha:g K a with
   | error q=>rw[ha] at h;simp at h
   | ok q =>
    obtain⟨u,K2⟩:=q
    rw[ha] at h
    simp only at h ⊢
    cases hr:ckL g (ks.take m) K2 with
    | error q=>rw[hr] at h;simp at h
    | ok q =>
     obtain⟨us,K3⟩:=q
     rw[hr] at h
     simp only[Except.ok.injEq,Prod.mk.injEq] at h
     obtain⟨rfl,rfl⟩:=h
     rw[ih hr (by simpa using hx) hg]
def rowP (D:Int->ByteArray->Int) (T:Tre) (ah:List Int) (md:Md) (env:Env) (n:Nd) (ks:List Int):Int×Int :=
 if n.kind<=10 then prE (rowE D T ah md env n ks)
 else if n.kind=13\/n.kind=14\/n.kind=15\/n.kind=19\/n.kind=23 then (0,j0o (j0v D md env n) (ks[0]?.getD 0))
 else if n.kind=24 then (0,(prE (j0v D md env n)).2) else (0,0)
theorem FitL.at_ {K:Nat->List Int} {ok:Nat->Prop} {ks:List Int} {a e:Nat} (h:FitL K ok ks a e):∀{m:Nat} {x:Int},ks[m]?=some x->∃k b:Nat,x=(k:Int)/\ok k/\FitL K ok (K k) b k/\a<=b/\k<e:=λhx=>h.mem _ (List.mem_of_getElem? hx)
theorem Tw.less {p q:Nat} {w w':World} (h:Tw p q w w') (hq:w.heap.size<=q):Tw p p w w' :=
 ⟨h.os,h.tape,h.output,h.size,λk h1 h2 _=>h.block k h1 h2 (by omega)⟩
theorem Tw.more {p:Nat} (q:Nat) {w w':World} (h:Tw p p w w'):Tw p q w w' :=
 ⟨h.os,h.tape,h.output,h.size,λk h1 h2 _=>h.block k h1 h2 h2⟩
section
variable {G:Pd} {w w':World} {ah:List Int} {Kp Kp' K:KM} {nx:Nat}
def j44 (G:Pd) (w:World) (ah:List Int) (nx:Nat) (Kp:KM) (r:Ck (Int×KM)) (e:Ending) (w':World):Prop:=match r with
 | .error (c,n)=>e=.returned (errV c n)/\Tw G.kb G.kb w w'
 | .ok (v,K1)=>e=.returned .nilIface/\Tw G.kb G.kb w w'/\∃Kp1,Pv G w' ah Kp1/\KR G.T Kp1 K1/\∀j,j<nx->Kp1 j=Kp j
theorem j44.bad {c n:Int} {r:Ck (Int×KM)} (hr:r=.error (c,n)) (hb:Tw G.kb G.kb w w'):j44 G w ah nx Kp r (.returned (errV c n)) w':=by subst hr;exact⟨rfl,hb⟩
theorem j44.tw {r:Ck (Int×KM)} {e:Ending} (h:j44 G w ah nx Kp r e w'):Tw G.kb G.kb w w':=by
 unfold j44 at h
 split at h
 ·
  exact h.2
 exact h.2.1
theorem j44.good {v:Int} {K1 Kp1:KM} {r:Ck (Int×KM)} (hr:r=.ok (v,K1)) (ht:Tw G.kb G.kb w w') (h1:Pv G w' ah Kp1) (h2:KR G.T Kp1 K1) (h3:∀j,j<nx->Kp1 j=Kp j):j44 G w ah nx Kp r (.returned .nilIface) w':=by subst hr;exact⟨rfl,ht,Kp1,h1,h2,h3⟩
theorem j83 {D:Int->ByteArray->Int} {T:Tre} {md:Md} {env:Env} {f:Nat} {ks:List Int} {a e:Nat} (h:FitL (j0e T) (okN T) ks a e) (hE:∀x∈ks,isE (nd T x).kind) (he:e<=T.nodes.length) {K K1 Kp1:KM} {vs:List Int} (hc:ckL (ckE D T ah md env f) ks K=.ok (vs,K1)) (hK:KR T Kp1 K1):ks.map (λx=>Kp1 x.toNat)=vs:=by
 obtain⟨h1,_,h3⟩:=j9a (λnx k K v K1 a b c=>j4i D T ah md env f nx k K v K1 a b c) h K vs K1 hc
 refine List.ext_getElem? λm=>?_
 by_cases hm:m<ks.length
 ·
  have hv:m<vs.length:=by omega
  obtain⟨k,b,hk,_,_,_,hlt⟩:=h.at_ (List.getElem?_eq_getElem hm)
  have hx:ks[m]?=some (k:Int):=by rw[List.getElem?_eq_getElem hm,hk]
  have:=h3 m k vs[m] hx (List.getElem?_eq_getElem hv)
  have hEk:=hE (k:Int) (List.mem_of_getElem? hx)
  rw[List.getElem?_map,hx,List.getElem?_eq_getElem hv]
  simp[hK k (by omega) hEk,this]
 rw[List.getElem?_eq_none (by simpa using hm),List.getElem?_eq_none (by omega)]
def ExpP (G:Pd) (ah:List Int) (f:Nat):Prop :=
 ∀(md:Md) (env:Env) (km ko:Nat) (gg:Nm) (bs:List Nat) (av:Value) (lst hr:Bool) (tk:Int) (i nx:Nat) (n:Nd) (Kp K:KM) (w:World),i<f->VN G.T i n->FitL (j0e G.T) (okN G.T) n.kids nx i->isE n.kind->Pv G w ah Kp->Px G w km ko gg bs md av env Kp nx->KR G.T Kp K->
  Calls Tryz.prog 85 #[.pointer (some ⟨G.c,0,none⟩),.int .i64 (i:Int),.agg #[addF km,j09 km ko,.int .i64 tk,.bool lst,.bool hr,av]] w λe w'=>j44 G w ah nx Kp (ckE (Dp G) G.T ah md env f K (i:Int)) e w'
end
end
section
open Go.RowKit Go.Maps Go.WideMaps
section
variable {G:Pd} {w w':World} {ah:List Int} {Kp Kp':KM} {km ko:Nat} {gg:Nm} {bs:List Nat} {md:Md} {av:Value} {env:Env} {nx:Nat} {lst hr:Bool} {tk:Int}
theorem jiy (hG:G.Ok) (ha:AhOk G.T ah) (h:Pv G w ah Kp) (hp:Px G w km ko gg bs md av env Kp nx) (hnx:nx<=G.T.nodes.length) (n:Nd) (hkd:(1<=n.kind/\n.kind<=10)\/(12<=n.kind/\n.kind<=26)) (s9:Option Addr) (c9:Nat) (hk:Els 1 cInt G.w0 G.B0 s9 n.kids) (hkn:∀x∈n.kids,∃k:Nat,x=(k:Int)/\k<G.T.nodes.length) (hkl:n.kids.length<=1048576) (hl1:n.kind=8\/n.kind=9\/n.kind=10\/n.kind=13\/n.kind=14\/n.kind=15\/n.kind=19\/n.kind=23->0<n.kids.length) (hl2:n.kind=8\/n.kind=10->1<n.kids.length) (hs:n.text.size<=maxLen) :
  Calls Tryz.prog 132 #[.pointer (some ⟨G.c,0,none⟩),.agg #[.int .i64 n.kind,.string n.text,.int .i64 n.num,.slice s9 n.kids.length c9],.agg #[addF km,j09 km ko,.int .i64 tk,.bool lst,.bool hr,av]] w λe w'=>e=.returned (.tuple #[.int .i64 (rowP (Dp G) G.T ah md env n (n.kids.map λx=>Kp x.toNat)).1,.int .i64 (rowP (Dp G) G.T ah md env n (n.kids.map λx=>Kp x.toNat)).2])/\Below w.heap.size w w':=by
 obtain⟨kd,hkd0⟩:∃k,Hid (n.kind=k):=⟨_,rfl⟩
 rw[hkd0.out] at hkd hl1 hl2 ⊢
 have hR0:Hid (rowP (Dp G) G.T ah md env n (n.kids.map λx=>Kp x.toNat)=if kd<=10 then prE (rowE (Dp G) G.T ah md env n (n.kids.map λx=>Kp x.toNat)) else if kd=13\/kd=14\/kd=15\/kd=19\/kd=23 then (0,j0o (j0v (Dp G) md env n) ((n.kids.map λx=>Kp x.toNat)[0]?.getD 0)) else if kd=24 then (0,(prE (j0v (Dp G) md env n)).2) else (0,0)):=by show _=_;unfold rowP;rw[hkd0.out]
 have hE0:Hid (rowE (Dp G) G.T ah md env n (n.kids.map λx=>Kp x.toNat)=if kd=1 then .ok 1 else if kd=2 then .ok 2 else if kd=3 then .ok 4 else if kd=4 then (match look env n.text with|none=> .error 3|some k=> .ok k) else if kd=5 then j2b (Dp G) md n.text else if kd=6 then (if Dp G 2 n.text=0 then .error 3 else .ok (Dp G 2 n.text)) else if kd=7 then j2m G.T ah n (n.kids.map λx=>Kp x.toNat) else if kd=8 then kdOr (opK n.num ((n.kids.map λx=>Kp x.toNat)[0]?.getD 0) ((n.kids.map λx=>Kp x.toNat)[1]?.getD 0)) else if kd=9 then kdOr (j3n n.num ((n.kids.map λx=>Kp x.toNat)[0]?.getD 0)) else kdOr (j2h ((n.kids.map λx=>Kp x.toNat)[0]?.getD 0) ((n.kids.map λx=>Kp x.toNat)[1]?.getD 0))):=by show _=_;unfold rowE;rw[hkd0.out];rfl
 have b1:Below w.heap.size w ((w.alloc (.cells #[.int .i64 kd,.string n.text,.int .i64 n.num,.slice s9 n.kids.length c9] 73)).alloc (.cells #[addF km,j09 km ko,.int .i64 tk,.bool lst,.bool hr,av] 139)):=j00 (j00 (Below.refl _ _) _) _
 have kn:=Blk.alloc (Blk.new w #[.int .i64 kd,.string n.text,.int .i64 n.num,.slice s9 n.kids.length c9] 73) (.cells #[addF km,j09 km ko,.int .i64 tk,.bool lst,.bool hr,av] 139)
 have kp:=Blk.new' (n:=w.heap.size+1) (w.alloc (.cells #[.int .i64 kd,.string n.text,.int .i64 n.num,.slice s9 n.kids.length c9] 73)) #[addF km,j09 km ko,.int .i64 tk,.bool lst,.bool hr,av] 139 (by simp)
 have H1:=Hid.mk' (h.later b1)
 have P1:=Hid.mk' (hp.later b1)
 have B1:=Hid.mk' b1
 obtain⟨z0,z1,z2,z3,z4⟩:=Blk.four' kn
 have p0:_=some (addF km):=(kp.cell 0).trans rfl
 have p1:_=some (j09 km ko):=(kp.cell 1).trans rfl
 have p2:_=some (Value.int .i64 tk):=(kp.cell 2).trans rfl
 have p3:_=some (Value.bool lst):=(kp.cell 3).trans rfl
 have p4:_=some (Value.bool hr):=(kp.cell 4).trans rfl
 have p5:_=some av:=(kp.cell 5).trans rfl
 have HK:=Hid.mk' hk
 have HKN:=Hid.mk' hkn
 have HL1:=Hid.mk' hl1
 have HL2:=Hid.mk' hl2
 have HKL:=Hid.mk' hkl
 clear h hp b1 kn kp hk hkn hl1 hl2 hkl;by_cases hq:kd=1
 ·
  have hR:Hid (rowP (Dp G) G.T ah md env n (n.kids.map λx=>Kp x.toNat)=(1,0)):=by show _=_;rw[hR0.out,if_pos (by omega),hE0.out];simp[hq,prE]
  have t1:(kd ==1)=true:=by simp[hq]
  clear hkd hq hR0 hE0 hkd0;go_enter Tryz.func132,Tryz.ntmps132
  go_wp2_with fail;refine bq (.tuple #[.int .i64 1,.int .i64 0]) ?_
  rw[hR.out]
  exact⟨rfl,B1.out⟩
 by_cases hq:kd=2
 ·
  have hR:Hid (rowP (Dp G) G.T ah md env n (n.kids.map λx=>Kp x.toNat)=(2,0)):=by show _=_;rw[hR0.out,if_pos (by omega),hE0.out];simp[hq,prE]
  have t1:(kd ==1)=false:=by simp;omega
  have t2:(kd ==2)=true:=by simp[hq]
  clear hkd hq hR0 hE0 hkd0;go_enter Tryz.func132,Tryz.ntmps132
  go_wp2_with fail;refine bq (.tuple #[.int .i64 2,.int .i64 0]) ?_
  rw[hR.out]
  exact⟨rfl,B1.out⟩
 by_cases hq:kd=3
 ·
  have hR:Hid (rowP (Dp G) G.T ah md env n (n.kids.map λx=>Kp x.toNat)=(4,0)):=by show _=_;rw[hR0.out,if_pos (by omega),hE0.out];simp[hq,prE]
  have t1:(kd ==1)=false:=by simp;omega
  have t2:(kd ==2)=false:=by simp;omega
  have t3:(kd ==3)=true:=by simp[hq]
  clear hkd hq hR0 hE0 hkd0;go_enter Tryz.func132,Tryz.ntmps132
  go_wp2_with fail;refine bq (.tuple #[.int .i64 4,.int .i64 0]) ?_
  rw[hR.out]
  exact⟨rfl,B1.out⟩
 by_cases hq:kd=4
 ·
  have hR:Hid (rowP (Dp G) G.T ah md env n (n.kids.map λx=>Kp x.toNat)=prE (j0v (Dp G) md env n)):=by
   show _=_;rw[hR0.out,if_pos (by omega),hE0.out];unfold j0v;rw[hkd0.out];simp[hq];rfl
  have hc:=j4k (lst:=lst) (hr:=hr) (tk:=tk) hG H1.out P1.out hnx n s9 c9 hs
  rw[hkd0.out] at hc
  have t1:(kd ==1)=false:=by simp;omega
  have t2:(kd ==2)=false:=by simp;omega
  have t3:(kd ==3)=false:=by simp;omega
  have t4:(kd ==4)=true:=by simp[hq]
  clear hkd hq hR0 hE0 hkd0;go_enter Tryz.func132,Tryz.ntmps132
  go_wp2_with fail;refine hc.mono ?_
  rintro e w2 ⟨rfl,hb2⟩
  go_wp2_with fail;refine bq (.tuple #[.int .i64 (prE (j0v (Dp G) md env n)).1,.int .i64 (prE (j0v (Dp G) md env n)).2]) ?_
  rw[hR.out]
  exact⟨rfl,B1.out.trans (hb2.mono B1.out.size)⟩
 by_cases hq:kd=5
 ·
  have hR:Hid (rowP (Dp G) G.T ah md env n (n.kids.map λx=>Kp x.toNat)=prE (j0v (Dp G) md env n)):=by
   show _=_;rw[hR0.out,if_pos (by omega),hE0.out];unfold j0v;rw[hkd0.out];simp[hq]
  have hc:=j4k (lst:=lst) (hr:=hr) (tk:=tk) hG H1.out P1.out hnx n s9 c9 hs
  rw[hkd0.out] at hc
  have t1:(kd ==1)=false:=by simp;omega
  have t2:(kd ==2)=false:=by simp;omega
  have t3:(kd ==3)=false:=by simp;omega
  have t4:(kd ==4)=false:=by simp;omega
  have t5:(kd ==5)=true:=by simp[hq]
  clear hkd hq hR0 hE0 hkd0;go_enter Tryz.func132,Tryz.ntmps132
  go_wp2_with fail;refine hc.mono ?_
  rintro e w2 ⟨rfl,hb2⟩
  go_wp2_with fail;refine bq (.tuple #[.int .i64 (prE (j0v (Dp G) md env n)).1,.int .i64 (prE (j0v (Dp G) md env n)).2]) ?_
  rw[hR.out]
  exact⟨rfl,B1.out.trans (hb2.mono B1.out.size)⟩
 by_cases hq:kd=6
 ·
  have hR:Hid (rowP (Dp G) G.T ah md env n (n.kids.map λx=>Kp x.toNat)=prE (j0v (Dp G) md env n)):=by
   show _=_;rw[hR0.out,if_pos (by omega),hE0.out];unfold j0v;rw[hkd0.out];simp[hq]
  have hc:=j4k (lst:=lst) (hr:=hr) (tk:=tk) hG H1.out P1.out hnx n s9 c9 hs
  rw[hkd0.out] at hc
  have t1:(kd ==1)=false:=by simp;omega
  have t2:(kd ==2)=false:=by simp;omega
  have t3:(kd ==3)=false:=by simp;omega
  have t4:(kd ==4)=false:=by simp;omega
  have t5:(kd ==5)=false:=by simp;omega
  have t6:(kd ==6)=true:=by simp[hq]
  clear hkd hq hR0 hE0 hkd0;go_enter Tryz.func132,Tryz.ntmps132
  go_wp2_with fail;refine hc.mono ?_
  rintro e w2 ⟨rfl,hb2⟩
  go_wp2_with fail;refine bq (.tuple #[.int .i64 (prE (j0v (Dp G) md env n)).1,.int .i64 (prE (j0v (Dp G) md env n)).2]) ?_
  rw[hR.out]
  exact⟨rfl,B1.out.trans (hb2.mono B1.out.size)⟩
 by_cases hq:kd=7
 ·
  have hR:Hid (rowP (Dp G) G.T ah md env n (n.kids.map λx=>Kp x.toNat)=prE (j4a G.T ah Kp n)):=by show _=_;rw[hR0.out,if_pos (by omega),hE0.out];simp[hq,j4a]
  have hc:=jf5 hG ha H1.out n s9 c9 HK.out HKN.out HKL.out hs
  rw[hkd0.out] at hc
  have t1:(kd ==1)=false:=by simp;omega
  have t2:(kd ==2)=false:=by simp;omega
  have t3:(kd ==3)=false:=by simp;omega
  have t4:(kd ==4)=false:=by simp;omega
  have t5:(kd ==5)=false:=by simp;omega
  have t6:(kd ==6)=false:=by simp;omega
  have t7:(kd ==7)=true:=by simp[hq]
  clear hkd hq hR0 hE0 hkd0;go_enter Tryz.func132,Tryz.ntmps132
  go_wp2_with fail;refine hc.mono ?_
  rintro e w2 ⟨rfl,hb2⟩
  go_wp2_with fail;refine bq (.tuple #[.int .i64 (prE (j4a G.T ah Kp n)).1,.int .i64 (prE (j4a G.T ah Kp n)).2]) ?_
  rw[hR.out]
  exact⟨rfl,B1.out.trans (hb2.mono B1.out.size)⟩
 by_cases hq:kd=8
 ·
  obtain⟨x0,hx0⟩:=j0q (HL1.out (by omega))
  obtain⟨a,rfl,ha1⟩:=HKN.out _ (List.mem_of_getElem? hx0)
  obtain⟨fb,fo,rfl,_,hfb,pp⟩:=j05 HK.out hx0
  have e0:(n.kids.map λx=>Kp x.toNat)[0]?.getD 0=Kp a:=by simp[hx0]
  obtain⟨x1,hx1⟩:=j0q (HL2.out (by omega))
  obtain⟨b,rfl,hb1⟩:=HKN.out _ (List.mem_of_getElem? hx1)
  obtain⟨fb',fo',efb,_,_,pp2⟩:=j05 HK.out hx1
  cases efb
  have e1:(n.kids.map λx=>Kp x.toNat)[1]?.getD 0=Kp b:=by simp[hx1]
  have hR:Hid (rowP (Dp G) G.T ah md env n (n.kids.map λx=>Kp x.toNat)=prE (kdOr (opK n.num (Kp a) (Kp b)))):=by show _=_;rw[hR0.out,if_pos (by omega),hE0.out,e0,e1];simp[hq]
  have hc:=jjb hG H1.out n (by rw[hkd0.out];exact hq) c9 hfb pp ha1 pp2 hb1 (HL2.out (by omega))
  rw[hkd0.out] at hc
  have t1:(kd ==1)=false:=by simp;omega
  have t2:(kd ==2)=false:=by simp;omega
  have t3:(kd ==3)=false:=by simp;omega
  have t4:(kd ==4)=false:=by simp;omega
  have t5:(kd ==5)=false:=by simp;omega
  have t6:(kd ==6)=false:=by simp;omega
  have t7:(kd ==7)=false:=by simp;omega
  have t8:(kd ==8)=true:=by simp[hq]
  clear hkd hq hR0 hE0 hkd0 hx0 pp e0 hx1 pp2 e1;go_enter Tryz.func132,Tryz.ntmps132
  go_wp2_with fail;refine hc.mono ?_
  rintro e w2 ⟨rfl,hb2⟩
  go_wp2_with fail;refine bq (.tuple #[.int .i64 (prE (kdOr (opK n.num (Kp a) (Kp b)))).1,.int .i64 (prE (kdOr (opK n.num (Kp a) (Kp b)))).2]) ?_
  rw[hR.out]
  exact⟨rfl,B1.out.trans (hb2.mono B1.out.size)⟩
 by_cases hq:kd=9
 ·
  obtain⟨x0,hx0⟩:=j0q (HL1.out (by omega))
  obtain⟨a,rfl,ha1⟩:=HKN.out _ (List.mem_of_getElem? hx0)
  obtain⟨fb,fo,rfl,_,hfb,pp⟩:=j05 HK.out hx0
  have e0:(n.kids.map λx=>Kp x.toNat)[0]?.getD 0=Kp a:=by simp[hx0]
  have hR:Hid (rowP (Dp G) G.T ah md env n (n.kids.map λx=>Kp x.toNat)=prE (kdOr (j3n n.num (Kp a)))):=by show _=_;rw[hR0.out,if_pos (by omega),hE0.out,e0];simp[hq]
  have hc:=jdk hG H1.out n (by rw[hkd0.out];exact hq) c9 hfb pp ha1 (HL1.out (by omega))
  rw[hkd0.out] at hc
  have t1:(kd ==1)=false:=by simp;omega
  have t2:(kd ==2)=false:=by simp;omega
  have t3:(kd ==3)=false:=by simp;omega
  have t4:(kd ==4)=false:=by simp;omega
  have t5:(kd ==5)=false:=by simp;omega
  have t6:(kd ==6)=false:=by simp;omega
  have t7:(kd ==7)=false:=by simp;omega
  have t8:(kd ==8)=false:=by simp;omega
  have t9:(kd ==9)=true:=by simp[hq]
  clear hkd hq hR0 hE0 hkd0 hx0 pp e0;go_enter Tryz.func132,Tryz.ntmps132
  go_wp2_with fail;refine hc.mono ?_
  rintro e w2 ⟨rfl,hb2⟩
  go_wp2_with fail;refine bq (.tuple #[.int .i64 (prE (kdOr (j3n n.num (Kp a)))).1,.int .i64 (prE (kdOr (j3n n.num (Kp a)))).2]) ?_
  rw[hR.out]
  exact⟨rfl,B1.out.trans (hb2.mono B1.out.size)⟩
 by_cases hq:kd=10
 ·
  obtain⟨x0,hx0⟩:=j0q (HL1.out (by omega))
  obtain⟨a,rfl,ha1⟩:=HKN.out _ (List.mem_of_getElem? hx0)
  obtain⟨fb,fo,rfl,_,hfb,pp⟩:=j05 HK.out hx0
  have e0:(n.kids.map λx=>Kp x.toNat)[0]?.getD 0=Kp a:=by simp[hx0]
  obtain⟨x1,hx1⟩:=j0q (HL2.out (by omega))
  obtain⟨b,rfl,hb1⟩:=HKN.out _ (List.mem_of_getElem? hx1)
  obtain⟨fb',fo',efb,_,_,pp2⟩:=j05 HK.out hx1
  cases efb
  have e1:(n.kids.map λx=>Kp x.toNat)[1]?.getD 0=Kp b:=by simp[hx1]
  have hR:Hid (rowP (Dp G) G.T ah md env n (n.kids.map λx=>Kp x.toNat)=prE (kdOr (j2h (Kp a) (Kp b)))):=by show _=_;rw[hR0.out,if_pos (by omega),hE0.out,e0,e1];simp[hq]
  have hc:=jdz hG H1.out n (by rw[hkd0.out];exact hq) c9 hfb pp ha1 pp2 hb1 (HL2.out (by omega))
  rw[hkd0.out] at hc
  have t1:(kd ==1)=false:=by simp;omega
  have t2:(kd ==2)=false:=by simp;omega
  have t3:(kd ==3)=false:=by simp;omega
  have t4:(kd ==4)=false:=by simp;omega
  have t5:(kd ==5)=false:=by simp;omega
  have t6:(kd ==6)=false:=by simp;omega
  have t7:(kd ==7)=false:=by simp;omega
  have t8:(kd ==8)=false:=by simp;omega
  have t9:(kd ==9)=false:=by simp;omega
  have t10:(kd ==10)=true:=by simp[hq]
  clear hkd hq hR0 hE0 hkd0 hx0 pp e0 hx1 pp2 e1;go_enter Tryz.func132,Tryz.ntmps132
  go_wp2_with fail;refine hc.mono ?_
  rintro e w2 ⟨rfl,hb2⟩
  go_wp2_with fail;refine bq (.tuple #[.int .i64 (prE (kdOr (j2h (Kp a) (Kp b)))).1,.int .i64 (prE (kdOr (j2h (Kp a) (Kp b)))).2]) ?_
  rw[hR.out]
  exact⟨rfl,B1.out.trans (hb2.mono B1.out.size)⟩
 by_cases hq:kd=13
 ·
  obtain⟨x0,hx0⟩:=j0q (HL1.out (by omega))
  obtain⟨a,rfl,ha1⟩:=HKN.out _ (List.mem_of_getElem? hx0)
  obtain⟨fb,fo,rfl,_,hfb,pp⟩:=j05 HK.out hx0
  have e0:(n.kids.map λx=>Kp x.toNat)[0]?.getD 0=Kp a:=by simp[hx0]
  have hR:Hid (rowP (Dp G) G.T ah md env n (n.kids.map λx=>Kp x.toNat)=(0,j0o (j0v (Dp G) md env n) (Kp a))):=by show _=_;rw[hR0.out,if_neg (by omega),if_pos (by omega),e0]
  have hc:=j3q (lst:=lst) (hr:=hr) (tk:=tk) hG H1.out P1.out hnx n c9 hfb pp ha1 (HL1.out (by omega)) hs
  rw[hkd0.out] at hc
  have t1:(kd ==1)=false:=by simp;omega
  have t2:(kd ==2)=false:=by simp;omega
  have t3:(kd ==3)=false:=by simp;omega
  have t4:(kd ==4)=false:=by simp;omega
  have t5:(kd ==5)=false:=by simp;omega
  have t6:(kd ==6)=false:=by simp;omega
  have t7:(kd ==7)=false:=by simp;omega
  have t8:(kd ==8)=false:=by simp;omega
  have t9:(kd ==9)=false:=by simp;omega
  have t10:(kd ==10)=false:=by simp;omega
  have t13:(kd ==13)=true:=by simp[hq]
  clear hkd hq hR0 hE0 hkd0 hx0 pp e0;go_enter Tryz.func132,Tryz.ntmps132
  go_wp2_with fail;refine hc.mono ?_
  rintro e w2 ⟨rfl,hb2⟩
  go_wp2_with fail;refine bq (.tuple #[.int .i64 0,.int .i64 (j0o (j0v (Dp G) md env n) (Kp a))]) ?_
  rw[hR.out]
  exact⟨rfl,B1.out.trans (hb2.mono B1.out.size)⟩
 by_cases hq:kd=14
 ·
  obtain⟨x0,hx0⟩:=j0q (HL1.out (by omega))
  obtain⟨a,rfl,ha1⟩:=HKN.out _ (List.mem_of_getElem? hx0)
  obtain⟨fb,fo,rfl,_,hfb,pp⟩:=j05 HK.out hx0
  have e0:(n.kids.map λx=>Kp x.toNat)[0]?.getD 0=Kp a:=by simp[hx0]
  have hR:Hid (rowP (Dp G) G.T ah md env n (n.kids.map λx=>Kp x.toNat)=(0,j0o (j0v (Dp G) md env n) (Kp a))):=by show _=_;rw[hR0.out,if_neg (by omega),if_pos (by omega),e0]
  have hc:=j3q (lst:=lst) (hr:=hr) (tk:=tk) hG H1.out P1.out hnx n c9 hfb pp ha1 (HL1.out (by omega)) hs
  rw[hkd0.out] at hc
  have t1:(kd ==1)=false:=by simp;omega
  have t2:(kd ==2)=false:=by simp;omega
  have t3:(kd ==3)=false:=by simp;omega
  have t4:(kd ==4)=false:=by simp;omega
  have t5:(kd ==5)=false:=by simp;omega
  have t6:(kd ==6)=false:=by simp;omega
  have t7:(kd ==7)=false:=by simp;omega
  have t8:(kd ==8)=false:=by simp;omega
  have t9:(kd ==9)=false:=by simp;omega
  have t10:(kd ==10)=false:=by simp;omega
  have t13:(kd ==13)=false:=by simp;omega
  have t14:(kd ==14)=true:=by simp[hq]
  clear hkd hq hR0 hE0 hkd0 hx0 pp e0;go_enter Tryz.func132,Tryz.ntmps132
  go_wp2_with fail;refine hc.mono ?_
  rintro e w2 ⟨rfl,hb2⟩
  go_wp2_with fail;refine bq (.tuple #[.int .i64 0,.int .i64 (j0o (j0v (Dp G) md env n) (Kp a))]) ?_
  rw[hR.out]
  exact⟨rfl,B1.out.trans (hb2.mono B1.out.size)⟩
 by_cases hq:kd=15
 ·
  obtain⟨x0,hx0⟩:=j0q (HL1.out (by omega))
  obtain⟨a,rfl,ha1⟩:=HKN.out _ (List.mem_of_getElem? hx0)
  obtain⟨fb,fo,rfl,_,hfb,pp⟩:=j05 HK.out hx0
  have e0:(n.kids.map λx=>Kp x.toNat)[0]?.getD 0=Kp a:=by simp[hx0]
  have hR:Hid (rowP (Dp G) G.T ah md env n (n.kids.map λx=>Kp x.toNat)=(0,j0o (j0v (Dp G) md env n) (Kp a))):=by show _=_;rw[hR0.out,if_neg (by omega),if_pos (by omega),e0]
  have hc:=j3q (lst:=lst) (hr:=hr) (tk:=tk) hG H1.out P1.out hnx n c9 hfb pp ha1 (HL1.out (by omega)) hs
  rw[hkd0.out] at hc
  have t1:(kd ==1)=false:=by simp;omega
  have t2:(kd ==2)=false:=by simp;omega
  have t3:(kd ==3)=false:=by simp;omega
  have t4:(kd ==4)=false:=by simp;omega
  have t5:(kd ==5)=false:=by simp;omega
  have t6:(kd ==6)=false:=by simp;omega
  have t7:(kd ==7)=false:=by simp;omega
  have t8:(kd ==8)=false:=by simp;omega
  have t9:(kd ==9)=false:=by simp;omega
  have t10:(kd ==10)=false:=by simp;omega
  have t13:(kd ==13)=false:=by simp;omega
  have t14:(kd ==14)=false:=by simp;omega
  have t15:(kd ==15)=true:=by simp[hq]
  clear hkd hq hR0 hE0 hkd0 hx0 pp e0;go_enter Tryz.func132,Tryz.ntmps132
  go_wp2_with fail;refine hc.mono ?_
  rintro e w2 ⟨rfl,hb2⟩
  go_wp2_with fail;refine bq (.tuple #[.int .i64 0,.int .i64 (j0o (j0v (Dp G) md env n) (Kp a))]) ?_
  rw[hR.out]
  exact⟨rfl,B1.out.trans (hb2.mono B1.out.size)⟩
 by_cases hq:kd=19
 ·
  obtain⟨x0,hx0⟩:=j0q (HL1.out (by omega))
  obtain⟨a,rfl,ha1⟩:=HKN.out _ (List.mem_of_getElem? hx0)
  obtain⟨fb,fo,rfl,_,hfb,pp⟩:=j05 HK.out hx0
  have e0:(n.kids.map λx=>Kp x.toNat)[0]?.getD 0=Kp a:=by simp[hx0]
  have hR:Hid (rowP (Dp G) G.T ah md env n (n.kids.map λx=>Kp x.toNat)=(0,j0o (j0v (Dp G) md env n) (Kp a))):=by show _=_;rw[hR0.out,if_neg (by omega),if_pos (by omega),e0]
  have hc:=j3q (lst:=lst) (hr:=hr) (tk:=tk) hG H1.out P1.out hnx n c9 hfb pp ha1 (HL1.out (by omega)) hs
  rw[hkd0.out] at hc
  have t1:(kd ==1)=false:=by simp;omega
  have t2:(kd ==2)=false:=by simp;omega
  have t3:(kd ==3)=false:=by simp;omega
  have t4:(kd ==4)=false:=by simp;omega
  have t5:(kd ==5)=false:=by simp;omega
  have t6:(kd ==6)=false:=by simp;omega
  have t7:(kd ==7)=false:=by simp;omega
  have t8:(kd ==8)=false:=by simp;omega
  have t9:(kd ==9)=false:=by simp;omega
  have t10:(kd ==10)=false:=by simp;omega
  have t13:(kd ==13)=false:=by simp;omega
  have t14:(kd ==14)=false:=by simp;omega
  have t15:(kd ==15)=false:=by simp;omega
  have t19:(kd ==19)=true:=by simp[hq]
  clear hkd hq hR0 hE0 hkd0 hx0 pp e0;go_enter Tryz.func132,Tryz.ntmps132
  go_wp2_with fail;refine hc.mono ?_
  rintro e w2 ⟨rfl,hb2⟩
  go_wp2_with fail;refine bq (.tuple #[.int .i64 0,.int .i64 (j0o (j0v (Dp G) md env n) (Kp a))]) ?_
  rw[hR.out]
  exact⟨rfl,B1.out.trans (hb2.mono B1.out.size)⟩
 by_cases hq:kd=23
 ·
  obtain⟨x0,hx0⟩:=j0q (HL1.out (by omega))
  obtain⟨a,rfl,ha1⟩:=HKN.out _ (List.mem_of_getElem? hx0)
  obtain⟨fb,fo,rfl,_,hfb,pp⟩:=j05 HK.out hx0
  have e0:(n.kids.map λx=>Kp x.toNat)[0]?.getD 0=Kp a:=by simp[hx0]
  have hR:Hid (rowP (Dp G) G.T ah md env n (n.kids.map λx=>Kp x.toNat)=(0,j0o (j0v (Dp G) md env n) (Kp a))):=by show _=_;rw[hR0.out,if_neg (by omega),if_pos (by omega),e0]
  have hc:=j3q (lst:=lst) (hr:=hr) (tk:=tk) hG H1.out P1.out hnx n c9 hfb pp ha1 (HL1.out (by omega)) hs
  rw[hkd0.out] at hc
  have t1:(kd ==1)=false:=by simp;omega
  have t2:(kd ==2)=false:=by simp;omega
  have t3:(kd ==3)=false:=by simp;omega
  have t4:(kd ==4)=false:=by simp;omega
  have t5:(kd ==5)=false:=by simp;omega
  have t6:(kd ==6)=false:=by simp;omega
  have t7:(kd ==7)=false:=by simp;omega
  have t8:(kd ==8)=false:=by simp;omega
  have t9:(kd ==9)=false:=by simp;omega
  have t10:(kd ==10)=false:=by simp;omega
  have t13:(kd ==13)=false:=by simp;omega
  have t14:(kd ==14)=false:=by simp;omega
  have t15:(kd ==15)=false:=by simp;omega
  have t19:(kd ==19)=false:=by simp;omega
  have t23:(kd ==23)=true:=by simp[hq]
  clear hkd hq hR0 hE0 hkd0 hx0 pp e0;go_enter Tryz.func132,Tryz.ntmps132
  go_wp2_with fail;refine hc.mono ?_
  rintro e w2 ⟨rfl,hb2⟩
  go_wp2_with fail;refine bq (.tuple #[.int .i64 0,.int .i64 (j0o (j0v (Dp G) md env n) (Kp a))]) ?_
  rw[hR.out]
  exact⟨rfl,B1.out.trans (hb2.mono B1.out.size)⟩
 by_cases hq:kd=24
 ·
  have hR:Hid (rowP (Dp G) G.T ah md env n (n.kids.map λx=>Kp x.toNat)=(0,(prE (j0v (Dp G) md env n)).2)):=by show _=_;rw[hR0.out,if_neg (by omega),if_neg (by omega),if_pos hq]
  have hc:=j4k (lst:=lst) (hr:=hr) (tk:=tk) hG H1.out P1.out hnx n s9 c9 hs
  rw[hkd0.out] at hc
  have t1:(kd ==1)=false:=by simp;omega
  have t2:(kd ==2)=false:=by simp;omega
  have t3:(kd ==3)=false:=by simp;omega
  have t4:(kd ==4)=false:=by simp;omega
  have t5:(kd ==5)=false:=by simp;omega
  have t6:(kd ==6)=false:=by simp;omega
  have t7:(kd ==7)=false:=by simp;omega
  have t8:(kd ==8)=false:=by simp;omega
  have t9:(kd ==9)=false:=by simp;omega
  have t10:(kd ==10)=false:=by simp;omega
  have t13:(kd ==13)=false:=by simp;omega
  have t14:(kd ==14)=false:=by simp;omega
  have t15:(kd ==15)=false:=by simp;omega
  have t19:(kd ==19)=false:=by simp;omega
  have t23:(kd ==23)=false:=by simp;omega
  have t24:(kd ==24)=true:=by simp[hq]
  clear hkd hq hR0 hE0 hkd0;go_enter Tryz.func132,Tryz.ntmps132
  go_wp2_with fail;refine hc.mono ?_
  rintro e w2 ⟨rfl,hb2⟩
  go_wp2_with fail;refine bq (.tuple #[.int .i64 0,.int .i64 (prE (j0v (Dp G) md env n)).2]) ?_
  rw[hR.out]
  exact⟨rfl,B1.out.trans (hb2.mono B1.out.size)⟩
 have hR:Hid (rowP (Dp G) G.T ah md env n (n.kids.map λx=>Kp x.toNat)=(0,0)):=by show _=_;rw[hR0.out,if_neg (by omega),if_neg (by omega),if_neg (by omega)]
 have t1:(kd ==1)=false:=by simp;omega
 have t2:(kd ==2)=false:=by simp;omega
 have t3:(kd ==3)=false:=by simp;omega
 have t4:(kd ==4)=false:=by simp;omega
 have t5:(kd ==5)=false:=by simp;omega
 have t6:(kd ==6)=false:=by simp;omega
 have t7:(kd ==7)=false:=by simp;omega
 have t8:(kd ==8)=false:=by simp;omega
 have t9:(kd ==9)=false:=by simp;omega
 have t10:(kd ==10)=false:=by simp;omega
 have t13:(kd ==13)=false:=by simp;omega
 have t14:(kd ==14)=false:=by simp;omega
 have t15:(kd ==15)=false:=by simp;omega
 have t19:(kd ==19)=false:=by simp;omega
 have t23:(kd ==23)=false:=by simp;omega
 have t24:(kd ==24)=false:=by simp;omega
 clear hR0 hE0 hkd0 hkd;go_enter Tryz.func132,Tryz.ntmps132
 go_wp2_with fail;refine bq (.tuple #[.int .i64 0,.int .i64 0]) ?_
 rw[hR.out]
 exact⟨rfl,B1.out⟩
end
end
section
open Go.RowKit Go.Maps Go.WideMaps
def isP (k:Int):Prop:=(1<=k/\k<=10)\/(12<=k/\k<=15)\/k=19\/(22<=k/\k<=26)
theorem jf2 {kind:Int} {len:Nat} (hk:isP kind):∀c∈shp kind len,c=1\/c=10:=by
 intro c hc
 have h:kind=1\/kind=2\/kind=3\/kind=4\/kind=5\/kind=6\/kind=7\/kind=8\/kind=9\/kind=10\/kind=12\/kind=13\/kind=14\/kind=15\/kind=19\/kind=22\/kind=23\/kind=24\/kind=25\/kind=26:=by unfold isP at hk;omega
 clear hk;rcases h with rfl|rfl|rfl|rfl|rfl|rfl|rfl|rfl|rfl|rfl|rfl|rfl|rfl|rfl|rfl|rfl|rfl|rfl|rfl|rfl<;>simp[shp] at hc<;>omega
theorem j8e {T:Tre} {i:Nat} {n:Nd} (hv:VN T i n) (hk:isP n.kind):∀x∈n.kids,isE (nd T x).kind:=by
 intro x hx
 obtain⟨j,hj,rfl⟩:=List.getElem_of_mem hx
 have hl:=hv.len
 have hs:(shp n.kind n.kids.length)[j]?=some (shp n.kind n.kids.length)[j]:=List.getElem?_eq_getElem (by omega)
 have h1:=hv.cls (List.getElem?_eq_getElem hj) hs
 rcases jf2 hk _ (List.mem_of_getElem? hs) with e|e
 ·
  rw[e] at h1;exact j1q h1
 rw[e] at h1
 unfold j1c at h1
 rw[if_pos rfl] at h1
 unfold isE;omega
theorem jhe {kind:Int} {len:Nat} (hl:(shp kind len).length=len) (h:kind=8\/kind=9\/kind=10\/kind=13\/kind=14\/kind=15\/kind=19\/kind=23):0<len:=by
 rcases h with rfl|rfl|rfl|rfl|rfl|rfl|rfl|rfl<;>simp[shp] at hl<;>omega
theorem jbw {T:Tre} {i:Nat} {n:Nd} (hv:VN T i n):n.kind=8\/n.kind=9\/n.kind=10\/n.kind=13\/n.kind=14\/n.kind=15\/n.kind=19\/n.kind=23->0<n.kids.length:=λh=>jhe hv.len h
theorem jfi {kind:Int} {len:Nat} (hl:(shp kind len).length=len) (h:kind=8\/kind=10):1<len:=by
 rcases h with rfl|rfl<;>simp[shp] at hl<;>omega
theorem jc2 {T:Tre} {i:Nat} {n:Nd} (hv:VN T i n):n.kind=8\/n.kind=10->1<n.kids.length:=λh=>jfi hv.len h
def plR (D:Int->ByteArray->Int) (T:Tre) (ah:List Int) (md:Md) (env:Env) (f:Nat) (n:Nd) (K:KM) (i:Int):Ck (Int×KM):=match ckL (ckE D T ah md env f) n.kids K with
 | .error q=> .error q
 | .ok (ks,K1)=>if (rowP D T ah md env n ks).2=0 then .ok ((rowP D T ah md env n ks).1,K1) else .error ((rowP D T ah md env n ks).2,i)
section
variable {G:Pd} {w w':World} {ah:List Int} {Kp Kp' K:KM} {km ko mb nn:Nat} {gg:Nm} {bs:List Nat} {md:Md} {av:Value} {env:Env} {nx:Nat} {lst hr:Bool} {tk:Int}
structure LdE (G:Pd) (w0 w:World) (ah:List Int) (km ko:Nat) (gg:Nm) (bs:List Nat) (md:Md) (av:Value) (env:Env) (nx f:Nat) (Kp0 K0:KM) (ks:List Int) (vs:List Int) (Kp K:KM):Prop where
 ck:ckL (ckE (Dp G) G.T ah md env f) ks K0=.ok (vs,K)
 p:Pv G w ah Kp
 x:Px G w km ko gg bs md av env Kp nx
 kr:KR G.T Kp K
 lo:∀j,j<nx->Kp j=Kp0 j
 tw:Tw G.kb G.kb w0 w
def j49 (G:Pd) (w:World) (ah:List Int) (nx i:Nat) (Kp:KM) (r:Ck (Int×KM)) (e:Ending) (w':World):Prop:=match r with
 | .error (c,n)=>e=.returned (errV c n)/\Tw G.kb G.kb w w'
 | .ok (v,K1)=>e=.returned .nilIface/\Tw G.kb G.kb w w'/\∃Kp1,Pv G w' ah (upd Kp1 (i:Int) v)/\KR G.T Kp1 K1/\∀j,j<nx->Kp1 j=Kp j
theorem j49.bad {c n:Int} {i:Nat} {r:Ck (Int×KM)} (hr:r=.error (c,n)) (hb:Tw G.kb G.kb w w'):j49 G w ah nx i Kp r (.returned (errV c n)) w':=by subst hr;exact⟨rfl,hb⟩
theorem j49.good {v:Int} {i:Nat} {K1 Kp1:KM} {r:Ck (Int×KM)} (hr:r=.ok (v,K1)) (ht:Tw G.kb G.kb w w') (h1:Pv G w' ah (upd Kp1 (i:Int) v)) (h2:KR G.T Kp1 K1) (h3:∀j,j<nx->Kp1 j=Kp j):j49 G w ah nx i Kp r (.returned .nilIface) w':=by subst hr;exact⟨rfl,ht,Kp1,h1,h2,h3⟩
def j4h (G:Pd) (w:World) (ah:List Int) (km ko mb nn:Nat) (bs:List Nat) (md:Md) (av:Value) (env:Env) (nx i:Nat) (Kp:KM) (s:ByteArray) (r:Ck (List Int×KM)) (e:Ending) (w':World):Prop:=match r with
 | .error (c,n)=>e=.returned (errV c n)/\Tw G.kb G.kb w w'
 | .ok (ks,K1)=>∃w1 Kp1,Tw G.kb G.kb w w1/\Pv G w1 ah Kp1/\KR G.T Kp1 K1/\(∀j,j<nx->Kp1 j=Kp j)/\j6p G w1 ah km ko mb nn bs md av env Kp1 s i (ks[0]?.getD 0) e w'
theorem j4h.bad {c n:Int} {i:Nat} {s:ByteArray} {r:Ck (List Int×KM)} (hr:r=.error (c,n)) (hb:Tw G.kb G.kb w w'):j4h G w ah km ko mb nn bs md av env nx i Kp s r (.returned (errV c n)) w':=by subst hr;exact⟨rfl,hb⟩
theorem j95 (hG:G.Ok) (ha:AhOk G.T ah) {f:Nat} (hE:ExpP G ah f) {i:Nat} {n:Nd} (hv:VN G.T i n) (hfit:FitL (j0e G.T) (okN G.T) n.kids nx i) (hif:i<=f) (hkd:isP n.kind) (h12:¬n.kind=12) (hs:n.text.size<=maxLen) (h:Pv G w ah Kp) (hp:Px G w km ko gg bs md av env Kp nx) (hkr:KR G.T Kp K) :
  Calls Tryz.prog 116 #[.pointer (some ⟨G.c,0,none⟩),.int .i64 (i:Int),.agg #[addF km,j09 km ko,.int .i64 tk,.bool lst,.bool hr,av]] w λe w'=>j49 G w ah nx i Kp (plR (Dp G) G.T ah md env f n K (i:Int)) e w':=by
 have hke:=j8e hv hkd
 obtain⟨nb,no,s9,c9,en1,hnb,e0,e1,e2,e3,ekids,hcap⟩:=Pd.node hG hv.at_
 have hiN:i<G.T.nodes.length:=(List.getElem?_eq_some_iff.1 hv.at_).1
 have iI:(i:Int)<(G.T.nodes.length:Int):=by omega
 have hn4:G.T.nodes.length<=4000:=hG.tr.1
 have hkl:n.kids.length<=1048576:=(hG.k.1.2 n (List.mem_of_getElem? hv.at_)).2
 have hle:=hfit.le
 have b1:Below w.heap.size w (w.alloc (.cells #[addF km,j09 km ko,.int .i64 tk,.bool lst,.bool hr,av] 139)):=j00 (Below.refl _ _) _
 have b2:Below w.heap.size w ((w.alloc (.cells #[addF km,j09 km ko,.int .i64 tk,.bool lst,.bool hr,av] 139)).alloc (.cells #[.int .i64 n.kind,.string n.text,.int .i64 n.num,.slice s9 n.kids.length c9] 73)):=j00 b1 _
 have x1:(w.alloc (.cells #[addF km,j09 km ko,.int .i64 tk,.bool lst,.bool hr,av] 139)).cell? ⟨G.c,1,none⟩=some (.slice (some ⟨nb,no,none⟩) G.T.nodes.length G.d1):=by rw[<-en1];exact((h.later b1).bx.cell 1).trans rfl
 have q0:=((h.later b1).bl.cell (p:=⟨nb,no+i*4,none⟩) hnb).trans e0
 have q1:=((h.later b1).bl.cell (p:=⟨nb,no+i*4+1,none⟩) hnb).trans e1
 have q2:=((h.later b1).bl.cell (p:=⟨nb,no+i*4+2,none⟩) hnb).trans e2
 have q3:=((h.later b1).bl.cell (p:=⟨nb,no+i*4+3,none⟩) hnb).trans e3
 have bp:Blk ((w.alloc (.cells #[addF km,j09 km ko,.int .i64 tk,.bool lst,.bool hr,av] 139)).alloc (.cells #[.int .i64 n.kind,.string n.text,.int .i64 n.num,.slice s9 n.kids.length c9] 73)) w.heap.size #[addF km,j09 km ko,.int .i64 tk,.bool lst,.bool hr,av] 139:=Blk.alloc (Blk.new w #[addF km,j09 km ko,.int .i64 tk,.bool lst,.bool hr,av] 139) _
 have bn:Blk ((w.alloc (.cells #[addF km,j09 km ko,.int .i64 tk,.bool lst,.bool hr,av] 139)).alloc (.cells #[.int .i64 n.kind,.string n.text,.int .i64 n.num,.slice s9 n.kids.length c9] 73)) (w.heap.size+1) #[.int .i64 n.kind,.string n.text,.int .i64 n.num,.slice s9 n.kids.length c9] 73:=Blk.new' (w.alloc (.cells #[addF km,j09 km ko,.int .i64 tk,.bool lst,.bool hr,av] 139)) #[.int .i64 n.kind,.string n.text,.int .i64 n.num,.slice s9 n.kids.length c9] 73 (by simp)
 have BP:=Hid.mk' bp
 have BN:=Hid.mk' bn
 obtain⟨z0,z1,z2,z3,z4⟩:=Blk.four' bn
 have hwk:¬w.heap.size=G.kb:=by have:=h.kl;omega
 have hwn:¬w.heap.size+1=G.kb:=by have:=h.kl;omega
 have L0:Hid (LdE G w ((w.alloc (.cells #[addF km,j09 km ko,.int .i64 tk,.bool lst,.bool hr,av] 139)).alloc (.cells #[.int .i64 n.kind,.string n.text,.int .i64 n.num,.slice s9 n.kids.length c9] 73)) ah km ko gg bs md av env nx f Kp K (n.kids.take 0) [] Kp K):=⟨by simp[ckL],h.later b2,hp.later b2,hkr,λ_ _=>rfl,Tw.of b2⟩
 have EK:=Hid.mk' ekids
 have HF:Hid (FitL (j0e G.T) (okN G.T) n.kids nx i):=hfit
 have HV:=Hid.mk' hv
 have HKE:=Hid.mk' hke
 have HP:=Hid.mk' hp
 have HI:=Hid.mk' hiN
 have t12:(n.kind ==12)=false:=by simp[h12]
 have HL1:=Hid.mk' (jbw hv)
 have HL2:=Hid.mk' (jc2 hv)
 have hkd2:Hid ((1<=n.kind/\n.kind<=10)\/(12<=n.kind/\n.kind<=26)):=by show _\/_;unfold isP at hkd;omega
 clear hkd h12;clear h hp b1 b2 bp bn e0 e1 e2 e3 ekids hfit hv hkr hke;go_enter Tryz.func116,Tryz.ntmps116
 go_wp2_with fail;clear x1 q0 q1 q2 q3 z0 z1 z2 z3 z4;go_loopw [23] (λiv wr=>∃m:Nat,m<=n.kids.length/\iv=.int .i64 m/\Hid (∃vs Kpm Km,LdE G w wr ah km ko gg bs md av env nx f Kp K (n.kids.take m) vs Kpm Km)/\Hid (Blk wr w.heap.size #[addF km,j09 km ko,.int .i64 tk,.bool lst,.bool hr,av] 139)/\Hid (Blk wr (w.heap.size+1) #[.int .i64 n.kind,.string n.text,.int .i64 n.num,.slice s9 n.kids.length c9] 73)) (λiv _=>n.kids.length-(intOf iv).toNat)
 case atStart=>exact⟨0,Nat.zero_le _,rfl,⟨_,_,_,L0.out⟩,BP.out,BN.out⟩
 obtain⟨m,hm,rfl,hL,hbp,hbn⟩:=hrel
 obtain⟨vs,Kpm,Km,hl⟩:=hL.out
 have LL:=Hid.mk' hl
 obtain⟨z0,z1,z2,z3,z4⟩:=Blk.four' hbn.out
 have p0:_=some (addF km):=(hbp.out.cell 0).trans rfl
 have p1:_=some (j09 km ko):=(hbp.out.cell 1).trans rfl
 have p2:_=some (Value.int .i64 tk):=(hbp.out.cell 2).trans rfl
 have p3:_=some (Value.bool lst):=(hbp.out.cell 3).trans rfl
 have p4:_=some (Value.bool hr):=(hbp.out.cell 4).trans rfl
 have p5:_=some av:=(hbp.out.cell 5).trans rfl
 clear hL hl;by_cases hlt:m<n.kids.length
 ·
  obtain⟨x,hx⟩:=j0q hlt
  obtain⟨k,b,rfl,hok,hfk,hab,hki⟩:=HF.out.at_ hx
  have hok2:=hok
  obtain⟨mm,hmm,_⟩:=hok2
  rw[j0t hmm] at hfk
  have hvk:VN G.T k mm:=⟨hmm,hok,b,hfk⟩
  have hke:=HKE.out _ (List.mem_of_getElem? hx)
  rw[j0j hmm] at hke
  obtain⟨fb,fo,rfl,_,hfb,pp⟩:=j05 EK.out hx
  have v1:=(LL.out.p.bl.cell (p:=⟨fb,fo+m,none⟩) hfb).trans pp
  have mI:(m:Int)<(n.kids.length:Int):=by omega
  have hcall:=Hid.mk' (hE md env km ko gg bs av lst hr tk k b mm Kpm Km wr (by omega) hvk hfk hke LL.out.p (LL.out.x.mono hab) LL.out.kr)
  have HX:=Hid.mk' hx
  clear hx pp hfk hvk hok hmm hke;go_wp2_with fail;refine hcall.out.mono ?_
  rintro e w2 hS
  clear hcall;cases hr:ckE (Dp G) G.T ah md env f Km (k:Int) with
  | error q =>
   obtain⟨c,nq⟩:=q
   rw[hr] at hS
   obtain⟨rfl,ht⟩:=hS
   have hR:Hid (ckL (ckE (Dp G) G.T ah md env f) n.kids K=.error (c,nq)):=j5x LL.out.ck HX.out hr
   have HB:=Hid.mk' (LL.out.tw.trans ht)
   clear hr ht;go_wp2_with fail;go_ret;exact j49.bad (by unfold plR;rw[hR.out]) HB.out
  | ok q =>
   obtain⟨v,K1⟩:=q
   rw[hr] at hS
   obtain⟨rfl,ht,Kp1,hp1,hk1,hlo⟩:=hS
   have HN:Hid (LdE G w w2 ah km ko gg bs md av env nx f Kp K (n.kids.take (m+1)) (vs++[v]) Kp1 K1):=⟨j72 LL.out.ck HX.out hr,hp1,LL.out.x.tw ht λj hj=>hlo j (by omega),hk1,λj hj=>(hlo j (by omega)).trans (LL.out.lo j hj),LL.out.tw.trans ht⟩
   have nbp:=Hid.mk' (hbp.out.tw ht hwk hwk)
   have nbn:=Hid.mk' (hbn.out.tw ht hwn hwn)
   clear hr ht hp1 hk1 hlo;go_wp2_with fail;go_roundw
   case rel=>exact⟨m+1,by omega,by go_num,⟨_,_,_,HN.out⟩,nbp.out,nbn.out⟩
   case measure=>simp[intOf];omega
 have hme:m=n.kids.length:=by omega
 subst hme
 have hck:Hid (ckL (ckE (Dp G) G.T ah md env f) n.kids K=.ok (vs,Km)):=by have:=LL.out.ck;rw[List.take_length] at this;exact this
 have hkk:=j83 HF.out HKE.out (by have:=HI.out;omega) hck.out LL.out.kr
 obtain⟨rk,rc,hrr⟩:∃a b,Hid (rowP (Dp G) G.T ah md env n vs=(a,b)):=⟨_,_,rfl⟩
 have hrow:=jiy (lst:=lst) (hr:=hr) (tk:=tk) hG ha LL.out.p LL.out.x (by have:=HI.out;omega) n hkd2.out s9 c9 EK.out (λx hx=>by
  obtain⟨k,mm,e,hlt2,_⟩:=HV.out.kid hx
  have:=HI.out
  exact⟨k,e,by omega⟩) hkl HL1.out HL2.out hs
 rw[hkk,hrr.out] at hrow
 have HKK:=Hid.mk' hkk
 clear hkk;go_wp2_with fail;refine hrow.mono ?_
 rintro e w2 ⟨rfl,hb2⟩
 clear hrow;have P2:=Hid.mk' (LL.out.p.later hb2)
 have T2:Hid (Tw G.kb G.kb w w2):=LL.out.tw.trans (Tw.of hb2)
 by_cases hrc:rc=0
 ·
  have tc:(rc != 0)=false:=by simp[hrc]
  have hR:Hid (plR (Dp G) G.T ah md env f n K (i:Int)=.ok (rk,Km)):=by
   show _=_
   unfold plR;rw[hck.out];simp only;rw[hrr.out,if_pos hrc]
  have y2:w2.cell? ⟨G.c,2,none⟩=some (.slice (some ⟨G.kb,0,none⟩) G.T.nodes.length G.T.nodes.length):=(P2.out.bx.cell 2).trans rfl
  have yk:=P2.out.kc i HI.out
  have yf:=P2.out.kf i
  have P3:=Hid.mk' (P2.out.put hG HI.out rk)
  have T3:=Hid.mk' (T2.out.trans (Tw.set G.kb G.kb w2 i (.int .i64 rk)))
  clear hb2 hrc;go_wp2_with fail;go_ret;exact j49.good hR.out T3.out P3.out LL.out.kr LL.out.lo
 have tc:(rc != 0)=true:=by simp[hrc]
 have hR:Hid (plR (Dp G) G.T ah md env f n K (i:Int)=.error (rc,(i:Int))):=by
  show _=_
  unfold plR;rw[hck.out];simp only;rw[hrr.out,if_neg hrc]
 clear hb2 hrc;go_wp2_with fail;go_ret;exact j49.bad hR.out T2.out
end
end
end Go.Proofs.YtjbbagcpcepkoaaGreatDoor
