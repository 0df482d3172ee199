import Derived.Test.YtjbbagcpcepkoaaGreatDoorSf18
namespace Go.Proofs.YtjbbagcpcepkoaaGreatDoor
set_option maxRecDepth 100000
set_option maxHeartbeats 64000000
set_option linter.unusedVariables false
set_option linter.unusedSimpArgs false
section
open Go.RowKit
def sm (k:Int):Int:=if k=1 then 1 else 0
theorem j9d (k:Int):okB (zk k) (sm k) 0 0=decide (1<=k/\k<=4):=by
 by_cases h:1<=k/\k<=4
 ·
  have:k=1\/k=2\/k=3\/k=4:=by omega
  rcases this with rfl|rfl|rfl|rfl<;>decide
 simp[okB,zk,h]
theorem jbt (op k l:Int):(j1v op (zk k) (sm k) 0 0 (zk l) (sm l) 0 0).1.1=opK op k l:=by
 unfold j1v opK
 rw[j9d,j9d]
 by_cases hkl:k=l
 ·
  subst hkl
  by_cases h:1<=k/\k<=4
  ·
   have hk:k=1\/k=2\/k=3\/k=4:=by omega
   rcases hk with rfl|rfl|rfl|rfl
   ·
    simp[zk,sm,j2i,iV,bV,zV]
    repeat' (first|(split<;>try omega)|omega|simp_all)
   ·
    simp[zk,sm,j2p,rV,bV,zV]
    repeat' (first|(split<;>try omega)|omega|simp_all)
   ·
    simp[zk,sm,j2a,pV,bV,zV]
    repeat' (first|(split<;>try omega)|omega|simp_all)
   simp[zk,sm,j2x,bV,zV]
   repeat' (first|(split<;>try omega)|omega|simp_all)
  have h1:¬k=1:=by omega
  have h2:¬k=2:=by omega
  have h3:¬k=3:=by omega
  have h4:¬k=4:=by omega
  simp[h,h1,h2,h3,h4,zV]
 rw[if_neg hkl]
 have hz:¬(decide (1<=k/\k<=4)=true/\decide (1<=l/\l<=4)=true/\zk k=zk l):=by
  rintro⟨h1,h2,h3⟩
  simp only[decide_eq_true_eq] at h1 h2
  unfold zk at h3
  rw[if_pos h1,if_pos h2] at h3
  exact hkl h3
 rw[if_neg hz]
 all_goals rfl
theorem j7r (op k:Int):(j14 op (zk k) (sm k) 0 0).1.1=j3n op k:=by
 unfold j14 j3n
 rw[j9d]
 by_cases h:1<=k/\k<=4
 ·
  have hk:k=1\/k=2\/k=3\/k=4:=by omega
  rcases hk with rfl|rfl|rfl|rfl
  ·
   simp[zk,sm,j1w,iV,rV,zV]
   repeat' (first|(split<;>try omega)|omega|simp_all)
  ·
   simp[zk,sm,j1k,rV,zV]
   repeat' (first|(split<;>try omega)|omega|simp_all)
  ·
   simp[zk,sm,j1l,pV,rV,zV]
   repeat' (first|(split<;>try omega)|omega|simp_all)
  simp[zk,sm,j1n,bV,zV]
  repeat' (first|(split<;>try omega)|omega|simp_all)
 have h1:¬k=1:=by omega
 have h2:¬k=2:=by omega
 have h3:¬k=3:=by omega
 have h4:¬k=4:=by omega
 simp[h,h1,h2,h3,h4,zV]
theorem j7x (k l:Int):pk (j31 (zk k) (sm k) 0 0 (zk l) (sm l) 0 0)=j2h k l:=by
 have e:j31 (zk k) (sm k) 0 0 (zk l) (sm l) 0 0=decide (k=2/\l=2):=by
  unfold j31
  rw[j9d,j9d]
  by_cases h:k=2/\l=2
  ·
   obtain⟨rfl,rfl⟩:=h;decide
  rw[Bool.eq_iff_iff]
  simp only[Bool.and_eq_true,decide_eq_true_eq,beq_iff_eq,zk]
  constructor
  ·
   rintro⟨⟨⟨h1,h2⟩,h3⟩,h4⟩
   rw[if_pos h1] at h3
   rw[if_pos h2] at h4
   exact⟨h3,h4⟩
  intro q;exact absurd q h
 rw[e]
 unfold pk j2h
 by_cases h:k=2/\l=2<;>simp[h]
theorem j38 {ops:Array Oper} {rest:List Oper} {o:Oper} {a:Act} {w:World} {Q:Exit->Act->World->Prop} (hg:o.guard=none) (x y:Operand) (ho:o.op=.store 200 x y) (k:Nat) (cells c0:Array Value) (hx:a.eval x=.pointer (some ⟨k,0,none⟩)) (hy:a.eval y=.agg cells) (hB:Blk w k c0 200) (hs:cells.size=4) (h0:c0.size=4) (h1:cells.all (·.oneCell')=true)
  (hK:∀w',Blk w' k cells 200->(∀B W,Below B W w->B<=k->Below B W w')->wpList Tryz.prog ops Q rest (a.put o.dst undef) w'):wpList Tryz.prog ops Q (o :: rest) a w :=
 wpList_store_row hg 200 x y ho k cells hx hy 200 c0 hB (by rw[Tryz.infoV9s,hs]) (by rw[hs,h0]) h1 (hK _ (setRow_heap _ _ _ _ _ _ hB) (λB W h1 h2=>below_setRow h1 h2 _))
theorem ja2 (k:Int) (w:World) :
  Calls Tryz.prog 179 #[.int .i64 k] w λe w'=>e=.returned (.agg #[.int .i64 (zk k),.int .i64 0,.float .f64 0,.float .f64 0])/\Below w.heap.size w w':=by
 by_cases h1:k<1
 ·
  have E:Hid (0=zk k):=by simp[Hid,zk];omega
  go_enter Tryz.func179,Tryz.ntmps179
  go_wp2
  refine bq (.agg #[.int .i64 0,.int .i64 0,.float .f64 0,.float .f64 0]) ⟨j5o E.out,?_⟩
  exact blq
 by_cases h2:4<k
 ·
  have t2:decide (k<=4)=false:=by simp;omega
  have t1:decide (1<=k)=true:=by simp;omega
  have E:Hid (0=zk k):=by simp[Hid,zk];omega
  clear h1 h2;go_enter Tryz.func179,Tryz.ntmps179
  go_wp2
  refine bq (.agg #[.int .i64 0,.int .i64 0,.float .f64 0,.float .f64 0]) ⟨j5o E.out,?_⟩
  exact blq
 have t2:decide (k<=4)=true:=by simp;omega
 have t1:decide (1<=k)=true:=by simp;omega
 have E:Hid (k=zk k):=by simp[Hid,zk];omega
 clear h1 h2;go_enter Tryz.func179,Tryz.ntmps179
 go_wp2
 refine bq (.agg #[.int .i64 k,.int .i64 0,.float .f64 0,.float .f64 0]) ⟨j5o E.out,?_⟩
 exact blq
theorem j27 (k:Int) (w:World) :
  Calls Tryz.prog 167 #[.int .i64 k] w λe w'=>e=.returned (.agg #[.int .i64 (zk k),.int .i64 (sm k),.float .f64 0,.float .f64 0])/\Below w.heap.size w w':=by
 by_cases h1:k=1
 ·
  subst h1
  go_enter Tryz.func167,Tryz.ntmps167
  go_wp2_with fail;refine(j2q 1 _).mono ?_
  rintro e w2 ⟨rfl,rfl⟩
  go_wp2_with fail;refine bq (.agg #[.int .i64 1,.int .i64 1,.float .f64 0,.float .f64 0]) ⟨rfl,?_⟩
  exact blq
 have t1:(k ==1)=false:=by simp[h1]
 have E:Hid (sm k=0):=by show _=_;unfold sm;rw[if_neg h1]
 clear h1;go_enter Tryz.func167,Tryz.ntmps167
 go_wp2_with fail;refine(ja2 k _).mono ?_
 rintro e w2 ⟨rfl,hb⟩
 have KZ:Hid (Blk w2 w.heap.size #[.int .i64 0,.int .i64 0,.float .f64 0,.float .f64 0] 200):=(Blk.new w _ _).later hb
 have B2:Hid (Below w.heap.size w w2):=j01 (j00 (Below.refl _ _) _) hb
 clear hb;go_wp2_with (refine j38 rfl (.tmp 2) (.tmp 7) rfl w.heap.size #[.int .i64 (zk k),.int .i64 0,.float .f64 0,.float .f64 0] _ rfl rfl KZ.out rfl rfl (by simp[Value.oneCell']) ?_;intro w3 hB3 hb3)
 have B3:Hid (Below w.heap.size w w3):=hb3 _ _ B2.out (Nat.le_refl _)
 obtain⟨z0,z1,z2,z3,z4⟩:=Blk.four' hB3
 clear hb3 B2 KZ;go_wp2_with fail;refine bodyPost_ret (v:=.agg #[.int .i64 (zk k),.int .i64 0,.float .f64 0,.float .f64 0]) (by simp[results,Tryz.results167,go_sem,z0,z1,z2,z3]) rfl ?_
 rw[E.out]
 exact⟨rfl,B3.out⟩
end
section
open Go.RowKit
section
variable {G:Pd} {w w':World} {ah:List Int} {Kp Kp':KM}
theorem j25 {a b c:World} (h1:Below a.heap.size a b) (h2:Below b.heap.size b c):Below a.heap.size a c:=j01 h1 h2
theorem jdk (hG:G.Ok) (h:Pv G w ah Kp) (n:Nd) (hk9:n.kind=9) (c9:Nat) {fb fo a:Nat} (hfb:fb<G.w0.heap.size) (pp:G.w0.cell? ⟨fb,fo,none⟩=some (.int .i64 (a:Int))) (ha:a<G.T.nodes.length) (hkl:0<n.kids.length) :
  Calls Tryz.prog 148 #[.pointer (some ⟨G.c,0,none⟩),.agg #[.int .i64 n.kind,.string n.text,.int .i64 n.num,.slice (some ⟨fb,fo,none⟩) n.kids.length c9]] w λe w'=>e=.returned (.tuple #[.int .i64 (prE (kdOr (j3n n.num (Kp a)))).1,.int .i64 (prE (kdOr (j3n n.num (Kp a)))).2])/\Below w.heap.size w w':=by
 obtain⟨ka,hka⟩:∃k,Hid (Kp a=k):=⟨_,rfl⟩
 have b1:Below w.heap.size w ((w.alloc (.cells #[.int .i64 n.kind,.string n.text,.int .i64 n.num,.slice (some ⟨fb,fo,none⟩) n.kids.length c9] 73)).alloc (.cells #[.int .i64 0,.int .i64 0,.float .f64 0,.float .f64 0] 200)):=j00 (j00 (Below.refl _ _) _) _
 have KN:=Hid.mk' (Blk.alloc (Blk.new w #[.int .i64 n.kind,.string n.text,.int .i64 n.num,.slice (some ⟨fb,fo,none⟩) n.kids.length c9] 73) (.cells #[.int .i64 0,.int .i64 0,.float .f64 0,.float .f64 0] 200))
 have K6:=Hid.mk' (Blk.new' (n:=w.heap.size+1) (w.alloc (.cells #[.int .i64 n.kind,.string n.text,.int .i64 n.num,.slice (some ⟨fb,fo,none⟩) n.kids.length c9] 73)) #[.int .i64 0,.int .i64 0,.float .f64 0,.float .f64 0] 200 (by simp))
 have H1:=Hid.mk' (h.later b1)
 have B1:=Hid.mk' b1
 have aI:(a:Int)<(G.T.nodes.length:Int):=by omega
 have l0I:(0:Int)<(n.kids.length:Int):=by omega
 have HK9:=Hid.mk' hk9
 have HD:Hid (G.c<w.heap.size/\G.kb<w.heap.size/\fb<w.heap.size):=⟨h.bx.lt,h.kl,Nat.lt_of_lt_of_le hfb h.bl.size⟩
 clear h b1 hk9;go_enter Tryz.func148,Tryz.ntmps148
 go_wp2_with fail;generalize (w.alloc (.cells #[.int .i64 n.kind,.string n.text,.int .i64 n.num,.slice (some ⟨fb,fo,none⟩) n.kids.length c9] 73)).alloc (.cells #[.int .i64 0,.int .i64 0,.float .f64 0,.float .f64 0] 200)=wr at KN K6 H1 B1 ⊢
 have hsn:=KN.out.lt
 have hsk:=H1.out.kl
 have hsc:=H1.out.bx.lt
 have hsf:fb<wr.heap.size:=Nat.lt_of_lt_of_le hfb H1.out.bl.size
 have c2:wr.cell? ⟨G.c,2,none⟩=some (.slice (some ⟨G.kb,0,none⟩) G.T.nodes.length G.T.nodes.length):=(H1.out.bx.cell 2).trans rfl
 have n3:wr.cell? ⟨w.heap.size,3,none⟩=some (.slice (some ⟨fb,fo,none⟩) n.kids.length c9):=(KN.out.cell 3).trans rfl
 have n2:wr.cell? ⟨w.heap.size,2,none⟩=some (.int .i64 n.num):=(KN.out.cell 2).trans rfl
 have k0:wr.cell? ⟨fb,fo,none⟩=some (.int .i64 (a:Int)):=(H1.out.bl.cell (p:=⟨fb,fo,none⟩) hfb).trans pp
 have kk:wr.cell? ⟨G.kb,a,none⟩=some (.int .i64 ka):=by rw[<-hka.out];exact H1.out.kc a ha
 have hS:Hid (∀X,Below wr.heap.size wr X->X.cell? ⟨G.c,2,none⟩=some (.slice (some ⟨G.kb,0,none⟩) G.T.nodes.length G.T.nodes.length)/\X.cell? ⟨w.heap.size,3,none⟩=some (.slice (some ⟨fb,fo,none⟩) n.kids.length c9)/\X.cell? ⟨fb,fo,none⟩=some (.int .i64 (a:Int))/\X.cell? ⟨G.kb,a,none⟩=some (.int .i64 ka)):=λX hX=>⟨(hX.cell (p:=⟨G.c,2,none⟩) hsc).trans c2,(hX.cell (p:=⟨w.heap.size,3,none⟩) hsn).trans n3,(hX.cell (p:=⟨fb,fo,none⟩) hsf).trans k0,(hX.cell (p:=⟨G.kb,a,none⟩) hsk).trans kk⟩
 refine wp_region_held_drew (S:=λX=>X.cell? ⟨G.c,2,none⟩=some (.slice (some ⟨G.kb,0,none⟩) G.T.nodes.length G.T.nodes.length)/\X.cell? ⟨w.heap.size,3,none⟩=some (.slice (some ⟨fb,fo,none⟩) n.kids.length c9)/\X.cell? ⟨fb,fo,none⟩=some (.int .i64 (a:Int))/\X.cell? ⟨G.kb,a,none⟩=some (.int .i64 ka)) (by kernel_rfl) ?_ (λhHeld=>?_)
 ·
  exact hS.out _ (j02 (Below.refl _ _))
 have BX:Hid (Below wr.heap.size wr wr.drew):=j02 (Below.refl _ _)
 refine wpr 0 8 ?_;simp only[zs];refine wpr 1 9 ?_;simp only[zs];refine wpr 2 10 ?_;simp only[zs];refine wpr 3 11 ?_;simp only[zs];refine wpr 4 12 ?_;simp only[zs];refine wpr 5 13 ?_;simp only[zs];refine wpr 6 14 ?_;simp only[zs];refine wpr 7 15 ?_;simp only[zs];refine wpr 8 16 ?_;simp only[zs];refine wpr 9 17 ?_;simp only[zs];refine wpAnyH_ready (rs:=[10,11]) (by kernel_rfl) (by simp) ?_
 refine AllReadyH.cons rfl (λK hK=>?_) ?_
 ·
  skip
  go_simp;refine(j27 ka _).mono ?_
  rintro z g1 ⟨rfl,hb⟩
  have BX:Hid (Below wr.heap.size wr g1):=j01 BX.out hb
  clear hb;refine hK.out _ _ (hS.out _ BX.out) (λhHeld=>?_)
  clear hK K;try simp only[zs]
  refine wpy 11 λK hK=>?_
  refine j1z rfl (d0:=some 7) rfl rfl ?_
  intro kz g2 KZ0 hk hb
  have hwk:Hid (wr.heap.size<=kz):=by have:=BX.out.size;show _<=_;omega
  have KZ:Hid (Blk g2 kz #[.int .i64 0,.int .i64 0,.float .f64 0,.float .f64 0] 200):=KZ0
  have BX:Hid (Below wr.heap.size wr g2):=j01 BX.out hb
  clear KZ0 hk hb;refine hK.out _ _ (hS.out _ BX.out) (λhHeld=>?_)
  clear hK K;try simp only[zs]
  refine wpy 12 λK hK=>?_
  refine j1y rfl rfl (.tmp 7) (.tmp 18) rfl kz #[.int .i64 (zk ka),.int .i64 (sm ka),.float .f64 0,.float .f64 0] rfl rfl KZ.out rfl (by simp[Value.oneCell']) ?_
  intro Z KV0 hb
  have BX:Hid (Below wr.heap.size wr Z):=hb _ _ BX.out hwk.out
  have KV:Hid (Blk Z kz #[.int .i64 (zk ka),.int .i64 (sm ka),.float .f64 0,.float .f64 0] 200):=KV0
  clear KV0 hb KZ;refine hK.out _ _ (hS.out _ BX.out) (λhHeld=>?_)
  clear hK K;try simp only[zs]
  refine wpAnyH_done (by kernel_rfl) ?_ _
  clear hHeld hS;have hkz:Hid (w.heap.size+1<kz):=Nat.lt_of_lt_of_le K6.out.lt hwk.out
  have H6:=Hid.mk' (H1.out.later BX.out)
  have K7:=Hid.mk' (KN.out.later BX.out)
  have K8:=Hid.mk' (K6.out.later BX.out)
  have B8:Hid (Below w.heap.size w Z):=j25 B1.out BX.out
  clear c2 n3 n2 k0 kk hsn hsk hsc hsf H1 KN K6 B1 BX;have q0:Z.cell? ⟨w.heap.size,0,none⟩=some (.int .i64 n.kind):=(K7.out.cell 0).trans rfl
  have q2:Z.cell? ⟨w.heap.size,2,none⟩=some (.int .i64 n.num):=(K7.out.cell 2).trans rfl
  obtain⟨v0,v1,v2,v3,v4⟩:=Blk.four' KV.out
  have t8:(n.kind ==8)=false:=by simp[HK9.out]
  have t9:(n.kind ==9)=true:=by simp[HK9.out]
  go_wp2_with fail;refine(j5w n.num (zk ka) (sm ka) 0 0 _ (by decide) (by decide)).mono ?_
  rintro e w5 ⟨ek,ei,ex,ey,rfl,hV,hb5⟩
  have hek:ek=j3n n.num ka:=hV.1.trans (j7r n.num ka)
  have K9:=Hid.mk' (K8.out.later hb5)
  have B9:Hid (Below w.heap.size w w5):=j25 B8.out hb5
  clear hV hb5 q0 q2 v0 v1 v2 v3 v4 H6 K7 K8 B8 KV;by_cases h0:ek=0
  ·
   have t0:(ek ==0)=true:=by simp[h0]
   have hR:Hid (prE (kdOr (j3n n.num ka))=(0,4)):=by show _=_;rw[<-hek,h0];rfl
   clear h0 hek;go_wp2_with (refine j38 rfl (.tmp 6) (.tmp 48) rfl (w.heap.size+1) #[.int .i64 ek,.int .i64 ei,.float .f64 ex,.float .f64 ey] _ rfl rfl K9.out rfl rfl (by simp[Value.oneCell']) ?_;intro w6 hB6 hb6;have B6:Hid (Below w.heap.size w w6):=hb6 _ _ B9.out (Nat.le_succ _);obtain⟨r0,r1,r2,r3,r4⟩:=Blk.four' hB6)
   refine bq (.tuple #[.int .i64 0,.int .i64 4]) ?_
   rw[hka.out,hR.out]
   exact⟨rfl,B6.out⟩
  have t0:(ek ==0)=false:=by simp[h0]
  have hR:Hid (prE (kdOr (j3n n.num ka))=(ek,0)):=by show _=_;rw[<-hek];unfold kdOr;rw[if_neg h0];rfl
  clear h0 hek;go_wp2_with (refine j38 rfl (.tmp 6) (.tmp 48) rfl (w.heap.size+1) #[.int .i64 ek,.int .i64 ei,.float .f64 ex,.float .f64 ey] _ rfl rfl K9.out rfl rfl (by simp[Value.oneCell']) ?_;intro w6 hB6 hb6;have B6:Hid (Below w.heap.size w w6):=hb6 _ _ B9.out (Nat.le_succ _);obtain⟨r0,r1,r2,r3,r4⟩:=Blk.four' hB6)
  refine bq (.tuple #[.int .i64 ek,.int .i64 0]) ?_
  rw[hka.out,hR.out]
  exact⟨rfl,B6.out⟩
 refine AllReadyH.cons rfl (λK hK=>?_) AllReadyH.nil
 refine j1z rfl (d0:=some 7) rfl rfl ?_
 intro kz g1 KZ0 hk hb
 have hwk:Hid (wr.heap.size<=kz):=by have:=BX.out.size;show _<=_;omega
 have KZ:Hid (Blk g1 kz #[.int .i64 0,.int .i64 0,.float .f64 0,.float .f64 0] 200):=KZ0
 have BX:Hid (Below wr.heap.size wr g1):=j01 BX.out hb
 clear KZ0 hk hb;refine hK.out _ _ (hS.out _ BX.out) (λhHeld=>?_)
 clear hK K;try simp only[zs]
 refine wpy 10 λK hK=>?_
 go_simp;refine(j27 ka _).mono ?_
 rintro z g2 ⟨rfl,hb⟩
 have BX:Hid (Below wr.heap.size wr g2):=j01 BX.out hb
 have KZ:Hid (Blk g2 kz #[.int .i64 0,.int .i64 0,.float .f64 0,.float .f64 0] 200):=KZ.out.later hb
 clear hb;refine hK.out _ _ (hS.out _ BX.out) (λhHeld=>?_)
 clear hK K;try simp only[zs]
 refine wpy 12 λK hK=>?_
 refine j1y rfl rfl (.tmp 7) (.tmp 18) rfl kz #[.int .i64 (zk ka),.int .i64 (sm ka),.float .f64 0,.float .f64 0] rfl rfl KZ.out rfl (by simp[Value.oneCell']) ?_
 intro Z KV0 hb
 have BX:Hid (Below wr.heap.size wr Z):=hb _ _ BX.out hwk.out
 have KV:Hid (Blk Z kz #[.int .i64 (zk ka),.int .i64 (sm ka),.float .f64 0,.float .f64 0] 200):=KV0
 clear KV0 hb KZ;refine hK.out _ _ (hS.out _ BX.out) (λhHeld=>?_)
 clear hK K;try simp only[zs]
 refine wpAnyH_done (by kernel_rfl) ?_ _
 clear hHeld hS;have hkz:Hid (w.heap.size+1<kz):=Nat.lt_of_lt_of_le K6.out.lt hwk.out
 have H6:=Hid.mk' (H1.out.later BX.out)
 have K7:=Hid.mk' (KN.out.later BX.out)
 have K8:=Hid.mk' (K6.out.later BX.out)
 have B8:Hid (Below w.heap.size w Z):=j25 B1.out BX.out
 clear c2 n3 n2 k0 kk hsn hsk hsc hsf H1 KN K6 B1 BX;have q0:Z.cell? ⟨w.heap.size,0,none⟩=some (.int .i64 n.kind):=(K7.out.cell 0).trans rfl
 have q2:Z.cell? ⟨w.heap.size,2,none⟩=some (.int .i64 n.num):=(K7.out.cell 2).trans rfl
 obtain⟨v0,v1,v2,v3,v4⟩:=Blk.four' KV.out
 have t8:(n.kind ==8)=false:=by simp[HK9.out]
 have t9:(n.kind ==9)=true:=by simp[HK9.out]
 go_wp2_with fail;refine(j5w n.num (zk ka) (sm ka) 0 0 _ (by decide) (by decide)).mono ?_
 rintro e w5 ⟨ek,ei,ex,ey,rfl,hV,hb5⟩
 have hek:ek=j3n n.num ka:=hV.1.trans (j7r n.num ka)
 have K9:=Hid.mk' (K8.out.later hb5)
 have B9:Hid (Below w.heap.size w w5):=j25 B8.out hb5
 clear hV hb5 q0 q2 v0 v1 v2 v3 v4 H6 K7 K8 B8 KV;by_cases h0:ek=0
 ·
  have t0:(ek ==0)=true:=by simp[h0]
  have hR:Hid (prE (kdOr (j3n n.num ka))=(0,4)):=by show _=_;rw[<-hek,h0];rfl
  clear h0 hek;go_wp2_with (refine j38 rfl (.tmp 6) (.tmp 48) rfl (w.heap.size+1) #[.int .i64 ek,.int .i64 ei,.float .f64 ex,.float .f64 ey] _ rfl rfl K9.out rfl rfl (by simp[Value.oneCell']) ?_;intro w6 hB6 hb6;have B6:Hid (Below w.heap.size w w6):=hb6 _ _ B9.out (Nat.le_succ _);obtain⟨r0,r1,r2,r3,r4⟩:=Blk.four' hB6)
  refine bq (.tuple #[.int .i64 0,.int .i64 4]) ?_
  rw[hka.out,hR.out]
  exact⟨rfl,B6.out⟩
 have t0:(ek ==0)=false:=by simp[h0]
 have hR:Hid (prE (kdOr (j3n n.num ka))=(ek,0)):=by show _=_;rw[<-hek];unfold kdOr;rw[if_neg h0];rfl
 clear h0 hek;go_wp2_with (refine j38 rfl (.tmp 6) (.tmp 48) rfl (w.heap.size+1) #[.int .i64 ek,.int .i64 ei,.float .f64 ex,.float .f64 ey] _ rfl rfl K9.out rfl rfl (by simp[Value.oneCell']) ?_;intro w6 hB6 hb6;have B6:Hid (Below w.heap.size w w6):=hb6 _ _ B9.out (Nat.le_succ _);obtain⟨r0,r1,r2,r3,r4⟩:=Blk.four' hB6)
 refine bq (.tuple #[.int .i64 ek,.int .i64 0]) ?_
 rw[hka.out,hR.out]
 exact⟨rfl,B6.out⟩
end
end
section
open Go.RowKit
section
variable {G:Pd} {w w':World} {ah:List Int} {Kp Kp':KM}
theorem j5a {ops:Array Oper} {o:Oper} {a:Act} {w:World} {K:Act->World->Prop} {Q:Exit->Act->World->Prop} {E:Prop} (hg:o.guard=none) (hd:o.dst=none) (x y:Operand) (ho:o.op=.store 200 x y) (k:Nat) (cells:Array Value) (hx:a.eval x=.pointer (some ⟨k,0,none⟩)) (hy:a.eval y=.agg cells) (hB:Blk w k #[.int .i64 0,.int .i64 0,.float .f64 0,.float .f64 0] 200) (hs:cells.size=4) (h1:cells.all (·.oneCell')=true)
  (hK:∀w',Blk w' k cells 200->(∀B W,Below B W w->B<=k->Below B W w')->Tw k k w w'->K (a.put none undef) w') :
  if Region.wanted o (yielded ops a.tmps)=true then Oper.wp Tryz.prog o a w K Q else E:=by
 have hw:Region.wanted o (yielded ops a.tmps)=true:=by simp[Region.wanted,hg]
 rw[if_pos hw]
 exact wp_store_row 200 x y ho k cells hx hy 200 _ hB (by rw[Tryz.infoV9s,hs]) (by rw[hs];rfl) h1 (by rw[hd];exact hK _ (setRow_heap _ _ _ _ _ _ hB) (λB W h1 h2=>below_setRow h1 h2 _) ⟨rfl,rfl,rfl,by simp,λq _ h2 _=>setRow_other _ _ _ _ h2⟩)
theorem jjb (hG:G.Ok) (h:Pv G w ah Kp) (n:Nd) (hk9:n.kind=8) (c9:Nat) {fb fo a:Nat} (hfb:fb<G.w0.heap.size) (pp:G.w0.cell? ⟨fb,fo,none⟩=some (.int .i64 (a:Int))) (ha:a<G.T.nodes.length) {b:Nat} (pp2:G.w0.cell? ⟨fb,fo+1,none⟩=some (.int .i64 (b:Int))) (hb2:b<G.T.nodes.length) (hkl:1<n.kids.length) :
  Calls Tryz.prog 148 #[.pointer (some ⟨G.c,0,none⟩),.agg #[.int .i64 n.kind,.string n.text,.int .i64 n.num,.slice (some ⟨fb,fo,none⟩) n.kids.length c9]] w λe w'=>e=.returned (.tuple #[.int .i64 (prE (kdOr (opK n.num (Kp a) (Kp b)))).1,.int .i64 (prE (kdOr (opK n.num (Kp a) (Kp b)))).2])/\Below w.heap.size w w':=by
 obtain⟨kb,hkb⟩:∃k,Hid (Kp b=k):=⟨_,rfl⟩
 have bI:(b:Int)<(G.T.nodes.length:Int):=by omega
 have l1I:(1:Int)<(n.kids.length:Int):=by omega
 have l0N:0<n.kids.length:=by omega
 obtain⟨ka,hka⟩:∃k,Hid (Kp a=k):=⟨_,rfl⟩
 have b1:Below w.heap.size w ((w.alloc (.cells #[.int .i64 n.kind,.string n.text,.int .i64 n.num,.slice (some ⟨fb,fo,none⟩) n.kids.length c9] 73)).alloc (.cells #[.int .i64 0,.int .i64 0,.float .f64 0,.float .f64 0] 200)):=j00 (j00 (Below.refl _ _) _) _
 have KN:=Hid.mk' (Blk.alloc (Blk.new w #[.int .i64 n.kind,.string n.text,.int .i64 n.num,.slice (some ⟨fb,fo,none⟩) n.kids.length c9] 73) (.cells #[.int .i64 0,.int .i64 0,.float .f64 0,.float .f64 0] 200))
 have K6:=Hid.mk' (Blk.new' (n:=w.heap.size+1) (w.alloc (.cells #[.int .i64 n.kind,.string n.text,.int .i64 n.num,.slice (some ⟨fb,fo,none⟩) n.kids.length c9] 73)) #[.int .i64 0,.int .i64 0,.float .f64 0,.float .f64 0] 200 (by simp))
 have H1:=Hid.mk' (h.later b1)
 have B1:=Hid.mk' b1
 have aI:(a:Int)<(G.T.nodes.length:Int):=by omega
 have l0I:(0:Int)<(n.kids.length:Int):=by omega
 have HK9:=Hid.mk' hk9
 have HD:Hid (G.c<w.heap.size/\G.kb<w.heap.size/\fb<w.heap.size):=⟨h.bx.lt,h.kl,Nat.lt_of_lt_of_le hfb h.bl.size⟩
 clear h b1 hk9;go_enter Tryz.func148,Tryz.ntmps148
 go_wp2_with fail;generalize (w.alloc (.cells #[.int .i64 n.kind,.string n.text,.int .i64 n.num,.slice (some ⟨fb,fo,none⟩) n.kids.length c9] 73)).alloc (.cells #[.int .i64 0,.int .i64 0,.float .f64 0,.float .f64 0] 200)=wr at KN K6 H1 B1 ⊢
 have hsn:=KN.out.lt
 have hsk:=H1.out.kl
 have hsc:=H1.out.bx.lt
 have hsf:fb<wr.heap.size:=Nat.lt_of_lt_of_le hfb H1.out.bl.size
 have c2:wr.cell? ⟨G.c,2,none⟩=some (.slice (some ⟨G.kb,0,none⟩) G.T.nodes.length G.T.nodes.length):=(H1.out.bx.cell 2).trans rfl
 have n3:wr.cell? ⟨w.heap.size,3,none⟩=some (.slice (some ⟨fb,fo,none⟩) n.kids.length c9):=(KN.out.cell 3).trans rfl
 have n2:wr.cell? ⟨w.heap.size,2,none⟩=some (.int .i64 n.num):=(KN.out.cell 2).trans rfl
 have k0:wr.cell? ⟨fb,fo,none⟩=some (.int .i64 (a:Int)):=(H1.out.bl.cell (p:=⟨fb,fo,none⟩) hfb).trans pp
 have kk:wr.cell? ⟨G.kb,a,none⟩=some (.int .i64 ka):=by rw[<-hka.out];exact H1.out.kc a ha
 have hS:Hid (∀X,Below wr.heap.size wr X->X.cell? ⟨G.c,2,none⟩=some (.slice (some ⟨G.kb,0,none⟩) G.T.nodes.length G.T.nodes.length)/\X.cell? ⟨w.heap.size,3,none⟩=some (.slice (some ⟨fb,fo,none⟩) n.kids.length c9)/\X.cell? ⟨fb,fo,none⟩=some (.int .i64 (a:Int))/\X.cell? ⟨G.kb,a,none⟩=some (.int .i64 ka)):=λX hX=>⟨(hX.cell (p:=⟨G.c,2,none⟩) hsc).trans c2,(hX.cell (p:=⟨w.heap.size,3,none⟩) hsn).trans n3,(hX.cell (p:=⟨fb,fo,none⟩) hsf).trans k0,(hX.cell (p:=⟨G.kb,a,none⟩) hsk).trans kk⟩
 refine wp_region_held_drew (S:=λX=>X.cell? ⟨G.c,2,none⟩=some (.slice (some ⟨G.kb,0,none⟩) G.T.nodes.length G.T.nodes.length)/\X.cell? ⟨w.heap.size,3,none⟩=some (.slice (some ⟨fb,fo,none⟩) n.kids.length c9)/\X.cell? ⟨fb,fo,none⟩=some (.int .i64 (a:Int))/\X.cell? ⟨G.kb,a,none⟩=some (.int .i64 ka)) (by kernel_rfl) ?_ (λhHeld=>?_)
 ·
  exact hS.out _ (j02 (Below.refl _ _))
 have BX:Hid (Below wr.heap.size wr wr.drew):=j02 (Below.refl _ _)
 refine wpr 0 8 ?_;simp only[zs];refine wpr 1 9 ?_;simp only[zs];refine wpr 2 10 ?_;simp only[zs];refine wpr 3 11 ?_;simp only[zs];refine wpr 4 12 ?_;simp only[zs];refine wpr 5 13 ?_;simp only[zs];refine wpr 6 14 ?_;simp only[zs];refine wpr 7 15 ?_;simp only[zs];refine wpr 8 16 ?_;simp only[zs];refine wpr 9 17 ?_;simp only[zs];refine wpAnyH_ready (rs:=[10,11]) (by kernel_rfl) (by simp) ?_
 refine AllReadyH.cons rfl (λK hK=>?_) ?_
 ·
  skip
  go_simp;refine(j27 ka _).mono ?_
  rintro z g1 ⟨rfl,hb⟩
  have BX:Hid (Below wr.heap.size wr g1):=j01 BX.out hb
  clear hb;refine hK.out _ _ (hS.out _ BX.out) (λhHeld=>?_)
  clear hK K;try simp only[zs]
  refine wpy 11 λK hK=>?_
  refine j1z rfl (d0:=some 7) rfl rfl ?_
  intro kz g2 KZ0 hk hb
  have hwk:Hid (wr.heap.size<=kz):=by have:=BX.out.size;show _<=_;omega
  have KZ:Hid (Blk g2 kz #[.int .i64 0,.int .i64 0,.float .f64 0,.float .f64 0] 200):=KZ0
  have BX:Hid (Below wr.heap.size wr g2):=j01 BX.out hb
  clear KZ0 hk hb;refine hK.out _ _ (hS.out _ BX.out) (λhHeld=>?_)
  clear hK K;try simp only[zs]
  refine wpy 12 λK hK=>?_
  refine j1y rfl rfl (.tmp 7) (.tmp 18) rfl kz #[.int .i64 (zk ka),.int .i64 (sm ka),.float .f64 0,.float .f64 0] rfl rfl KZ.out rfl (by simp[Value.oneCell']) ?_
  intro Z KV0 hb
  have BX:Hid (Below wr.heap.size wr Z):=hb _ _ BX.out hwk.out
  have KV:Hid (Blk Z kz #[.int .i64 (zk ka),.int .i64 (sm ka),.float .f64 0,.float .f64 0] 200):=KV0
  clear KV0 hb KZ;refine hK.out _ _ (hS.out _ BX.out) (λhHeld=>?_)
  clear hK K;try simp only[zs]
  refine wpAnyH_done (by kernel_rfl) ?_ _
  clear hHeld hS;have hkz:Hid (w.heap.size+1<kz):=Nat.lt_of_lt_of_le K6.out.lt hwk.out
  have H6:=Hid.mk' (H1.out.later BX.out)
  have K7:=Hid.mk' (KN.out.later BX.out)
  have K8:=Hid.mk' (K6.out.later BX.out)
  have B8:Hid (Below w.heap.size w Z):=j25 B1.out BX.out
  clear c2 n3 n2 k0 kk hsn hsk hsc hsf H1 KN K6 B1 BX;have q0:Z.cell? ⟨w.heap.size,0,none⟩=some (.int .i64 n.kind):=(K7.out.cell 0).trans rfl
  have t8:(n.kind ==8)=true:=by simp[HK9.out]
  have e5:Z.cell? ⟨G.kb,b,none⟩=some (.int .i64 kb):=by rw[<-hkb.out];exact H6.out.kc b hb2
  have f0:Z.cell? ⟨G.c,2,none⟩=some (.slice (some ⟨G.kb,0,none⟩) G.T.nodes.length G.T.nodes.length):=(H6.out.bx.cell 2).trans rfl
  have f1:Z.cell? ⟨w.heap.size,3,none⟩=some (.slice (some ⟨fb,fo,none⟩) n.kids.length c9):=(K7.out.cell 3).trans rfl
  have f2:Z.cell? ⟨fb,fo+1,none⟩=some (.int .i64 (b:Int)):=(H6.out.bl.cell (p:=⟨fb,fo+1,none⟩) hfb).trans pp2
  have f3:Z.cell? ⟨G.kb,b,none⟩=some (.int .i64 kb):=e5
  have f4:Z.cell? ⟨kz,0,none⟩=some (.int .i64 (zk ka)):=(KV.out.cell 0).trans rfl
  have f5:Z.cell? ⟨kz,1,none⟩=some (.int .i64 (sm ka)):=(KV.out.cell 1).trans rfl
  have f6:Z.cell? ⟨kz,2,none⟩=some (.float .f64 0):=(KV.out.cell 2).trans rfl
  have f7:Z.cell? ⟨kz,3,none⟩=some (.float .f64 0):=(KV.out.cell 3).trans rfl
  have f8:Z.cell? ⟨w.heap.size,2,none⟩=some (.int .i64 n.num):=(K7.out.cell 2).trans rfl
  have hS2:Hid (∀X,Tw (w.heap.size+1) (w.heap.size+1) Z X->X.cell? ⟨G.c,2,none⟩=some (.slice (some ⟨G.kb,0,none⟩) G.T.nodes.length G.T.nodes.length)/\X.cell? ⟨w.heap.size,3,none⟩=some (.slice (some ⟨fb,fo,none⟩) n.kids.length c9)/\X.cell? ⟨fb,fo+1,none⟩=some (.int .i64 (b:Int))/\X.cell? ⟨G.kb,b,none⟩=some (.int .i64 kb)/\X.cell? ⟨kz,0,none⟩=some (.int .i64 (zk ka))/\X.cell? ⟨kz,1,none⟩=some (.int .i64 (sm ka))/\X.cell? ⟨kz,2,none⟩=some (.float .f64 0)/\X.cell? ⟨kz,3,none⟩=some (.float .f64 0)/\X.cell? ⟨w.heap.size,2,none⟩=some (.int .i64 n.num)):=λX hX=>⟨(hX.cell H6.out.bx.lt (by have:=HD.out.1;omega) (by have:=HD.out.1;omega)).trans f0,(hX.cell K7.out.lt (by omega) (by omega)).trans f1,(hX.cell (Nat.lt_of_lt_of_le hfb H6.out.bl.size) (by have:=HD.out.2.2;omega) (by have:=HD.out.2.2;omega)).trans f2,(hX.cell H6.out.kl (by have:=HD.out.2.1;omega) (by have:=HD.out.2.1;omega)).trans f3,(hX.cell KV.out.lt (by have:=hkz.out;omega) (by have:=hkz.out;omega)).trans f4,(hX.cell KV.out.lt (by have:=hkz.out;omega) (by have:=hkz.out;omega)).trans f5,(hX.cell KV.out.lt (by have:=hkz.out;omega) (by have:=hkz.out;omega)).trans f6,(hX.cell KV.out.lt (by have:=hkz.out;omega) (by have:=hkz.out;omega)).trans f7,(hX.cell K7.out.lt (by omega) (by omega)).trans f8⟩
  clear e5 f0 f1 f2 f3 f4 f5 f6 f7 f8;go_wp2_with fail;clear q0;refine wp_region_held_drew (S:=λX=>X.cell? ⟨G.c,2,none⟩=some (.slice (some ⟨G.kb,0,none⟩) G.T.nodes.length G.T.nodes.length)/\X.cell? ⟨w.heap.size,3,none⟩=some (.slice (some ⟨fb,fo,none⟩) n.kids.length c9)/\X.cell? ⟨fb,fo+1,none⟩=some (.int .i64 (b:Int))/\X.cell? ⟨G.kb,b,none⟩=some (.int .i64 kb)/\X.cell? ⟨kz,0,none⟩=some (.int .i64 (zk ka))/\X.cell? ⟨kz,1,none⟩=some (.int .i64 (sm ka))/\X.cell? ⟨kz,2,none⟩=some (.float .f64 0)/\X.cell? ⟨kz,3,none⟩=some (.float .f64 0)/\X.cell? ⟨w.heap.size,2,none⟩=some (.int .i64 n.num)) (by kernel_rfl) ?_ (λhHeld=>?_)
  ·
   exact hS2.out _ (Tw.of (j02 (Below.refl _ _)))
  have BY:Hid (Below Z.heap.size Z Z.drew):=j02 (Below.refl _ _)
  refine wpr 0 24 ?_;simp only[zs];refine wpr 1 25 ?_;simp only[zs];refine wpr 2 26 ?_;simp only[zs];refine wpr 3 27 ?_;simp only[zs];refine wpr 4 28 ?_;simp only[zs];refine wpr 5 29 ?_;simp only[zs];refine wpr 6 30 ?_;simp only[zs];refine wpr 7 31 ?_;simp only[zs];refine wpr 8 32 ?_;simp only[zs];refine wpr 9 33 ?_;simp only[zs];refine wpr 10 34 ?_;simp only[zs];refine wpr 11 35 ?_
  simp only[zs];refine wpr 12 36 ?_;simp only[zs];refine wpy 13 λK hK=>?_
  go_simp;refine(j27 kb _).mono ?_
  rintro z g3 ⟨rfl,hb⟩
  have BY:Hid (Below Z.heap.size Z g3):=j01 BY.out hb
  clear hb;refine hK.out _ _ (hS2.out _ (Tw.of BY.out)) (λhHeld=>?_)
  clear hK K;try simp only[zs]
  refine wpy 14 λK hK=>?_
  go_simp;refine(j7v n.num (zk ka) (sm ka) 0 0 (zk kb) (sm kb) 0 0 _).mono ?_
  rintro z g4 ⟨ek,ei,ex,ey,rfl,hV,hb⟩
  have hek:Hid (ek=opK n.num ka kb):=hV.1.trans (jbt n.num ka kb)
  clear hV;have BY:Hid (Below Z.heap.size Z g4):=j01 BY.out hb
  clear hb;refine hK.out _ _ (hS2.out _ (Tw.of BY.out)) (λhHeld=>?_)
  clear hK K;try simp only[zs]
  refine wpr 15 23 ?_;simp only[zs];refine wpr 16 39 ?_;simp only[zs];refine wpr 17 40 ?_;simp only[zs];have K9:=Hid.mk' (K8.out.later BY.out)
  have B9:Hid (Below w.heap.size w g4):=j25 B8.out BY.out
  refine wpy 18 λK hK=>?_
  refine j5a rfl rfl (.tmp 6) (.tmp 39) rfl (w.heap.size+1) #[.int .i64 ek,.int .i64 ei,.float .f64 ex,.float .f64 ey] rfl rfl K9.out rfl (by simp[Value.oneCell']) ?_
  intro w6 hB60 hb6 ht6
  have B6:Hid (Below w.heap.size w w6):=hb6 _ _ B9.out (Nat.le_succ _)
  have hB6:=Hid.mk' hB60
  refine hK.out _ _ (hS2.out _ ((Tw.of BY.out).trans ht6)) (λhHeld=>?_)
  clear hK K hb6 ht6 hB60;try simp only[zs]
  refine wpAnyH_done (by kernel_rfl) ?_ _
  clear hHeld hS2 BY K9 B9 H6 K7 K8 B8 KV;obtain⟨r0,r1,r2,r3,r4⟩:=Blk.four' hB6.out
  by_cases h0:ek=0
  ·
   have t0:(ek ==0)=true:=by simp[h0]
   have hR:Hid (prE (kdOr (opK n.num ka kb))=(0,4)):=by show _=_;rw[<-hek.out,h0];rfl
   clear h0 hek;go_wp2_with fail;refine bq (.tuple #[.int .i64 0,.int .i64 4]) ?_
   rw[hka.out,hkb.out,hR.out]
   exact⟨rfl,B6.out⟩
  have t0:(ek ==0)=false:=by simp[h0]
  have hR:Hid (prE (kdOr (opK n.num ka kb))=(ek,0)):=by show _=_;rw[<-hek.out];unfold kdOr;rw[if_neg h0];rfl
  clear h0 hek;go_wp2_with fail;refine bq (.tuple #[.int .i64 ek,.int .i64 0]) ?_
  rw[hka.out,hkb.out,hR.out]
  exact⟨rfl,B6.out⟩
 refine AllReadyH.cons rfl (λK hK=>?_) AllReadyH.nil
 refine j1z rfl (d0:=some 7) rfl rfl ?_
 intro kz g1 KZ0 hk hb
 have hwk:Hid (wr.heap.size<=kz):=by have:=BX.out.size;show _<=_;omega
 have KZ:Hid (Blk g1 kz #[.int .i64 0,.int .i64 0,.float .f64 0,.float .f64 0] 200):=KZ0
 have BX:Hid (Below wr.heap.size wr g1):=j01 BX.out hb
 clear KZ0 hk hb;refine hK.out _ _ (hS.out _ BX.out) (λhHeld=>?_)
 clear hK K;try simp only[zs]
 refine wpy 10 λK hK=>?_
 go_simp;refine(j27 ka _).mono ?_
 rintro z g2 ⟨rfl,hb⟩
 have BX:Hid (Below wr.heap.size wr g2):=j01 BX.out hb
 have KZ:Hid (Blk g2 kz #[.int .i64 0,.int .i64 0,.float .f64 0,.float .f64 0] 200):=KZ.out.later hb
 clear hb;refine hK.out _ _ (hS.out _ BX.out) (λhHeld=>?_)
 clear hK K;try simp only[zs]
 refine wpy 12 λK hK=>?_
 refine j1y rfl rfl (.tmp 7) (.tmp 18) rfl kz #[.int .i64 (zk ka),.int .i64 (sm ka),.float .f64 0,.float .f64 0] rfl rfl KZ.out rfl (by simp[Value.oneCell']) ?_
 intro Z KV0 hb
 have BX:Hid (Below wr.heap.size wr Z):=hb _ _ BX.out hwk.out
 have KV:Hid (Blk Z kz #[.int .i64 (zk ka),.int .i64 (sm ka),.float .f64 0,.float .f64 0] 200):=KV0
 clear KV0 hb KZ;refine hK.out _ _ (hS.out _ BX.out) (λhHeld=>?_)
 clear hK K;try simp only[zs]
 refine wpAnyH_done (by kernel_rfl) ?_ _
 clear hHeld hS;have hkz:Hid (w.heap.size+1<kz):=Nat.lt_of_lt_of_le K6.out.lt hwk.out
 have H6:=Hid.mk' (H1.out.later BX.out)
 have K7:=Hid.mk' (KN.out.later BX.out)
 have K8:=Hid.mk' (K6.out.later BX.out)
 have B8:Hid (Below w.heap.size w Z):=j25 B1.out BX.out
 clear c2 n3 n2 k0 kk hsn hsk hsc hsf H1 KN K6 B1 BX;have q0:Z.cell? ⟨w.heap.size,0,none⟩=some (.int .i64 n.kind):=(K7.out.cell 0).trans rfl
 have t8:(n.kind ==8)=true:=by simp[HK9.out]
 have e5:Z.cell? ⟨G.kb,b,none⟩=some (.int .i64 kb):=by rw[<-hkb.out];exact H6.out.kc b hb2
 have f0:Z.cell? ⟨G.c,2,none⟩=some (.slice (some ⟨G.kb,0,none⟩) G.T.nodes.length G.T.nodes.length):=(H6.out.bx.cell 2).trans rfl
 have f1:Z.cell? ⟨w.heap.size,3,none⟩=some (.slice (some ⟨fb,fo,none⟩) n.kids.length c9):=(K7.out.cell 3).trans rfl
 have f2:Z.cell? ⟨fb,fo+1,none⟩=some (.int .i64 (b:Int)):=(H6.out.bl.cell (p:=⟨fb,fo+1,none⟩) hfb).trans pp2
 have f3:Z.cell? ⟨G.kb,b,none⟩=some (.int .i64 kb):=e5
 have f4:Z.cell? ⟨kz,0,none⟩=some (.int .i64 (zk ka)):=(KV.out.cell 0).trans rfl
 have f5:Z.cell? ⟨kz,1,none⟩=some (.int .i64 (sm ka)):=(KV.out.cell 1).trans rfl
 have f6:Z.cell? ⟨kz,2,none⟩=some (.float .f64 0):=(KV.out.cell 2).trans rfl
 have f7:Z.cell? ⟨kz,3,none⟩=some (.float .f64 0):=(KV.out.cell 3).trans rfl
 have f8:Z.cell? ⟨w.heap.size,2,none⟩=some (.int .i64 n.num):=(K7.out.cell 2).trans rfl
 have hS2:Hid (∀X,Tw (w.heap.size+1) (w.heap.size+1) Z X->X.cell? ⟨G.c,2,none⟩=some (.slice (some ⟨G.kb,0,none⟩) G.T.nodes.length G.T.nodes.length)/\X.cell? ⟨w.heap.size,3,none⟩=some (.slice (some ⟨fb,fo,none⟩) n.kids.length c9)/\X.cell? ⟨fb,fo+1,none⟩=some (.int .i64 (b:Int))/\X.cell? ⟨G.kb,b,none⟩=some (.int .i64 kb)/\X.cell? ⟨kz,0,none⟩=some (.int .i64 (zk ka))/\X.cell? ⟨kz,1,none⟩=some (.int .i64 (sm ka))/\X.cell? ⟨kz,2,none⟩=some (.float .f64 0)/\X.cell? ⟨kz,3,none⟩=some (.float .f64 0)/\X.cell? ⟨w.heap.size,2,none⟩=some (.int .i64 n.num)):=λX hX=>⟨(hX.cell H6.out.bx.lt (by have:=HD.out.1;omega) (by have:=HD.out.1;omega)).trans f0,(hX.cell K7.out.lt (by omega) (by omega)).trans f1,(hX.cell (Nat.lt_of_lt_of_le hfb H6.out.bl.size) (by have:=HD.out.2.2;omega) (by have:=HD.out.2.2;omega)).trans f2,(hX.cell H6.out.kl (by have:=HD.out.2.1;omega) (by have:=HD.out.2.1;omega)).trans f3,(hX.cell KV.out.lt (by have:=hkz.out;omega) (by have:=hkz.out;omega)).trans f4,(hX.cell KV.out.lt (by have:=hkz.out;omega) (by have:=hkz.out;omega)).trans f5,(hX.cell KV.out.lt (by have:=hkz.out;omega) (by have:=hkz.out;omega)).trans f6,(hX.cell KV.out.lt (by have:=hkz.out;omega) (by have:=hkz.out;omega)).trans f7,(hX.cell K7.out.lt (by omega) (by omega)).trans f8⟩
 clear e5 f0 f1 f2 f3 f4 f5 f6 f7 f8;go_wp2_with fail;clear q0;refine wp_region_held_drew (S:=λX=>X.cell? ⟨G.c,2,none⟩=some (.slice (some ⟨G.kb,0,none⟩) G.T.nodes.length G.T.nodes.length)/\X.cell? ⟨w.heap.size,3,none⟩=some (.slice (some ⟨fb,fo,none⟩) n.kids.length c9)/\X.cell? ⟨fb,fo+1,none⟩=some (.int .i64 (b:Int))/\X.cell? ⟨G.kb,b,none⟩=some (.int .i64 kb)/\X.cell? ⟨kz,0,none⟩=some (.int .i64 (zk ka))/\X.cell? ⟨kz,1,none⟩=some (.int .i64 (sm ka))/\X.cell? ⟨kz,2,none⟩=some (.float .f64 0)/\X.cell? ⟨kz,3,none⟩=some (.float .f64 0)/\X.cell? ⟨w.heap.size,2,none⟩=some (.int .i64 n.num)) (by kernel_rfl) ?_ (λhHeld=>?_)
 ·
  exact hS2.out _ (Tw.of (j02 (Below.refl _ _)))
 have BY:Hid (Below Z.heap.size Z Z.drew):=j02 (Below.refl _ _)
 refine wpr 0 24 ?_;simp only[zs];refine wpr 1 25 ?_;simp only[zs];refine wpr 2 26 ?_;simp only[zs];refine wpr 3 27 ?_;simp only[zs];refine wpr 4 28 ?_;simp only[zs];refine wpr 5 29 ?_;simp only[zs];refine wpr 6 30 ?_;simp only[zs];refine wpr 7 31 ?_;simp only[zs];refine wpr 8 32 ?_;simp only[zs];refine wpr 9 33 ?_;simp only[zs];refine wpr 10 34 ?_;simp only[zs];refine wpr 11 35 ?_
 simp only[zs];refine wpr 12 36 ?_;simp only[zs];refine wpy 13 λK hK=>?_
 go_simp;refine(j27 kb _).mono ?_
 rintro z g3 ⟨rfl,hb⟩
 have BY:Hid (Below Z.heap.size Z g3):=j01 BY.out hb
 clear hb;refine hK.out _ _ (hS2.out _ (Tw.of BY.out)) (λhHeld=>?_)
 clear hK K;try simp only[zs]
 refine wpy 14 λK hK=>?_
 go_simp;refine(j7v n.num (zk ka) (sm ka) 0 0 (zk kb) (sm kb) 0 0 _).mono ?_
 rintro z g4 ⟨ek,ei,ex,ey,rfl,hV,hb⟩
 have hek:Hid (ek=opK n.num ka kb):=hV.1.trans (jbt n.num ka kb)
 clear hV;have BY:Hid (Below Z.heap.size Z g4):=j01 BY.out hb
 clear hb;refine hK.out _ _ (hS2.out _ (Tw.of BY.out)) (λhHeld=>?_)
 clear hK K;try simp only[zs]
 refine wpr 15 23 ?_;simp only[zs];refine wpr 16 39 ?_;simp only[zs];refine wpr 17 40 ?_;simp only[zs];have K9:=Hid.mk' (K8.out.later BY.out)
 have B9:Hid (Below w.heap.size w g4):=j25 B8.out BY.out
 refine wpy 18 λK hK=>?_
 refine j5a rfl rfl (.tmp 6) (.tmp 39) rfl (w.heap.size+1) #[.int .i64 ek,.int .i64 ei,.float .f64 ex,.float .f64 ey] rfl rfl K9.out rfl (by simp[Value.oneCell']) ?_
 intro w6 hB60 hb6 ht6
 have B6:Hid (Below w.heap.size w w6):=hb6 _ _ B9.out (Nat.le_succ _)
 have hB6:=Hid.mk' hB60
 refine hK.out _ _ (hS2.out _ ((Tw.of BY.out).trans ht6)) (λhHeld=>?_)
 clear hK K hb6 ht6 hB60;try simp only[zs]
 refine wpAnyH_done (by kernel_rfl) ?_ _
 clear hHeld hS2 BY K9 B9 H6 K7 K8 B8 KV;obtain⟨r0,r1,r2,r3,r4⟩:=Blk.four' hB6.out
 by_cases h0:ek=0
 ·
  have t0:(ek ==0)=true:=by simp[h0]
  have hR:Hid (prE (kdOr (opK n.num ka kb))=(0,4)):=by show _=_;rw[<-hek.out,h0];rfl
  clear h0 hek;go_wp2_with fail;refine bq (.tuple #[.int .i64 0,.int .i64 4]) ?_
  rw[hka.out,hkb.out,hR.out]
  exact⟨rfl,B6.out⟩
 have t0:(ek ==0)=false:=by simp[h0]
 have hR:Hid (prE (kdOr (opK n.num ka kb))=(ek,0)):=by show _=_;rw[<-hek.out];unfold kdOr;rw[if_neg h0];rfl
 clear h0 hek;go_wp2_with fail;refine bq (.tuple #[.int .i64 ek,.int .i64 0]) ?_
 rw[hka.out,hkb.out,hR.out]
 exact⟨rfl,B6.out⟩
end
end
end Go.Proofs.YtjbbagcpcepkoaaGreatDoor
