import Derived.Test.YtjbbagcpcepkoaaGreatDoorSe26
import Derived.ProofKit
import Derived.OpenShut
import Derived.ChangeOld
import Derived.ChangeArms
import Derived.LaidByTextLater
import Derived.Lay
import Derived.LaidMore
import Derived.LaidHandle
import Derived.LaidSub
import Derived.Stop.Joined
namespace Go.Proofs.YtjbbagcpcepkoaaGreatDoor
set_option maxRecDepth 100000
set_option maxHeartbeats 64000000
set_option linter.unusedVariables false
set_option linter.unusedSimpArgs false
section
open Go.RowKit
theorem Tryz.infoNd:(Tryz.prog.info? 73).map (λi=>(i.zero,i.size,i.bytes))=some (some (.agg #[.int .i64 0,.string {data:=#[]},.int .i64 0,.slice none 0 0]),4,56):=by kernel_rfl
theorem j78 (s:Option Addr) (cap:Nat) (n:Nd) (B:Nat) (w:World) (hL:Els 1 cInt w B s n.kids) (hk:j4p n) :
  Calls Tryz.prog 37 #[.agg #[.int .i64 n.kind,.string n.text,.int .i64 n.num,.slice s n.kids.length cap]] w λe w'=>(∃g:Nat,e=.returned (.agg #[.int .i64 n.kind,.string n.text,.int .i64 n.num,.slice (some ⟨g,0,none⟩) n.kids.length n.kids.length])/\Els 1 cInt w' w.heap.size (some ⟨g,0,none⟩) n.kids)/\Below w.heap.size w w':=by
 have hal:=alloc_old
 have haf:=j04
 obtain⟨k0,k1,k2⟩:=jkc w #[.int .i64 n.kind,.string n.text,.int .i64 n.num,.slice s n.kids.length cap] #[.int .i64 0,.string {data:=#[]},.int .i64 0,.slice none 0 0] #[.int .i64 n.kind,.string n.text,.int .i64 n.num,.slice none 0 0] 78 73 73
 have L0:Below w.heap.size w (((w.alloc (.cells #[.int .i64 n.kind,.string n.text,.int .i64 n.num,.slice s n.kids.length cap] 78)).alloc (.cells #[.int .i64 0,.string {data:=#[]},.int .i64 0,.slice none 0 0] 73)).alloc (.cells #[.int .i64 n.kind,.string n.text,.int .i64 n.num,.slice none 0 0] 73)):=blq
 have n0:¬w.heap.size=w.heap.size+1+1:=by omega
 have n1:¬w.heap.size+1=w.heap.size+1+1:=by omega
 have lx:=k2.lt
 go_enter Tryz.func37,Tryz.ntmps37
 go_wp2_with fail;refine(j52 s cap n.kids B _ (hL.later j07 L0) hk.2).mono ?_
 rintro e w3 ⟨g,rfl,e3,d3,hb3⟩
 have d3:=d3.drop j0t (B':=w.heap.size+1+1+1) (by omega)
 have L3:=j01 L0 hb3
 have S1:=k1.later hb3
 have S2:=k2.later hb3
 clear k0 k1 k2 L0 hb3;obtain⟨z0,z1,z2,z3,z4⟩:=S2.four'
 obtain⟨y0,y1,y2,y3,y4⟩:=S1.four'
 go_wp2_with fail;refine bodyPost_ret (v:=.agg #[.int .i64 n.kind,.string n.text,.int .i64 n.num,.slice (some ⟨g,0,none⟩) n.kids.length n.kids.length]) (by simp[results,Tryz.results37,go_sem,y0,y1,y2,y3]) rfl ⟨⟨g,rfl,?_⟩,?_⟩
 ·
  refine(d3.kept j07 ?_).drop j0t (by omega)
  repeat (first|with_reducible exact Kept.refl _ _|with_reducible refine Kept.trans ?_ (Kept.set _ (by simp<;>omega) _))
 repeat (first|with_reducible exact L3|with_reducible refine Below.setCell ?_ (by simp<;>omega) _)
end
section
open Go.RowKit Go.Maps Go.WideMaps
theorem jmb {w:World} {B:Nat} {s:Option Addr} {L:List Nd} (h:Els 4 j46 w B s L):Els 4 j1d w B s L:=by
 rcases h with h0|⟨b,o,h1,h2,h3,h4,h5⟩
 ·
  exact Or.inl h0
 refine Or.inr ⟨b,o,h1,h2,h3,λk a ha=>?_,h5⟩
 obtain⟨cs,g1,g2,s',c',e1,e2,e3⟩:=h4 k a ha
 exact⟨cs,g1,g2,s',c',e1,e2⟩
theorem j8s (s:Option Addr) (c:Nat) (L:List Nd) (B:Nat) (w:World) (hL:Els 4 j1d w B s L) (hl:L.length<=1048576) (hk:∀n∈L,j4p n) :
  Calls Tryz.prog 22 #[.slice s L.length c] w λe w'=>Made 4 j46 w L e w':=by
 have HK:Hid (∀n∈L,j4p n):=hk
 clear hk;obtain⟨i0,hi,hz0,hz1,hz2⟩:=info_parts Tryz.infoNd
 go_enter Tryz.func22,Tryz.ntmps22
 go_wp2_with (at_make;refine wpList_make_full _ rfl _ _ 37 rfl w.heap.size 73 i0 (.agg #[.int .i64 0,.string {data:=#[]},.int .i64 0,.slice none 0 0]) 4 Tryz.underlying37 hi hz0 hz1 .i64 .i64 _ _ L.length rfl rfl rfl rfl (by rw[hz2];omega) (by unfold maxLen;omega) (Nat.le_refl _) ?_)
 intro w1 hown hgrow
 have hrow:Hid (Mk 4 j46 [.int .i64 0,.string {data:=#[]},.int .i64 0,.slice none 0 0] 73 w1 w.heap.size w.heap.size L 0):=Mk.start (z:=#[.int .i64 0,.string {data:=#[]},.int .i64 0,.slice none 0 0]) rfl hown
 have hbel:Hid (Below w.heap.size w w1):=(Below.refl _ w).grown hgrow (Nat.le_refl _) (λk h=>by cases h)
 clear hown hgrow hi hz0 hz1 hz2;go_wp2_with fail;go_loopw [4] (λi wr=>∃k:Nat,k<=L.length/\i=.int .i64 k/\Hid (Mk 4 j46 [.int .i64 0,.string {data:=#[]},.int .i64 0,.slice none 0 0] 73 wr w.heap.size w.heap.size L k)/\Hid (Below w.heap.size w wr)) (λi _=>L.length-(intOf i).toNat)
 case atStart=>exact⟨0,Nat.zero_le _,rfl,hrow,hbel⟩
 obtain⟨k,hk,rfl,hrow,hbel⟩:=hrel
 by_cases hlt:k<L.length
 ·
  obtain⟨a,ha⟩:=j0p hlt
  obtain⟨b,o,rfl,hB,hp,s',c',e0,e1,e2,e3,f⟩:=j14 (hL.later j08 hbel.out) ha
  have hka:=HK.out a (List.mem_of_getElem? ha)
  have hgr:=(hrow.out.at hlt).2.1
  clear hL;go_wp2_with fail;refine(j78 s' c' a B _ f hka).mono ?_
  rintro e w2 ⟨⟨g,rfl,d1⟩,hb2⟩
  have hr2:=hrow.out.later j1r hb2
  have L2:Hid (Below w.heap.size w w2):=j01 hbel.out hb2
  obtain⟨_,hg,fz,cz⟩:=hr2.at hlt
  have g0:=cz 0 _ rfl
  have g1:=cz 1 _ rfl
  have g2:=cz 2 _ rfl
  have g3:=cz 3 _ rfl
  rw[Nat.add_zero] at g0
  have hputH:Hid (Mk 4 j46 [.int .i64 0,.string {data:=#[]},.int .i64 0,.slice none 0 0] 73 ((((w2.setCell ⟨w.heap.size,k*4,none⟩ (.int .i64 a.kind)).setCell ⟨w.heap.size,k*4+1,none⟩ (.string a.text)).setCell ⟨w.heap.size,k*4+2,none⟩ (.int .i64 a.num)).setCell ⟨w.heap.size,k*4+3,none⟩ (.slice (some ⟨g,0,none⟩) a.kids.length a.kids.length)) w.heap.size w.heap.size L (k+1)) :=
   hr2.push j1r ha (c:=[.int .i64 a.kind,.string a.text,.int .i64 a.num,.slice (some ⟨g,0,none⟩) a.kids.length a.kids.length]) rfl ⟨_,_,rfl,d1.drop j0t (by omega),Nat.le_refl _⟩ (by repeat (first|with_reducible exact Kept.refl _ _|with_reducible refine Kept.trans ?_ (Kept.set _ (by simp) _))) (λA C hA h=>put4 hA h)
  clear hr2 hrow ha cz f d1 hka;go_wp2_with fail;go_roundw
  case rel =>
   refine⟨k+1,by omega,by go_num,hputH,?_⟩
   show Below _ _ _
   repeat (first|with_reducible exact L2.out|with_reducible refine Below.setCell ?_ (by simp) _)
  case measure=>simp[intOf];omega
 have hm':k=L.length:=by omega
 subst hm'
 go_wp2_with fail;go_ret;exact⟨_,rfl,Nat.le_refl _,hrow.out.done j4b,hbel.out⟩
theorem j9s (s1 s2:Option Addr) (c1 c2:Nat) (t:Tre) (B:Nat) (w:World) (hT:InT w B s1 s2 t) (hk:kTre t) :
  Calls Tryz.prog 9 #[.agg #[.slice s1 t.nodes.length c1,.slice s2 t.tops.length c2]] w λe w'=>(∃a b:Nat,e=.returned (.agg #[.slice (some ⟨a,0,none⟩) t.nodes.length t.nodes.length,.slice (some ⟨b,0,none⟩) t.tops.length t.tops.length])/\InT w' w.heap.size (some ⟨a,0,none⟩) (some ⟨b,0,none⟩) t/\Els 4 j46 w' w.heap.size (some ⟨a,0,none⟩) t.nodes)/\Below w.heap.size w w':=by
 have hal:=alloc_old
 have haf:=j04
 obtain⟨⟨m1,m2⟩,m3⟩:=hk
 obtain⟨k0,k1,k2⟩:=jkc w #[.slice s1 t.nodes.length c1,.slice s2 t.tops.length c2] #[.slice none 0 0,.slice none 0 0] #[.slice none 0 0,.slice none 0 0] 28 39 39
 go_enter Tryz.func9,Tryz.ntmps9
 go_wp2_with fail;refine(j8s s1 c1 t.nodes B _ (hT.n.later j08 blq) m1 m2).mono ?_
 rintro e w1 ⟨g1,rfl,e1,d1,hb1⟩
 simp only[World.size_alloc] at e1
 have L1:Below w.heap.size w w1:=blq
 have d1:=d1.drop j4b e1
 have P0:=(k0.later hb1).other (m:=w.heap.size+1+1) (by omega) 0 (.slice (some ⟨g1,0,none⟩) t.nodes.length t.nodes.length)
 have P1:=(k1.later hb1).other (m:=w.heap.size+1+1) (by omega) 0 (.slice (some ⟨g1,0,none⟩) t.nodes.length t.nodes.length)
 have P2:=(k2.later hb1).set 0 (.slice (some ⟨g1,0,none⟩) t.nodes.length t.nodes.length)
 have D1:=d1.kept j1r (Kept.set w1 (p:=⟨w.heap.size+1+1,0,none⟩) (by simp) (.slice (some ⟨g1,0,none⟩) t.nodes.length t.nodes.length))
 have LX:=L1.setCell (p:=⟨w.heap.size+1+1,0,none⟩) (by simp;omega) (.slice (some ⟨g1,0,none⟩) t.nodes.length t.nodes.length)
 obtain⟨z0,z1,z2⟩:=(k2.later hb1).two
 obtain⟨x0,x1,x2⟩:=(k0.later hb1).two
 have n0:¬w.heap.size=w.heap.size+1+1:=by omega
 clear k0 k1 k2 hb1 d1 L1 m2;go_wp2_with fail;clear x0 x1 x2 z0 z1 z2;generalize hX:w1.setCell ⟨w.heap.size+1+1,0,none⟩ (.slice (some ⟨g1,0,none⟩) t.nodes.length t.nodes.length)=X at P0 P1 P2 D1 LX ⊢
 clear hX;have P2:Blk X (w.heap.size+1+1) #[.slice (some ⟨g1,0,none⟩) t.nodes.length t.nodes.length,.slice none 0 0] 39:=P2
 refine(j52 s2 c2 t.tops B _ (hT.t.later j07 LX) m3).mono ?_
 rintro e w3 ⟨g3,rfl,e3,d3,hb3⟩
 have ly:w.heap.size+1+1<X.heap.size:=P2.lt
 have d3:=d3.drop j0t (B':=w.heap.size+1+1+1) (by omega)
 have L3:=j01 LX hb3
 have R1:=(P1.later hb3)
 have R2:=(P2.later hb3)
 have G1:=D1.later j1r hb3
 clear P0 P1 P2 D1 LX hb3;obtain⟨z0,z1,z2⟩:=R2.two
 obtain⟨y0,y1,y2⟩:=R1.two
 have n1:¬w.heap.size+1=w.heap.size+1+1:=by omega
 go_wp2_with fail;refine bodyPost_ret (v:=.agg #[.slice (some ⟨g1,0,none⟩) t.nodes.length t.nodes.length,.slice (some ⟨g3,0,none⟩) t.tops.length t.tops.length]) (by simp[results,Tryz.results9,go_sem,y0,y1]) rfl ⟨⟨g1,g3,rfl,?_⟩,?_⟩
 ·
  refine⟨InT.drop (B:=w.heap.size+1+1+1) (InT.kept (w:=w3) ⟨jmb G1,d3⟩ ?_) (by omega),Els.drop (B:=w.heap.size+1+1+1) j4b (G1.kept j1r ?_) (by omega)⟩
  all_goals repeat (first|with_reducible exact Kept.refl _ _|with_reducible refine Kept.trans ?_ (Kept.set _ (by simp<;>omega) _))
 repeat (first|with_reducible exact L3|with_reducible refine Below.setCell ?_ (by simp<;>omega) _)
theorem jha (s1 s2 s3:Option Addr) (c1 c2 c3:Nat) (A B C:List (ByteArray×Int)) (w:World) (hA:j0y w s1 A) (hB:j0y w s2 B) (hC:j0y w s3 C) (nA:Nms A) (nB:Nms B) (nC:Nms C) (mA:A.length<=maxLen) (mB:B.length<=maxLen) (mC:C.length<=maxLen) :
  Calls Tryz.prog 5 #[.agg #[.slice s1 A.length c1,.slice s2 B.length c2,.slice s3 C.length c3],.int .i64 1048576] w λe w'=>(∃r:Int,e=.returned (.int .i64 r)/\(r=-1\/(0<=r/\r<=1048576/\A.length<=1048576/\B.length<=1048576/\C.length<=1048576)))/\Below w.heap.size w w':=by
 have hal:=alloc_old
 have haf:=j04
 have k0:=Blk.new w #[.slice s1 A.length c1,.slice s2 B.length c2,.slice s3 C.length c3] 24
 go_enter Tryz.func5,Tryz.ntmps5
 go_wp2_with fail;refine(j4y s1 c1 A 1048576 _ (hA.later blq) nA mA (by omega) (by omega)).mono ?_
 rintro e w1 ⟨⟨r,rfl,hr⟩,hb1⟩
 have L1:Below w.heap.size w w1:=blq
 have K1:=k0.later hb1
 clear k0 hb1;obtain⟨x0,x1,x2,x3⟩:=K1.three
 rcases hr with rfl|⟨r0,r1,lA⟩
 ·
  go_wp2_with fail;go_ret;exact⟨⟨_,rfl,Or.inl rfl⟩,L1⟩
 have t2:decide (r<0)=false:=by simp;omega
 go_wp2_with fail;refine(j4y s2 c2 B r _ (hB.later L1) nB mB r0 r1).mono ?_
 rintro e w2 ⟨⟨q,rfl,hq⟩,hb2⟩
 have L2:=j01 L1 hb2
 have K2:=K1.later hb2
 clear K1 hb2 x0 x1 x2 x3;obtain⟨x0,x1,x2,x3⟩:=K2.three
 rcases hq with rfl|⟨q0,q1,lB⟩
 ·
  go_wp2_with fail;go_ret;exact⟨⟨_,rfl,Or.inl rfl⟩,L2⟩
 have t3:decide (q<0)=false:=by simp;omega
 go_wp2_with fail;refine(j4y s3 c3 C q _ (hC.later L2) nC mC q0 (by omega)).mono ?_
 rintro e w3 ⟨⟨p,rfl,hp⟩,hb3⟩
 have L3:=j01 L2 hb3
 clear hb3 x0 x1 x2 x3;rcases hp with rfl|⟨p0,p1,lC⟩
 ·
  go_wp2_with fail;go_ret;exact⟨⟨_,rfl,Or.inl rfl⟩,L3⟩
 have t4:decide (p<0)=false:=by simp;omega
 go_wp2_with fail;go_ret;exact⟨⟨_,rfl,Or.inr ⟨p0,by omega,lA,lB,lC⟩⟩,L3⟩
end
section
open Go.RowKit
theorem ji7 (w:World) (c d:Array Value) (t u:TypeId):Blk ((w.alloc (.cells c t)).alloc (.cells d u)) w.heap.size c t/\Blk ((w.alloc (.cells c t)).alloc (.cells d u)) (w.heap.size+1) d u/\Below w.heap.size w ((w.alloc (.cells c t)).alloc (.cells d u)) :=
 ⟨(Blk.new w c t).alloc _,Blk.new' _ d u (by simp),j00 (j00 (Below.refl _ _) _) _⟩
theorem jb0 (s t:Option Addr) (cs ct:Nat) (n:Nd) (B C:Nat) (w:World) (hs:Els 1 cInt w B s n.kids) (ht:Els 1 cInt w C t n.kids) (hk:j4p n) :
  Calls Tryz.prog 46 #[.agg #[.int .i64 n.kind,.string n.text,.int .i64 n.num,.slice s n.kids.length cs],.agg #[.int .i64 n.kind,.string n.text,.int .i64 n.num,.slice t n.kids.length ct]] w λe w'=>e=.returned (.bool true)/\Below w.heap.size w w':=by
 have q0:(n.kind != n.kind)=false:=by simp
 have q1:(n.num != n.num)=false:=by simp
 have q2:(n.text.toList ==n.text.toList)=true:=by simp
 obtain⟨k0,k1,L0⟩:=ji7 w #[.int .i64 n.kind,.string n.text,.int .i64 n.num,.slice s n.kids.length cs] #[.int .i64 n.kind,.string n.text,.int .i64 n.num,.slice t n.kids.length ct] 73 73
 obtain⟨x0,x1,x2,x3,x4⟩:=k0.four'
 obtain⟨y0,y1,y2,y3,y4⟩:=k1.four'
 go_enter Tryz.func46,Tryz.ntmps46
 go_wp2_with fail;refine(j8b s t cs ct n.kids n.kids _ (hs.later j07 L0).ints (ht.later j07 L0).ints hk.2).mono ?_
 rintro e w3 ⟨rfl,hb3⟩
 rw[show decide (n.kids=n.kids)=true by simp]
 go_wp2_with fail;go_ret;exact⟨rfl,j01 L0 hb3⟩
theorem ja7 (s t:Option Addr) (c d:Nat) (L:List Nd) (B C:Nat) (w:World) (hs:Els 4 j1d w B s L) (ht:Els 4 j1d w C t L) (hl:L.length<=1048576) (hk:∀n∈L,j4p n) :
  Calls Tryz.prog 27 #[.slice s L.length c,.slice t L.length d] w λe w'=>e=.returned (.bool true)/\Below w.heap.size w w':=by
 have hal:=alloc_old
 have haf:=j04
 have HK:Hid (∀n∈L,j4p n):=hk
 clear hk;go_enter Tryz.func27,Tryz.ntmps27
 go_wp2_with fail;go_loopw [5] (λi wr=>∃k:Nat,k<=L.length/\i=.int .i64 k/\Below w.heap.size w wr) (λi _=>L.length-(intOf i).toNat)
 case atStart=>exact⟨0,Nat.zero_le _,rfl,Below.refl _ _⟩
 obtain⟨k,hk,rfl,hb⟩:=hrel
 by_cases hlt:k<L.length
 ·
  obtain⟨a,ha⟩:=j0p hlt
  obtain⟨b,o,rfl,_,hp,s',c',e0,e1,e2,e3,f⟩:=j14 (hs.later j08 hb) ha
  obtain⟨b',o',rfl,_,hp',t',d',f0,f1,f2,f3,g⟩:=j14 (ht.later j08 hb) ha
  have hka:Hid (j4p a):=HK.out a (List.mem_of_getElem? ha)
  have PH:Hid (Els 1 cInt wr B s' a.kids/\Els 1 cInt wr C t' a.kids):=⟨f,g⟩
  clear hs ht ha f g;go_wp2_with fail;go_region_with (first
   | (go_at_call 46;refine(jb0 s' t' c' d' a B C _ (PH.out.1.later j07 (j02 (Below.refl _ _))) (PH.out.2.later j07 (j02 (Below.refl _ _))) hka.out).mono ?_;rintro e w2 ⟨rfl,hb2⟩))
  all_goals
   go_wp2_with fail;go_roundw
   case rel =>
    refine⟨k+1,by omega,by go_num,?_⟩
    exact blq
   case measure=>simp[intOf];omega
 go_wp2_with fail;go_ret;exact⟨rfl,hb⟩
theorem jah (s1 s2 t1 t2:Option Addr) (c1 c2 d1 d2:Nat) (t:Tre) (B C:Nat) (w:World) (hs:InT w B s1 s2 t) (ht:InT w C t1 t2 t) (hk:kTre t) :
  Calls Tryz.prog 12 #[.agg #[.slice s1 t.nodes.length c1,.slice s2 t.tops.length c2],.agg #[.slice t1 t.nodes.length d1,.slice t2 t.tops.length d2]] w λe w'=>e=.returned (.bool true)/\Below w.heap.size w w':=by
 obtain⟨⟨m1,m2⟩,m3⟩:=hk
 obtain⟨k0,k1,L0⟩:=ji7 w #[.slice s1 t.nodes.length c1,.slice s2 t.tops.length c2] #[.slice t1 t.nodes.length d1,.slice t2 t.tops.length d2] 39 39
 obtain⟨x0,x1,x2⟩:=k0.two
 obtain⟨y0,y1,y2⟩:=k1.two
 go_enter Tryz.func12,Tryz.ntmps12
 go_wp2_with fail;refine(ja7 s1 t1 c1 d1 t.nodes B C _ (hs.n.later j08 L0) (ht.n.later j08 L0) m1 m2).mono ?_
 rintro e w1 ⟨rfl,hb1⟩
 have L1:=j01 L0 hb1
 have k0:=k0.later hb1
 have k1:=k1.later hb1
 clear x0 x1 x2 y0 y1 y2 hb1 L0 m2;obtain⟨x0,x1,x2⟩:=k0.two
 obtain⟨y0,y1,y2⟩:=k1.two
 go_wp2_with fail;refine(j8b s2 t2 c2 d2 t.tops t.tops _ (hs.t.later j07 L1).ints (ht.t.later j07 L1).ints m3).mono ?_
 rintro e w3 ⟨rfl,hb3⟩
 rw[show decide (t.tops=t.tops)=true by simp]
 go_wp2_with fail;go_ret;exact⟨rfl,j01 L1 hb3⟩
end
section
open Go.RowKit Go.Maps Go.WideMaps
def Dc (w:World) (s:Option Addr) (L:List (ByteArray×Int)):Prop:=j0y w s L/\Nms L/\L.length<=maxLen
theorem nms3 {A B C:List (ByteArray×Int)} (a:Nms A) (b:Nms B) (c:Nms C):∀i,i<(A++B++C).length->(dAt (A++B++C) i).1.size<=maxLen:=by
 intro i hi
 have:=jae hi
 rw[List.mem_append,List.mem_append] at this
 rcases this with (h|h)|h
 ·
  exact a _ h
 ·
  exact b _ h
 exact c _ h
end
section
open Go.RowKit Go.Maps Go.WideMaps
theorem j7j (s1 s2 s3 n1 n2:Option Addr) (c1 c2 c3 d1 d2:Nat) (A B C:List (ByteArray×Int)) (T:Tre) (w:World) (hg:w.cell? ⟨0,0,none⟩=some (rtV 60)) (gA:Dc w s1 A) (gB:Dc w s2 B) (gC:Dc w s3 C) (hT:InT w 0 n1 n2 T) (mT:mTre T) :
  Calls Tryz.prog 3 #[.agg #[.slice s1 A.length c1,.slice s2 B.length c2,.slice s3 C.length c3],.agg #[.slice n1 T.nodes.length d1,.slice n2 T.tops.length d2]] w λe w'=>e=.returned (.bool true)/\Below w.heap.size w w':=by
 obtain⟨hA,nA,mA⟩:=gA
 obtain⟨hB,nB,mB⟩:=gB
 obtain⟨hC,nC,mC⟩:=gC
 have nm:=nms3 nA nB nC
 have h00:0<w.heap.size:=by
  rcases Nat.eq_zero_or_pos w.heap.size with h|h
  ·
   simp[World.cell?,h] at hg
  exact h
 have b1:Below w.heap.size w ((w.alloc (.cells #[.slice s1 A.length c1,.slice s2 B.length c2,.slice s3 C.length c3] 24)).alloc (.cells #[.slice n1 T.nodes.length d1,.slice n2 T.tops.length d2] 28)):=j00 (j00 (Below.refl _ _) _) _
 have kr:=Blk.alloc (Blk.new w #[.slice s1 A.length c1,.slice s2 B.length c2,.slice s3 C.length c3] 24) (.cells #[.slice n1 T.nodes.length d1,.slice n2 T.tops.length d2] 28)
 have kt:=Blk.new' (n:=w.heap.size+1) (w.alloc (.cells #[.slice s1 A.length c1,.slice s2 B.length c2,.slice s3 C.length c3] 24)) #[.slice n1 T.nodes.length d1,.slice n2 T.tops.length d2] 28 (by simp)
 obtain⟨x0,x1,x2,x3⟩:=kr.three
 have hsr:=jha s1 s2 s3 c1 c2 c3 A B C _ (hA.later b1) (hB.later b1) (hC.later b1) nA nB nC mA mB mC
 have B1:=Hid.mk' b1
 have KR:=Hid.mk' kr
 have KT:=Hid.mk' kt
 have HG:=Hid.mk' hg
 have HA:=Hid.mk' hA
 have HB:=Hid.mk' hB
 have HC:=Hid.mk' hC
 have HT:=Hid.mk' hT
 have MT:=Hid.mk' mT
 have NM:=Hid.mk' nm
 clear hA hB hC hT mT hg kr kt b1 nA nB nC mA mB mC nm;go_enter Tryz.func3,Tryz.ntmps3
 go_wp2_with fail;refine hsr.mono ?_
 rintro e w1 ⟨⟨r,rfl,hr⟩,hb1⟩
 have L1:Hid (Below w.heap.size w w1):=B1.out.trans (hb1.mono B1.out.size)
 have KR1:=Hid.mk' (KR.out.later hb1)
 have KT1:=Hid.mk' (KT.out.later hb1)
 clear hsr x0 x1 x2 x3 hb1 KR KT B1;rcases hr with rfl|⟨r0,r9,lA,lB,lC⟩
 ·
  go_wp2_with fail;go_ret;exact⟨rfl,L1.out⟩
 have t2:decide (r<0)=false:=by simp;omega
 obtain⟨y0,y1,y2⟩:=KT1.out.two
 have hst:=jc3 n1 n2 d1 d2 T 0 r w1 (HT.out.later L1.out) MT.out r0 r9
 go_wp2_with fail;refine hst.mono ?_
 rintro e X ⟨⟨r2,rfl,hr2⟩,hb2⟩
 have L2:Hid (Below w.heap.size w X):=L1.out.trans (hb2.mono L1.out.size)
 have KR2:=Hid.mk' (KR1.out.later hb2)
 have KT2:=Hid.mk' (KT1.out.later hb2)
 clear hst y0 y1 y2 hb2 KR1 KT1 L1 t2 r0 r9;rcases hr2 with rfl|⟨q0,q9,hk⟩
 ·
  go_wp2_with fail;go_ret;exact⟨rfl,L2.out⟩
 have t2:decide (r2<0)=false:=by simp;omega
 have HKT:=Hid.mk' hk
 clear q9 hk;obtain⟨k1,k2,hck⟩:∃a b,Hid (chkR A B C T=(a,b)):=⟨_,_,rfl⟩
 go_wp2_with fail;clear t2 q0;have hx1:w.heap.size<X.heap.size:=KR2.out.lt
 have hx2:w.heap.size+1<X.heap.size:=KT2.out.lt
 have hS:Hid (∀Y,Below X.heap.size X Y->Y.cell? ⟨w.heap.size,0,none⟩=some (.slice s1 A.length c1)/\Y.cell? ⟨w.heap.size,1,none⟩=some (.slice s2 B.length c2)/\Y.cell? ⟨w.heap.size,2,none⟩=some (.slice s3 C.length c3)/\Y.cell? ⟨w.heap.size+1,0,none⟩=some (.slice n1 T.nodes.length d1)/\Y.cell? ⟨w.heap.size+1,1,none⟩=some (.slice n2 T.tops.length d2)):=λY hY=>⟨(hY.cell (p:=⟨w.heap.size,0,none⟩) hx1).trans ((KR2.out.cell 0).trans rfl),(hY.cell (p:=⟨w.heap.size,1,none⟩) hx1).trans ((KR2.out.cell 1).trans rfl),(hY.cell (p:=⟨w.heap.size,2,none⟩) hx1).trans ((KR2.out.cell 2).trans rfl),(hY.cell (p:=⟨w.heap.size+1,0,none⟩) hx2).trans ((KT2.out.cell 0).trans rfl),(hY.cell (p:=⟨w.heap.size+1,1,none⟩) hx2).trans ((KT2.out.cell 1).trans rfl)⟩
 refine wp_region_held_drew (S:=λY=>Y.cell? ⟨w.heap.size,0,none⟩=some (.slice s1 A.length c1)/\Y.cell? ⟨w.heap.size,1,none⟩=some (.slice s2 B.length c2)/\Y.cell? ⟨w.heap.size,2,none⟩=some (.slice s3 C.length c3)/\Y.cell? ⟨w.heap.size+1,0,none⟩=some (.slice n1 T.nodes.length d1)/\Y.cell? ⟨w.heap.size+1,1,none⟩=some (.slice n2 T.tops.length d2)) (by kernel_rfl) ?_ (λhHeld=>?_)
 ·
  exact hS.out _ (j02 (Below.refl _ _))
 have BX:Hid (Below X.heap.size X X.drew):=j02 (Below.refl _ _)
 refine wpr 0 23 ?_;simp only[zs];refine wpr 2 25 ?_;simp only[zs];refine wpAnyH_ready (rs:=[1]) (by kernel_rfl) (by simp) ?_
 refine AllReadyH.cons rfl (λKQ hK=>?_) AllReadyH.nil
 go_simp;have LX:Below w.heap.size w _:=L2.out.trans (BX.out.mono L2.out.size)
 refine(j72 s1 s2 s3 c1 c2 c3 A B C _ (HA.out.later LX) (HB.out.later LX) (HC.out.later LX) lA lB lC).mono ?_
 rintro e g1 ⟨⟨ra,rb,rc,rfl,dA,dB,dC⟩,hb⟩
 have BX0:=BX
 have BX:Hid (Below X.heap.size X g1):=j01 BX0.out hb
 have DA:=Hid.mk' dA
 have DB:=Hid.mk' dB
 have DC:=Hid.mk' dC
 clear dA dB dC LX;clear hb BX0;refine hK.out _ _ (hS.out _ BX.out) (λhHeld=>?_)
 clear hK KQ;try simp only[zs]
 refine wpAnyH_ready (rs:=[3]) (by kernel_rfl) (by simp) ?_
 refine AllReadyH.cons rfl (λKQ hK=>?_) AllReadyH.nil
 go_simp;have LX:Below w.heap.size w _:=L2.out.trans (BX.out.mono L2.out.size)
 refine(j9s n1 n2 d1 d2 T 0 _ (HT.out.later LX) HKT.out).mono ?_
 rintro e g2 ⟨⟨ta,tb,rfl,dT,_⟩,hb⟩
 have BX0:=BX
 have BX:Hid (Below X.heap.size X g2):=j01 BX0.out hb
 have DT:=Hid.mk' dT
 clear dT LX;have DA:=Hid.mk' (DA.out.later hb)
 have DB:=Hid.mk' (DB.out.later hb)
 have DC:=Hid.mk' (DC.out.later hb)
 clear hb BX0;refine hK.out _ _ (hS.out _ BX.out) (λhHeld=>?_)
 clear hK KQ;try simp only[zs]
 refine wpAnyH_ready (rs:=[4]) (by kernel_rfl) (by simp) ?_
 refine AllReadyH.cons rfl (λKQ hK=>?_) AllReadyH.nil
 go_simp;refine(j8f ra 0 rb 0 rc 0 (some ⟨ta,0,none⟩) (some ⟨tb,0,none⟩) A.length B.length C.length T.nodes.length T.tops.length _ A B C T _ DA.out DB.out DC.out DT.out HKT.out).mono ?_
 rintro e Z ⟨rfl,hb⟩
 have BX0:=BX
 have BX:Hid (Below X.heap.size X Z):=j01 BX0.out hb
 rw[hck.out]
 clear hb BX0 DA DB DC DT;refine hK.out _ _ (hS.out _ BX.out) (λhHeld=>?_)
 clear hK KQ;try simp only[zs]
 refine wpr 5 22 ?_;simp only[zs];refine wpr 6 28 ?_;simp only[zs];refine wpr 7 29 ?_;simp only[zs];refine wpr 8 6 ?_;simp only[zs];refine wpr 9 7 ?_;simp only[zs];refine wpAnyH_done (by kernel_rfl) ?_ _
 clear hHeld hS;have L3:Hid (Below w.heap.size w Z):=L2.out.trans (BX.out.mono L2.out.size)
 have KR3:=Hid.mk' (KR2.out.later BX.out)
 have KT3:=Hid.mk' (KT2.out.later BX.out)
 clear BX L2 KR2 KT2 hx1 hx2;obtain⟨x0,x1,x2,x3⟩:=KR3.out.three
 have htr:=j72 s1 s2 s3 c1 c2 c3 A B C _ (HA.out.later L3.out) (HB.out.later L3.out) (HC.out.later L3.out) lA lB lC
 go_wp2_with fail;refine htr.mono ?_
 rintro e w4 ⟨⟨a4,b4,e4,rfl,dA,dB,dC⟩,hb4⟩
 have hal:Below w4.heap.size w4 (w4.alloc (.cells #[.slice (some ⟨a4,0,none⟩) A.length A.length,.slice (some ⟨b4,0,none⟩) B.length B.length,.slice (some ⟨e4,0,none⟩) C.length C.length] 35)):=j00 (Below.refl _ _) _
 have hb:=hb4.trans (hal.mono hb4.size)
 have L4:Hid (Below w.heap.size w (w4.alloc (.cells #[.slice (some ⟨a4,0,none⟩) A.length A.length,.slice (some ⟨b4,0,none⟩) B.length B.length,.slice (some ⟨e4,0,none⟩) C.length C.length] 35))):=L3.out.trans (hb.mono L3.out.size)
 have KR4:=Hid.mk' (KR3.out.later hb)
 have KT4:=Hid.mk' (KT3.out.later hb)
 have J4:=Hid.mk' (Blk.new w4 #[.slice (some ⟨a4,0,none⟩) A.length A.length,.slice (some ⟨b4,0,none⟩) B.length B.length,.slice (some ⟨e4,0,none⟩) C.length C.length] 35)
 have DA:=Hid.mk' (dA.later hal)
 have DB:=Hid.mk' (dB.later hal)
 have DC:=Hid.mk' (dC.later hal)
 clear htr x0 x1 x2 x3 hb4 hal hb dA dB dC L3 KR3 KT3;obtain⟨y0,y1,y2⟩:=KT4.out.two
 go_wp2_with fail;generalize w4.alloc (.cells #[.slice (some ⟨a4,0,none⟩) A.length A.length,.slice (some ⟨b4,0,none⟩) B.length B.length,.slice (some ⟨e4,0,none⟩) C.length C.length] 35)=Y4 at L4 KR4 KT4 J4 DA DB DC y0 y1 y2 ⊢
 refine(j9s n1 n2 d1 d2 T 0 _ (HT.out.later L4.out) HKT.out).mono ?_
 rintro e w5 ⟨⟨a5,b5,rfl,hI,hC5⟩,hb5⟩
 have hal:Below w5.heap.size w5 (w5.alloc (.cells #[.slice (some ⟨a5,0,none⟩) T.nodes.length T.nodes.length,.slice (some ⟨b5,0,none⟩) T.tops.length T.tops.length] 39)):=j00 (Below.refl _ _) _
 have hb:=hb5.trans (hal.mono hb5.size)
 have L5:Hid (Below w.heap.size w (w5.alloc (.cells #[.slice (some ⟨a5,0,none⟩) T.nodes.length T.nodes.length,.slice (some ⟨b5,0,none⟩) T.tops.length T.tops.length] 39))):=L4.out.trans (hb.mono L4.out.size)
 have KR5:=Hid.mk' (KR4.out.later hb)
 have KT5:=Hid.mk' (KT4.out.later hb)
 have J5:=Hid.mk' (J4.out.later hb)
 have M5:=Hid.mk' (Blk.new w5 #[.slice (some ⟨a5,0,none⟩) T.nodes.length T.nodes.length,.slice (some ⟨b5,0,none⟩) T.tops.length T.tops.length] 39)
 have DA:=Hid.mk' (DA.out.later hb)
 have DB:=Hid.mk' (DB.out.later hb)
 have DC:=Hid.mk' (DC.out.later hb)
 have DI:=Hid.mk' (hI.later hal)
 have DCC:=Hid.mk' (hC5.later j1r hal)
 clear y0 y1 y2 hb5 hal hb hI hC5 L4 KR4 KT4 J4;obtain⟨x0,x1,x2,x3⟩:=J5.out.three
 obtain⟨y0,y1,y2⟩:=M5.out.two
 go_wp2_with fail;generalize w5.alloc (.cells #[.slice (some ⟨a5,0,none⟩) T.nodes.length T.nodes.length,.slice (some ⟨b5,0,none⟩) T.tops.length T.tops.length] 39)=Y5 at L5 KR5 KT5 J5 M5 DA DB DC DI DCC x0 x1 x2 x3 y0 y1 y2 ⊢
 generalize w4.heap.size=z4 at J5 x0 x1 x2 x3 ⊢
 generalize w5.heap.size=z5 at M5 y0 y1 y2 ⊢
 have hci:=j8k (some ⟨a4,0,none⟩) (some ⟨b4,0,none⟩) (some ⟨e4,0,none⟩) (some ⟨a5,0,none⟩) (some ⟨b5,0,none⟩) A.length B.length C.length T.nodes.length T.tops.length _ A B C T Y5 ((L5.out.cell (p:=⟨0,0,none⟩) h00).trans HG.out) (Nat.lt_of_lt_of_le h00 L5.out.size) DA.out DB.out DC.out NM.out lA lB lC DI.out DCC.out HKT.out
 refine hci.mono ?_
 rintro e V ⟨rfl,hb⟩
 rw[hck.out]
 have L6:Hid (Below w.heap.size w V):=L5.out.trans (hb.mono L5.out.size)
 have KR6:=Hid.mk' (KR5.out.later hb)
 have KT6:=Hid.mk' (KT5.out.later hb)
 have J6:=Hid.mk' (J5.out.later hb)
 have M6:=Hid.mk' (M5.out.later hb)
 have DA:=Hid.mk' (DA.out.later hb)
 have DB:=Hid.mk' (DB.out.later hb)
 have DC:=Hid.mk' (DC.out.later hb)
 have DI:=Hid.mk' (DI.out.later hb)
 clear hci x0 x1 x2 x3 y0 y1 y2 hb L5 KR5 KT5 J5 M5 DCC;have q1:(k1 != k1)=false:=by simp
 have q2:(k2 != k2)=false:=by simp
 go_wp2_with fail;clear q1 q2;have hx1:w.heap.size<V.heap.size:=KR6.out.lt
 have hx2:w.heap.size+1<V.heap.size:=KT6.out.lt
 have hx4:z4<V.heap.size:=J6.out.lt
 have hx5:z5<V.heap.size:=M6.out.lt
 have hS:Hid (∀Y,Below V.heap.size V Y->Y.cell? ⟨z4,0,none⟩=some (.slice (some ⟨a4,0,none⟩) A.length A.length)/\Y.cell? ⟨z4,1,none⟩=some (.slice (some ⟨b4,0,none⟩) B.length B.length)/\Y.cell? ⟨z4,2,none⟩=some (.slice (some ⟨e4,0,none⟩) C.length C.length)/\Y.cell? ⟨w.heap.size,0,none⟩=some (.slice s1 A.length c1)/\Y.cell? ⟨w.heap.size,1,none⟩=some (.slice s2 B.length c2)/\Y.cell? ⟨w.heap.size,2,none⟩=some (.slice s3 C.length c3)):=λY hY=>⟨(hY.cell (p:=⟨z4,0,none⟩) hx4).trans ((J6.out.cell 0).trans rfl),(hY.cell (p:=⟨z4,1,none⟩) hx4).trans ((J6.out.cell 1).trans rfl),(hY.cell (p:=⟨z4,2,none⟩) hx4).trans ((J6.out.cell 2).trans rfl),(hY.cell (p:=⟨w.heap.size,0,none⟩) hx1).trans ((KR6.out.cell 0).trans rfl),(hY.cell (p:=⟨w.heap.size,1,none⟩) hx1).trans ((KR6.out.cell 1).trans rfl),(hY.cell (p:=⟨w.heap.size,2,none⟩) hx1).trans ((KR6.out.cell 2).trans rfl)⟩
 refine wp_region_held_drew (S:=λY=>Y.cell? ⟨z4,0,none⟩=some (.slice (some ⟨a4,0,none⟩) A.length A.length)/\Y.cell? ⟨z4,1,none⟩=some (.slice (some ⟨b4,0,none⟩) B.length B.length)/\Y.cell? ⟨z4,2,none⟩=some (.slice (some ⟨e4,0,none⟩) C.length C.length)/\Y.cell? ⟨w.heap.size,0,none⟩=some (.slice s1 A.length c1)/\Y.cell? ⟨w.heap.size,1,none⟩=some (.slice s2 B.length c2)/\Y.cell? ⟨w.heap.size,2,none⟩=some (.slice s3 C.length c3)) (by kernel_rfl) ?_ (λhHeld=>?_)
 ·
  exact hS.out _ (j02 (Below.refl _ _))
 have BX:Hid (Below V.heap.size V V.drew):=j02 (Below.refl _ _)
 refine wpr 0 48 ?_;simp only[zs];refine wpr 1 49 ?_;simp only[zs];refine wpAnyH_ready (rs:=[2]) (by kernel_rfl) (by simp) ?_
 refine AllReadyH.cons rfl (λKQ hK=>?_) AllReadyH.nil
 go_simp;have LX:Below w.heap.size w _:=L6.out.trans (BX.out.mono L6.out.size)
 refine(j72 s1 s2 s3 c1 c2 c3 A B C _ (HA.out.later LX) (HB.out.later LX) (HC.out.later LX) lA lB lC).mono ?_
 rintro e g1 ⟨⟨ra,rb,rc,rfl,dA,dB,dC⟩,hb⟩
 have BX0:=BX
 have BX:Hid (Below V.heap.size V g1):=j01 BX0.out hb
 have GA:=Hid.mk' dA
 have GB:=Hid.mk' dB
 have GC:=Hid.mk' dC
 clear dA dB dC LX;have DA1:=Hid.mk' (DA.out.later BX.out)
 have DB1:=Hid.mk' (DB.out.later BX.out)
 have DC1:=Hid.mk' (DC.out.later BX.out)
 clear hb BX0;refine hK.out _ _ (hS.out _ BX.out) (λhHeld=>?_)
 clear hK KQ;try simp only[zs]
 refine wpAnyH_ready (rs:=[3]) (by kernel_rfl) (by simp) ?_
 refine AllReadyH.cons rfl (λKQ hK=>?_) AllReadyH.nil
 go_simp;refine(jc7 _ _ _ _ _ _ _ _ _ _ _ _ A B C _ DA1.out DB1.out DC1.out GA.out GB.out GC.out lA lB lC).mono ?_
 rintro e U ⟨rfl,hb⟩
 have BX0:=BX
 have BX:Hid (Below V.heap.size V U):=j01 BX0.out hb
 clear hb BX0;refine hK.out _ _ (hS.out _ BX.out) (λhHeld=>?_)
 clear hK KQ;try simp only[zs]
 refine wpr 4 52 ?_;simp only[zs];refine wpAnyH_done (by kernel_rfl) ?_ _
 clear hHeld hS;have L7:Hid (Below w.heap.size w U):=L6.out.trans (BX.out.mono L6.out.size)
 have KT7:=Hid.mk' (KT6.out.later BX.out)
 have M7:=Hid.mk' (M6.out.later BX.out)
 have DI7:=Hid.mk' (DI.out.later BX.out)
 clear GA GB GC DA1 DB1 DC1 DA DB DC DI BX L6 KT6 KR6 J6 M6 hx1 hx2 hx4 hx5;go_wp2_with fail;have hx2:w.heap.size+1<U.heap.size:=KT7.out.lt
 have hx5:z5<U.heap.size:=M7.out.lt
 have hS:Hid (∀Y,Below U.heap.size U Y->Y.cell? ⟨z5,0,none⟩=some (.slice (some ⟨a5,0,none⟩) T.nodes.length T.nodes.length)/\Y.cell? ⟨z5,1,none⟩=some (.slice (some ⟨b5,0,none⟩) T.tops.length T.tops.length)/\Y.cell? ⟨w.heap.size+1,0,none⟩=some (.slice n1 T.nodes.length d1)/\Y.cell? ⟨w.heap.size+1,1,none⟩=some (.slice n2 T.tops.length d2)):=λY hY=>⟨(hY.cell (p:=⟨z5,0,none⟩) hx5).trans ((M7.out.cell 0).trans rfl),(hY.cell (p:=⟨z5,1,none⟩) hx5).trans ((M7.out.cell 1).trans rfl),(hY.cell (p:=⟨w.heap.size+1,0,none⟩) hx2).trans ((KT7.out.cell 0).trans rfl),(hY.cell (p:=⟨w.heap.size+1,1,none⟩) hx2).trans ((KT7.out.cell 1).trans rfl)⟩
 refine wp_region_held_drew (S:=λY=>Y.cell? ⟨z5,0,none⟩=some (.slice (some ⟨a5,0,none⟩) T.nodes.length T.nodes.length)/\Y.cell? ⟨z5,1,none⟩=some (.slice (some ⟨b5,0,none⟩) T.tops.length T.tops.length)/\Y.cell? ⟨w.heap.size+1,0,none⟩=some (.slice n1 T.nodes.length d1)/\Y.cell? ⟨w.heap.size+1,1,none⟩=some (.slice n2 T.tops.length d2)) (by kernel_rfl) ?_ (λhHeld=>?_)
 ·
  exact hS.out _ (j02 (Below.refl _ _))
 have BX:Hid (Below U.heap.size U U.drew):=j02 (Below.refl _ _)
 refine wpr 0 53 ?_;simp only[zs];refine wpr 1 54 ?_;simp only[zs];refine wpAnyH_ready (rs:=[2]) (by kernel_rfl) (by simp) ?_
 refine AllReadyH.cons rfl (λKQ hK=>?_) AllReadyH.nil
 go_simp;have LX:Below w.heap.size w _:=L7.out.trans (BX.out.mono L7.out.size)
 refine(j9s n1 n2 d1 d2 T 0 _ (HT.out.later LX) HKT.out).mono ?_
 rintro e g1 ⟨⟨ta,tb,rfl,dT,_⟩,hb⟩
 have BX0:=BX
 have BX:Hid (Below U.heap.size U g1):=j01 BX0.out hb
 have DT:=Hid.mk' dT
 clear dT LX;have DI8:=Hid.mk' (DI7.out.later BX.out)
 clear hb BX0;refine hK.out _ _ (hS.out _ BX.out) (λhHeld=>?_)
 clear hK KQ;try simp only[zs]
 refine wpAnyH_ready (rs:=[3]) (by kernel_rfl) (by simp) ?_
 refine AllReadyH.cons rfl (λKQ hK=>?_) AllReadyH.nil
 go_simp;refine(jah _ _ _ _ _ _ _ _ T _ _ _ DI8.out DT.out HKT.out).mono ?_
 rintro e Q ⟨rfl,hb⟩
 have BX0:=BX
 have BX:Hid (Below U.heap.size U Q):=j01 BX0.out hb
 clear hb BX0;refine hK.out _ _ (hS.out _ BX.out) (λhHeld=>?_)
 clear hK KQ;try simp only[zs]
 refine wpr 4 57 ?_;simp only[zs];refine wpAnyH_done (by kernel_rfl) ?_ _
 clear hHeld hS;have L8:Hid (Below w.heap.size w Q):=L7.out.trans (BX.out.mono L7.out.size)
 go_wp2_with fail;go_ret;exact⟨rfl,L8.out⟩
end
section
open Go.ChangeShapes Go.WideShapes Go.ChangeAt Go.RowKit Go.Joins
theorem Tryz.own:ownKnob Tryz.prog.godebug=none:=by kernel_rfl
theorem Tryz.laidOut:laidOutB Tryz.prog=true:=by kernel_rfl
theorem Tryz.cellsI:Tryz.prog.cellsOf 3=1:=by kernel_rfl
theorem Tryz.cellsIs:Tryz.prog.cellsOf 26=1:=by kernel_rfl
section
variable {H:Type} {enc:TypeId×Value->H} {w:World} {base:Nat} {spare:Nat->Bool} {held:Bool}
theorem j8t {n:Int} (h:(Lit.int .i64 n).wf=true):-9223372036854775808<=n/\n<=9223372036854775807:=by
 have e1:IntKind.i64.min=-9223372036854775808:=by decide +kernel
 have e2:IntKind.i64.max=9223372036854775807:=by decide +kernel
 simp only[Lit.wf,Bool.and_eq_true,decide_eq_true_eq,e1,e2] at h
 exact h
theorem ja9 {α:Type} {t e:TypeId} {k:Nat} {E:World->Nat->List Value->α->Prop} {ok:α->Prop} (ht:Tryz.prog.underlying t=some (.slice e)) (hc:Tryz.prog.cellsOf e=k) (hk:0<k)
  (one:∀(m:Nat) (cs:List Value) (y:DataW H×List MemPlace),DataW.trod enc Tryz.prog w base spare held m e cs=some y->∃a,E w 0 cs a/\ok a)
  {fuel:Nat} {cs0:List Value} {y:DataW H×List MemPlace} (h:DataW.trod enc Tryz.prog w base spare held fuel t cs0=some y) :
  ∃s c L,cs0=[.slice s (List.length (α:=α) L) c]/\Els k E w 0 s L/\(∀a∈L,ok a)/\L.length<=9223372036854775807:=by
 subst hc
 rcases DataW.trod_slice ht h with ⟨hcs,_⟩|⟨a,len,cap,elems,rest,n,_,hcs,_,hb,hl,hm,hlen,hel,_,_⟩
 ·
  exact⟨none,0,[],hcs,Or.inl rfl,λa ha=>by simp at ha,by simp⟩
 have each:∀i,i<len->∃(x:α) (cs:List Value),cs.length=Tryz.prog.cellsOf e/\(∀j,j<Tryz.prog.cellsOf e->w.cell? ((a.add (i*Tryz.prog.cellsOf e)).add j)=cs[j]?)/\E w 0 cs x/\ok x:=by
  intro i hi
  have:=hel i hi
  obtain⟨q,hq⟩:∃q,elems[i]?=some q:=⟨elems[i],by simp[hlen,hi]⟩
  rw[hq,Option.bind_eq_some_iff] at this
  obtain⟨cs,hcs',hy⟩:=this
  have hc:=World.cells?_some hcs'
  obtain⟨x,hx,hok⟩:=one _ _ _ hy
  exact⟨x,cs,hc.2.1,hc.2.2,hx,hok⟩
 by_cases h0:len=0
 ·
  subst h0
  exact⟨some a,cap,[],by simpa using hcs,Or.inl rfl,λa ha=>by simp at ha,by simp⟩
 have hlenm:len<=9223372036854775807:=by unfold maxLen at hm;omega
 let g:Nat->α:=λi=>if h:i<len then Classical.choose (each i h) else Classical.choose (each 0 (by omega))
 have hg:∀i,i<len->∃cs,cs.length=Tryz.prog.cellsOf e/\(∀j,j<Tryz.prog.cellsOf e->w.cell? ((a.add (i*Tryz.prog.cellsOf e)).add j)=cs[j]?)/\E w 0 cs (g i)/\ok (g i):=by
  intro i hi
  have:g i=Classical.choose (each i hi):=by simp[g,hi]
  rw[this]
  exact Classical.choose_spec (each i hi)
 have hL:((List.range len).map g).length=len:=by simp
 obtain⟨b,off,spot⟩:=a
 obtain⟨cs00,c00,c01,_⟩:=hg 0 (by omega)
 have h00:=c01 0 hk
 obtain⟨u0,hu0⟩:∃u,cs00[0]?=some u:=⟨cs00[0],by simp[c00,hk]⟩
 rw[hu0] at h00
 have hspot:spot=none:=by simpa[Addr.add] using World.cell?_spot h00
 subst hspot
 refine⟨some ⟨b,off,none⟩,cap,(List.range len).map g,by rw[hL];exact hcs,Or.inr ⟨b,off,rfl,Nat.zero_le _,?_,λj x hx=>?_,λh=>absurd h (by omega)⟩,?_,by rw[hL];exact hlenm⟩
 ·
  have:=World.block_lt_of_cell? _ _ h00
  simpa[Addr.add] using this
 ·
  have hj:j<len:=by
   have:=(List.getElem?_eq_some_iff.1 hx).1
   simpa using this
  obtain⟨cs,d1,d2,d3,d4⟩:=hg j hj
  have ex:x=g j:=by simp[hj] at hx;exact hx.symm
  subst ex
  refine⟨cs,d1,λi u hu=>?_,d3⟩
  have hi:i<Tryz.prog.cellsOf e:=by rw[<-d1];exact(List.getElem?_eq_some_iff.1 hu).1
  have:=d2 i hi
  rw[hu] at this
  rw[Addr.add_add,add_plain,<-Nat.add_assoc] at this
  exact this
 intro x hx
 simp only[List.mem_map,List.mem_range] at hx
 obtain⟨i,hi,rfl⟩:=hx
 obtain⟨_,_,_,_,d4⟩:=hg i hi
 exact d4
end
end
section
open Go.ChangeShapes Go.WideShapes Go.ChangeAt Go.RowKit Go.Joins
theorem Tryz.cellsR:Tryz.prog.cellsOf 24=3:=by kernel_rfl
theorem Tryz.cellsD:Tryz.prog.cellsOf 76=2:=by kernel_rfl
theorem Tryz.cellsS:Tryz.prog.cellsOf 9=1:=by kernel_rfl
section
variable {H:Type} {enc:TypeId×Value->H} {w:World} {base:Nat} {spare:Nat->Bool} {held:Bool}
theorem jg2 {n:Nat} {a:Addr} {y:DataW H×List MemPlace} (h:(w.cells? base a 2).bind (DataW.trod enc Tryz.prog w base spare held n 76)=some y) :
  ∃(s:ByteArray) (k:Int),s.size<=maxLen/\w.cell? (a.add 0)=some (.string s)/\w.cell? (a.add 1)=some (.int .i64 k):=by
 rw[Option.bind_eq_some_iff] at h
 obtain⟨cs,hcs,hy⟩:=h
 have hc:=World.cells?_some hcs
 obtain⟨y0,y1,m,_,hlen,h0,h1⟩:=trod_struct2 Tryz.underlying76 hy
 rw[Tryz.cellsD] at hlen
 match cs,hlen with
 | [v0,v1],_ =>
  rw[Tryz.cellsS] at h0
  rw[Tryz.cellsI] at h1
  simp at h0 h1
  obtain⟨s,e0,_,hs⟩:=DataW.trod_string Tryz.underlying9 h0
  obtain⟨k,e1,_,_⟩:=DataW.trod_int Tryz.underlying3 h1
  simp only[List.cons.injEq,and_true] at e0 e1
  subst e0 e1
  have c0:=hc.2.2 0 (by omega)
  have c1:=hc.2.2 1 (by omega)
  exact⟨s,k,hs,by simpa using c0,by simpa using c1⟩
theorem j7b {fuel:Nat} {v:Value} {y:DataW H×List MemPlace} (h:DataW.trod enc Tryz.prog w base spare held fuel 22 [v]=some y) :
  ∃s c L,v=.slice s (List.length (α:=ByteArray×Int) L) c/\Dc w s L:=by
 rcases DataW.trod_slice Tryz.underlying22 h with ⟨hcs,_⟩|⟨a,len,cap,elems,rest,n,_,hcs,_,hb,hl,hm,hlen,hel,_,_⟩
 ·
  simp at hcs
  exact⟨none,0,[],hcs,Or.inl rfl,λp hp=>by simp at hp,by simp⟩
 simp at hcs
 have each:∀i,i<len->∃p:ByteArray×Int,p.1.size<=maxLen/\w.cell? ((a.add (i*2)).add 0)=some (.string p.1)/\w.cell? ((a.add (i*2)).add 1)=some (.int .i64 p.2):=by
  intro i hi
  have:=hel i hi
  rw[Tryz.cellsD] at this
  obtain⟨e,he⟩:∃e,elems[i]?=some e:=⟨elems[i],by simp[hlen,hi]⟩
  rw[he] at this
  obtain⟨s,k,h1,h2,h3⟩:=jg2 this
  exact⟨(s,k),h1,h2,h3⟩
 let g:Nat->ByteArray×Int:=λi=>if h:i<len then Classical.choose (each i h) else (ByteArray.empty,0)
 have hg:∀i,i<len->(g i).1.size<=maxLen/\w.cell? ((a.add (i*2)).add 0)=some (.string (g i).1)/\w.cell? ((a.add (i*2)).add 1)=some (.int .i64 (g i).2):=by
  intro i hi
  have:g i=Classical.choose (each i hi):=by simp[g,hi]
  rw[this]
  exact Classical.choose_spec (each i hi)
 have hL:((List.range len).map g).length=len:=by simp
 refine⟨some a,cap,(List.range len).map g,by rw[hL];exact hcs,?_,?_,by rw[hL];omega⟩
 ·
  by_cases he:len=0
  ·
   left;simp[he]
  right
  obtain⟨b,off,spot⟩:=a
  have h0:=(hg 0 (by omega)).2.1
  have hspot:spot=none:=by simpa[Addr.add] using World.cell?_spot h0
  subst hspot
  refine⟨b,off,rfl,?_,λj hj=>?_⟩
  ·
   have:=World.block_lt_of_cell? _ _ h0
   simpa[Addr.add] using this
  rw[hL] at hj
  have e:dAt ((List.range len).map g) j=g j:=by simp[dAt,hj]
  rw[e]
  obtain⟨_,g1,g2⟩:=hg j hj
  rw[Addr.add_add,add_plain] at g1 g2
  exact⟨g1,g2⟩
 intro p hp
 simp only[List.mem_map,List.mem_range] at hp
 obtain⟨i,hi,rfl⟩:=hp
 exact(hg i hi).1
theorem jjo {r:Reach} {b0:Nat} {v:Value} {d:DataW H} {p:List MemPlace} (hv:Value.okWide Tryz.prog w r b0 24 v) (h:DataW.Trod enc Tryz.prog w base spare held 24 v d p) :
  ∃s1 s2 s3 c1 c2 c3 A B C,v=.agg #[.slice s1 (List.length (α:=ByteArray×Int) A) c1,.slice s2 (List.length (α:=ByteArray×Int) B) c2,.slice s3 (List.length (α:=ByteArray×Int) C) c3]/\Dc w s1 A/\Dc w s2 B/\Dc w s3 C:=by
 obtain⟨v0,v1,v2,y0,y1,y2,n,rfl,rfl,rfl,h0,h1,h2⟩:=open_agg3 Tryz.underlying24 (by kernel_rfl) Tryz.cellsR hv h
 obtain⟨s1,c1,A,rfl,gA⟩:=j7b h0
 obtain⟨s2,c2,B,rfl,gB⟩:=j7b h1
 obtain⟨s3,c3,C,rfl,gC⟩:=j7b h2
 exact⟨s1,s2,s3,c1,c2,c3,A,B,C,rfl,gA,gB,gC⟩
end
end
section
open Go.ChangeShapes Go.WideShapes Go.ChangeAt Go.RowKit Go.Joins
section
variable {H:Type} {enc:TypeId×Value->H} {w:World} {base:Nat} {spare:Nat->Bool} {held:Bool}
end
end
section
open Go.ChangeShapes Go.WideShapes Go.ChangeAt Go.RowKit Go.Joins
theorem Tryz.cellsNode:Tryz.prog.cellsOf 78=4:=by kernel_rfl
theorem Tryz.cellsTree:Tryz.prog.cellsOf 28=2:=by kernel_rfl
theorem Tryz.cellsStr:Tryz.prog.cellsOf 9=1:=by kernel_rfl
theorem Tryz.cellsNodeS:Tryz.prog.cellsOf 25=1:=by kernel_rfl
section
variable {H:Type} {enc:TypeId×Value->H} {w:World} {base:Nat} {spare:Nat->Bool} {held:Bool}
theorem jdf (m:Nat) (cs:List Value) (y:DataW H×List MemPlace) (h:DataW.trod enc Tryz.prog w base spare held m 3 cs=some y):∃a,cInt w 0 cs a/\okI a:=by
 obtain⟨n,e0,_,wf⟩:=DataW.trod_int Tryz.underlying3 h
 exact⟨n,e0,j8t wf⟩
theorem jkb (m:Nat) (cs:List Value) (y:DataW H×List MemPlace) (h:DataW.trod enc Tryz.prog w base spare held m 78 cs=some y):∃a,j1d w 0 cs a/\jfb a:=by
 obtain⟨y0,y1,y2,y3,n,_,hlen,h0,h1,h2,h3⟩:=trod_struct4 Tryz.underlying78 h
 rw[Tryz.cellsNode] at hlen
 match cs,hlen with
 | [v0,v1,v2,v3],_ =>
  simp[Tryz.cellsI,Tryz.cellsStr,Tryz.cellsIs] at h0 h1 h2 h3
  obtain⟨a,e0,_,wa⟩:=DataW.trod_int Tryz.underlying3 h0
  obtain⟨b,e1,_,wb⟩:=DataW.trod_string Tryz.underlying9 h1
  obtain⟨c,e2,_,wc⟩:=DataW.trod_int Tryz.underlying3 h2
  obtain⟨s,cap,L,e3,f3,m3,m4⟩:=ja9 Tryz.underlying26 Tryz.cellsI (by omega) jdf h3
  simp only[List.cons.injEq,and_true] at e0 e1 e2 e3
  subst e0 e1 e2 e3
  exact⟨⟨a,b,c,L⟩,⟨s,cap,rfl,f3⟩,⟨j8t wa,j8t wc⟩,(by have:=wb;unfold maxLen at this;omega),m4,m3⟩
theorem jfi {r:Reach} {b0:Nat} {v:Value} {d:DataW H} {p:List MemPlace} (hv:Value.okWide Tryz.prog w r b0 28 v) (h:DataW.Trod enc Tryz.prog w base spare held 28 v d p) :
  ∃s1 s2 c1 c2 t,v=.agg #[.slice s1 (Tre.nodes t).length c1,.slice s2 t.tops.length c2]/\InT w 0 s1 s2 t/\mTre t:=by
 obtain⟨cs,rfl,hsz⟩:=okWide_struct Tryz.underlying28 hv
 obtain⟨fuel,hf⟩:=h
 obtain⟨y0,y1,m,_,hlen,g0,g1⟩:=trod_struct2 Tryz.underlying28 hf
 rw[Tryz.cellsTree] at hsz
 obtain⟨l⟩:=cs
 match l,hsz with
 | [v0,v1],_ =>
  simp[Value.cells,Tryz.cellsNodeS,Tryz.cellsIs] at g0 g1
  obtain⟨s1,c1,A,e0,f1,m1,m2⟩:=ja9 Tryz.underlying25 Tryz.cellsNode (by omega) jkb g0
  obtain⟨s2,c2,B,e1,f2,m3,m4⟩:=ja9 Tryz.underlying26 Tryz.cellsI (by omega) jdf g1
  simp only[List.cons.injEq,and_true] at e0 e1
  subst e0 e1
  exact⟨s1,s2,c1,c2,⟨A,B⟩,rfl,⟨f1,f2⟩,m2,m1,m4,m3⟩
end
end
section
open Go.ChangeShapes Go.WideShapes Go.ChangeAt Go.RowKit Go.Joins
theorem jms : Tryz.prog.globalNamed "errors.errorType" = some 0 := by kernel_rfl
theorem jm9 : (Tryz.prog.cutTypes.find? (·.1 == "internal/reflectlite.rtype")).map (·.2) = some 143 := by kernel_rfl
theorem jjm:((List.range 297).filter λt=>Tryz.prog.rowNamed t [101,114,114,111,114])=[60]:=by kernel_rfl
theorem jk0:Tryz.prog.types.size=297:=by kernel_rfl
theorem jep {W:World} (h:laidMetH Tryz.prog Rows.fnExactCheckRow.laid W):W.cell? ⟨0,0,none⟩=some (rtV 60):=by
 have h1 := h.filter (fun x => x.1 == "errors.errorType")
 have h' : laidMet Tryz.prog [] W ∧ handlesMet Tryz.prog [("errors.errorType", Rows.laid_errors_errorType)] W := h1
 obtain⟨name,u,ty,e1,e2,e3,e4,e5⟩:=h'.2 _ (List.mem_singleton.2 rfl)
 have en:name=[101,114,114,111,114]:=(Option.some.inj e1).symm
 subst en
 obtain rfl:=Option.some.inj (jm9.symm.trans e2)
 have hm:ty∈(List.range 297).filter λt=>Tryz.prog.rowNamed t [101,114,114,111,114]:=List.mem_filter.2 ⟨List.mem_range.2 (by rw[<-jk0];exact e3),e4⟩
 rw[jjm] at hm
 obtain rfl:=List.mem_singleton.1 hm
 have hh:typeHandle Tryz.prog 60=.pointer (some ⟨10,60,none⟩):=by kernel_rfl
 rw[hh] at e5
 simpa using World.var?_cell jms e5 0
noncomputable def jkk (os:Os):World :=
 let w0:=World.holding Tryz.prog os ⟨#[],#[],[]⟩
 {w0 with heap:=w0.heap.modify 0 fun
   | .cells _ t frozen=> .cells #[rtV 60] t frozen
   | o=>o}
def j56:List (String×DataW Unit):=Rows.fnExactCheckRow.laid.filter λx=>x.2.handleName?.isNone
noncomputable def door (os:Os):World:=(jkk os).layVars Tryz.prog j56
theorem jc2 (os:Os) (args:Array Value):laidMet Tryz.prog j56 ((door os).forCall (λ_ _=>0) ⟨#[],args,[]⟩).memory:=by
 have e1:(j56.filter λx=>(j56.map (·.1)).contains x.1)=j56:=List.filter_eq_self.2 λx hx=>List.contains_iff_mem.2 (List.mem_map.2 ⟨x,hx,rfl⟩)
 have e2:(j56.filter λx=>!(j56.map (·.1)).contains x.1)=[]:=List.filter_eq_nil_iff.2 λx hx=>by rw[List.contains_iff_mem.2 (List.mem_map.2 ⟨x,hx,rfl⟩)];simp
 have h:laidMet Tryz.prog j56 (door os):=laidMet_layVars (w0:=jkk os) (j56.map (·.1)) [] (by rw[e1];rfl) (by rw[e1];kernel_rfl) (by rw[e1];kernel_rfl) (by rw[e2];exact LaidIn.none)
 exact h.of_heap (by simp[World.memory,World.forCall,Input.heap])
theorem jh2 (os:Os) (args:Array Value):laidMetH Tryz.prog Rows.fnExactCheckRow.laid ((door os).forCall (λ_ _=>0) ⟨#[],args,[]⟩).memory :=
 laidMetH_of_parts (jc2 os args) (by kernel_rfl)
theorem lifted (os:Os) (started:os.Started) (H:Type) (enc:TypeId×Value->H) :
  ReturnsInHanded {} Tryz.checked os 3 .any (λw args=>(Rows.fnExactCheckSpec.pre enc Tryz.prog Tryz.f3 [] false w args/\laidMetH Tryz.prog Rows.fnExactCheckRow.laid w)/\sizedMet enc Tryz.prog Tryz.f3 (OpenSpec.ofChange Rows.fnExactCheckSpec) false w args)
   (Rows.fnExactCheckSpec.post enc Tryz.prog Tryz.f3 false true false false):=by
 refine returnsInHanded_of_change_and (C:=Tryz.checked) (X:=λw _=>laidMetH Tryz.prog Rows.fnExactCheckRow.laid w) (λ_ _ _ hh h=>h.of_heap hh) Tryz.own started (by kernel_rfl) Tryz.func3
  (ChangeSpec.witness_shaped (enc:=enc) (C:=Tryz.checked) (os:=os) (X:=λw _=>laidMetH Tryz.prog Rows.fnExactCheckRow.laid w) false (door os) #[.agg #[.slice none 0 0,.slice none 0 0,.slice none 0 0],.agg #[.slice none 0 0,.slice none 0 0]] 8 ((World.layVars_os _ _ _).trans rfl)
   (World.shaped_of_ZipB (by kernel_rfl) (by kernel_rfl)) (by kernel_rfl) (by kernel_rfl) (by kernel_rfl) (jh2 os _)) ?_
 intro W base args ds gs before hval0 hW _ _ hL _
 have hval:∀(j:Nat) t v,Tryz.f3.params[j]?=some t->args[j]?=some v->Value.okWide Tryz.prog W .any base t v:=hval0
 have hW':=hW
 obtain⟨p,q,hA0,hV,rfl,hfz,hnd⟩:=hW
 have hA:DataW.TrodAll enc Tryz.prog W 0 (λ_=>true) true Tryz.f3.params.toList args.toList ds p:=hA0
 rw[Tryz.params3] at hA hval
 obtain⟨v0,vs0,d0,ds0,p0,q0,hargs,rfl,rfl,h0,r0⟩:=trodAll_cons hA
 obtain⟨v1,vs1,d1,ds1,p1,q1,rfl,rfl,rfl,h1,r1⟩:=trodAll_cons r0
 obtain⟨rfl,rfl,rfl⟩:=trodAll_nil r1
 obtain rfl:args=#[v0,v1]:=by cases args;simp_all
 obtain⟨rfl,rfl⟩:=trodVars_none hV
 have k0:=h0
 have lt0:∀x∈p0,x.block<W.heap.size:=by obtain⟨m,hm⟩:=k0;exact DataW.trod_lt m _ _ _ hm
 have k1:=h1
 have lt1:∀x∈p1,x.block<W.heap.size:=by obtain⟨m,hm⟩:=k1;exact DataW.trod_lt m _ _ _ hm
 obtain⟨s1,s2,s3,c1,c2,c3,A,B,C,rfl,gA,gB,gC⟩:=jjo (hval 0 24 v0 rfl rfl) h0
 obtain⟨a1,a2,e1,e2,T,rfl,hI,hm⟩:=jfi (hval 1 28 v1 rfl rfl) h1
 have hg:=jep hL
 clear hA0 hval0;refine(j7j s1 s2 s3 a1 a2 c1 c2 c3 e1 e2 A B C T W hg gA gB gC hI hm).mono λe W' ⟨he,bel⟩=>?_
 subst he
 exact⟨_,rfl,_,_,_,[],_,[],hW',trodAll_mk1 (shut_bool Tryz.underlying4 _),(trodAll_cons_mk (Below.trod Tryz.laidOut (by kernel_rfl) (of_decide_eq_true (by kernel_rfl)) k0 bel lt0) (trodAll_cons_mk (Below.trod Tryz.laidOut (by kernel_rfl) (of_decide_eq_true (by kernel_rfl)) k1 bel lt1) trodAll_mk0)),rfl,bel.frame _,λh=>by cases h⟩
theorem row_holds:Rows.FnExactCheckSaid :=
 OpenClaim.holds_of_wide 3 Tryz.f3 rfl rfl rfl rfl rfl rfl rfl ⟨rfl,rfl,rfl,rfl,rfl⟩ rfl rfl rfl rfl rfl (by kernel_rfl) Tryz.func3 (by kernel_rfl)
  (of_decide_eq_true (by kernel_rfl)) (by unfold Func.isWrapper;first|(rw[if_pos (by decide +kernel)];kernel_rfl)|(rw[if_neg (by decide +kernel)];exact⟨rfl,rfl⟩))
  (λos started H enc _=>lifted os started H enc)
end
end Go.Proofs.YtjbbagcpcepkoaaGreatDoor
