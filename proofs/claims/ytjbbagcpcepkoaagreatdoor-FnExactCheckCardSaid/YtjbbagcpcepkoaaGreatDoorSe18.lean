import Derived.Test.YtjbbagcpcepkoaaGreatDoorSe17
import Derived.Deep.OwnRows
namespace Go.Proofs.YtjbbagcpcepkoaaGreatDoor
set_option maxRecDepth 100000
set_option maxHeartbeats 64000000
set_option linter.unusedVariables false
set_option linter.unusedSimpArgs false
section
open Go.RowKit
theorem jmt {k:Int} (h:j1c 9 k):k=33\/k=34:=by
 unfold j1c at h
 simp only[show¬(9:Int)=10 by omega,if_false] at h
 have h:=h.1
 unfold cls at h
 repeat (split at h<;>try omega)
def LdW (G:Gd) (m:Nat) (w:World):Prop :=
 (∃K nj,Lt G w K/\FitL (j0e G.T) (okN G.T) (G.T.tops.take m) 0 nj/\j3a (Dg G) G.T G.T.nodes.length G.T.tops [] (λ_=>0)=j3a (Dg G) G.T G.T.nodes.length (G.T.tops.drop m) (G.T.tops.take m) K)\/∃c nq,Dd G w c nq/\j3a (Dg G) G.T G.T.nodes.length G.T.tops [] (λ_=>0)=.error (c,nq)
def jku (G:Gd) (w:World) (r:Ck KM):Prop :=
 match r with
 | .error (c,n)=>Dd G w c n
 | .ok K'=>Lt G w K'
theorem LdW.c13 {G:Gd} {m:Nat} {w:World} (h:LdW G m w):(w.cell? ⟨G.p,13,none⟩=some (.int .i64 0)/\∃K nj,Lt G w K/\FitL (j0e G.T) (okN G.T) (G.T.tops.take m) 0 nj/\j3a (Dg G) G.T G.T.nodes.length G.T.tops [] (λ_=>0)=j3a (Dg G) G.T G.T.nodes.length (G.T.tops.drop m) (G.T.tops.take m) K)\/∃c nq,¬c=0/\w.cell? ⟨G.p,13,none⟩=some (.int .i64 c)/\Dd G w c nq/\j3a (Dg G) G.T G.T.nodes.length G.T.tops [] (λ_=>0)=.error (c,nq):=by
 rcases h with ⟨K,nj,⟨top,a,b,sw,cw,fn,last,hz⟩,h2,h3⟩|⟨c,nq,hd,h2⟩
 ·
  exact Or.inl ⟨(hz.bx.cell 13).trans rfl,K,nj,⟨top,a,b,sw,cw,fn,last,hz⟩,h2,h3⟩
 exact Or.inr ⟨c,nq,hd.ne,hd.c13,hd,h2⟩
theorem Lt.later {G:Gd} {w w':World} {K:KM} (h:Lt G w K) (hb:Below w.heap.size w w'):Lt G w' K:=by
 obtain⟨top,a,b,sw,cw,fn,last,hz⟩:=h
 exact⟨top,a,b,sw,cw,fn,last,hz.later hb⟩
theorem Below.tw' {G:Gd} {W w w':World} (h:Below W.heap.size W w) (ht:Tw G.p G.kb w w') (hp:W.heap.size<=G.p) (hq:W.heap.size<=G.kb):Below W.heap.size W w':=ht.below h h.size hp hq
theorem ji1:(Tryz.prog.info? 3).map (λi=>(i.zero,i.size,i.bytes))=some (some (.int .i64 0),1,8):=by kernel_rfl
theorem jfy (s1 s2 s3 n1 n2:Option Addr) (c1 c2 c3 d1 d2 B0:Nat) (A B C:List (ByteArray×Int)) (T:Tre) (w:World) (hA:j0y w s1 A) (hB:j0y w s2 B) (hC:j0y w s3 C) (hT:InT w B0 n1 n2 T) (hk:kTre T) (hok:okR A B C=true) (htr:treP T) :
  Calls Tryz.prog 20 #[.agg #[.slice s1 A.length c1,.slice s2 B.length c2,.slice s3 C.length c3],.agg #[.slice n1 T.nodes.length d1,.slice n2 T.tops.length d2]] w λe w'=>∃G:Gd,G.Ok/\e=.returned (.pointer (some ⟨G.p,0,none⟩))/\jku G w' (j3a (Dg G) G.T G.T.nodes.length G.T.tops [] (λ_=>0))/\Dg G=(λsort s=>dkL (j18 A B C sort) s)/\G.T=T/\Below w.heap.size w w':=by
 have bz:Below w.heap.size w ((w.alloc (.cells #[.slice s1 A.length c1,.slice s2 B.length c2,.slice s3 C.length c3] 35)).alloc (.cells #[.slice n1 T.nodes.length d1,.slice n2 T.tops.length d2] 39)):=j00 (j00 (Below.refl _ _) _) _
 have hsz:((w.alloc (.cells #[.slice s1 A.length c1,.slice s2 B.length c2,.slice s3 C.length c3] 35)).alloc (.cells #[.slice n1 T.nodes.length d1,.slice n2 T.tops.length d2] 39)).heap.size=w.heap.size+2:=by simp
 have hG:(⟨((w.alloc (.cells #[.slice s1 A.length c1,.slice s2 B.length c2,.slice s3 C.length c3] 35)).alloc (.cells #[.slice n1 T.nodes.length d1,.slice n2 T.tops.length d2] 39)),B0,w.heap.size+1+1+1,w.heap.size+1+1,s1,s2,s3,n1,n2,c1,c2,c3,d1,d2,T.nodes.length,A,B,C,T⟩:Gd).Ok:=⟨hA.later bz,hB.later bz,hC.later bz,hT.later bz,by show((w.alloc (.cells #[.slice s1 A.length c1,.slice s2 B.length c2,.slice s3 C.length c3] 35)).alloc (.cells #[.slice n1 T.nodes.length d1,.slice n2 T.tops.length d2] 39)).heap.size<=w.heap.size+1+1+1;rw[hsz];omega,by show((w.alloc (.cells #[.slice s1 A.length c1,.slice s2 B.length c2,.slice s3 C.length c3] 35)).alloc (.cells #[.slice n1 T.nodes.length d1,.slice n2 T.tops.length d2] 39)).heap.size<=w.heap.size+1+1;rw[hsz];omega,by show¬w.heap.size+1+1=w.heap.size+1+1+1;omega,hk,hok,htr⟩
 have hnl:T.nodes.length<=4000:=htr.1
 have htl:T.tops.length<=1048576:=hk.2
 have kr:=Blk.alloc (Blk.new w #[.slice s1 A.length c1,.slice s2 B.length c2,.slice s3 C.length c3] 35) (.cells #[.slice n1 T.nodes.length d1,.slice n2 T.tops.length d2] 39)
 have kt:=Blk.new' (n:=w.heap.size+1) (w.alloc (.cells #[.slice s1 A.length c1,.slice s2 B.length c2,.slice s3 C.length c3] 35)) #[.slice n1 T.nodes.length d1,.slice n2 T.tops.length d2] 39 (by simp)
 have R0:=Hid.mk' ((kr.cell 0).trans rfl:_=some (Value.slice s1 A.length c1))
 have R1:=Hid.mk' ((kr.cell 1).trans rfl:_=some (Value.slice s2 B.length c2))
 have R2:=Hid.mk' ((kr.cell 2).trans rfl:_=some (Value.slice s3 C.length c3))
 have T0:=Hid.mk' ((kt.cell 0).trans rfl:_=some (Value.slice n1 T.nodes.length d1))
 have T1:=Hid.mk' ((kt.cell 1).trans rfl:_=some (Value.slice n2 T.tops.length d2))
 have hk0:w.heap.size<((w.alloc (.cells #[.slice s1 A.length c1,.slice s2 B.length c2,.slice s3 C.length c3] 35)).alloc (.cells #[.slice n1 T.nodes.length d1,.slice n2 T.tops.length d2] 39)).heap.size:=by rw[hsz];omega
 have hk1:w.heap.size+1<((w.alloc (.cells #[.slice s1 A.length c1,.slice s2 B.length c2,.slice s3 C.length c3] 35)).alloc (.cells #[.slice n1 T.nodes.length d1,.slice n2 T.tops.length d2] 39)).heap.size:=by rw[hsz];omega
 have KT:=Hid.mk' kt
 have HG:=Hid.mk' hG
 have hG2:=Hid.mk' hG
 have BZ:=Hid.mk' bz
 have hmk:∀W,(Instr.makeSlice 26 (.int .i64 (T.nodes.length:Int)) (.int .i64 (T.nodes.length:Int))).run Tryz.prog W=.ok (.slice (some ⟨W.heap.size,0,none⟩) T.nodes.length T.nodes.length) (W.alloc (.cells (madeCells #[.int .i64 0] T.nodes.length) 3)):=λW=>run_make_row' (P:=Tryz.prog) 26 3 (.int .i64 0) 8 Tryz.underlying26 ji1 rfl .i64 .i64 T.nodes.length (by omega) (by omega) W
 have hz1:Hid (∀ob:Obj,(λW=>Below ((w.alloc (.cells #[.slice s1 A.length c1,.slice s2 B.length c2,.slice s3 C.length c3] 35)).alloc (.cells #[.slice n1 T.nodes.length d1,.slice n2 T.tops.length d2] 39)).heap.size ((w.alloc (.cells #[.slice s1 A.length c1,.slice s2 B.length c2,.slice s3 C.length c3] 35)).alloc (.cells #[.slice n1 T.nodes.length d1,.slice n2 T.tops.length d2] 39)) W) ((((w.alloc (.cells #[.slice s1 A.length c1,.slice s2 B.length c2,.slice s3 C.length c3] 35)).alloc (.cells #[.slice n1 T.nodes.length d1,.slice n2 T.tops.length d2] 39)).alloc ob).drew)):=λob=>j02 (j00 (Below.refl _ _) _)
 have hz:Hid (∀ob ob2:Obj,(λW=>Below ((w.alloc (.cells #[.slice s1 A.length c1,.slice s2 B.length c2,.slice s3 C.length c3] 35)).alloc (.cells #[.slice n1 T.nodes.length d1,.slice n2 T.tops.length d2] 39)).heap.size ((w.alloc (.cells #[.slice s1 A.length c1,.slice s2 B.length c2,.slice s3 C.length c3] 35)).alloc (.cells #[.slice n1 T.nodes.length d1,.slice n2 T.tops.length d2] 39)) W) (((((w.alloc (.cells #[.slice s1 A.length c1,.slice s2 B.length c2,.slice s3 C.length c3] 35)).alloc (.cells #[.slice n1 T.nodes.length d1,.slice n2 T.tops.length d2] 39)).alloc ob).alloc ob2).drew)):=λob ob2=>j02 (j00 (j00 (Below.refl _ _) _) _)
 clear hA hB hC hT bz kr kt hG hsz;go_enter Tryz.func20,Tryz.ntmps20
 go_wp2_with fail;refine wp_region_held_drew (S:=(λW=>Below ((w.alloc (.cells #[.slice s1 A.length c1,.slice s2 B.length c2,.slice s3 C.length c3] 35)).alloc (.cells #[.slice n1 T.nodes.length d1,.slice n2 T.tops.length d2] 39)).heap.size ((w.alloc (.cells #[.slice s1 A.length c1,.slice s2 B.length c2,.slice s3 C.length c3] 35)).alloc (.cells #[.slice n1 T.nodes.length d1,.slice n2 T.tops.length d2] 39)) W)) (by kernel_rfl) ?_ (λhHeld=>?_)
 ·
  exact j02 (Below.refl _ _)
 refine wpq (v:=?_) 0 7 rfl rfl ?_ ?_
 rotate_left 1
 ·
  intro w hSw;(try dsimp only at hSw);have x0:=lowc hSw R0.out hk0;have x1:=lowc hSw R1.out hk0;have x2:=lowc hSw R2.out hk0;go_simp<;>with_reducible rfl
 simp only[zs];refine wpq (v:=?_) 1 8 rfl rfl ?_ ?_
 rotate_left 1
 ·
  intro w hSw;(try dsimp only at hSw);have x0:=lowc hSw T0.out hk1;have x1:=lowc hSw T1.out hk1;go_simp<;>with_reducible rfl
 simp only[zs];refine wpr 2 9 ?_;simp only[zs];refine wpq (v:=?_) 3 10 rfl rfl ?_ ?_
 rotate_left 1
 ·
  intro w hSw;(try dsimp only at hSw);have x0:=lowc hSw T0.out hk1;go_simp<;>with_reducible rfl
 simp only[zs];refine wpr 4 11 ?_;simp only[zs];refine wpy 5 λK hK=>?_
 go_simp;refine hK.out _ _ ?_ (λhHeld=>?_)
 ·
  exact hz1.out _
 clear hK K;try simp only[zs]
 refine wpr 6 13 ?_;simp only[zs];refine wpy 7 λK hK=>?_
 go_simp;refine hK.out _ _ ?_ (λhHeld=>?_)
 ·
  exact hz.out _ _
 clear hK K;try simp only[zs]
 refine wpr 8 5 ?_;simp only[zs];refine wpAnyH_done (by kernel_rfl) ?_ _
 have KW:Hid (Blk (((((w.alloc (.cells #[.slice s1 A.length c1,.slice s2 B.length c2,.slice s3 C.length c3] 35)).alloc (.cells #[.slice n1 T.nodes.length d1,.slice n2 T.tops.length d2] 39)).alloc (.cells (madeCells #[.int .i64 0] T.nodes.length) 3)).alloc (.cells #[.slice s1 A.length c1,.slice s2 B.length c2,.slice s3 C.length c3,.slice n1 T.nodes.length d1,.slice n2 T.tops.length d2,.int .i64 0,.slice none 0 0,.slice none 0 0,.bool false,.bool false,.slice none 0 0,.bool false,.int .i64 0,.int .i64 0,.int .i64 (-1),.slice (some ⟨w.heap.size+1+1,0,none⟩) T.nodes.length T.nodes.length] 55)).drew) (w.heap.size+1+1+1) (lz (⟨((w.alloc (.cells #[.slice s1 A.length c1,.slice s2 B.length c2,.slice s3 C.length c3] 35)).alloc (.cells #[.slice n1 T.nodes.length d1,.slice n2 T.tops.length d2] 39)),B0,w.heap.size+1+1+1,w.heap.size+1+1,s1,s2,s3,n1,n2,c1,c2,c3,d1,d2,T.nodes.length,A,B,C,T⟩:Gd) 0 (.slice none 0 0) (.slice none 0 0) (.bool false) (.bool false) (.slice none 0 0) false 0) 55):=Blk.new' (n:=w.heap.size+1+1+1) (((w.alloc (.cells #[.slice s1 A.length c1,.slice s2 B.length c2,.slice s3 C.length c3] 35)).alloc (.cells #[.slice n1 T.nodes.length d1,.slice n2 T.tops.length d2] 39)).alloc (.cells (madeCells #[.int .i64 0] T.nodes.length) 3)) #[.slice s1 A.length c1,.slice s2 B.length c2,.slice s3 C.length c3,.slice n1 T.nodes.length d1,.slice n2 T.tops.length d2,.int .i64 0,.slice none 0 0,.slice none 0 0,.bool false,.bool false,.slice none 0 0,.bool false,.int .i64 0,.int .i64 0,.int .i64 (-1),.slice (some ⟨w.heap.size+1+1,0,none⟩) T.nodes.length T.nodes.length] 55 (by simp)
 have KB:Hid (Blk (((((w.alloc (.cells #[.slice s1 A.length c1,.slice s2 B.length c2,.slice s3 C.length c3] 35)).alloc (.cells #[.slice n1 T.nodes.length d1,.slice n2 T.tops.length d2] 39)).alloc (.cells (madeCells #[.int .i64 0] T.nodes.length) 3)).alloc (.cells #[.slice s1 A.length c1,.slice s2 B.length c2,.slice s3 C.length c3,.slice n1 T.nodes.length d1,.slice n2 T.tops.length d2,.int .i64 0,.slice none 0 0,.slice none 0 0,.bool false,.bool false,.slice none 0 0,.bool false,.int .i64 0,.int .i64 0,.int .i64 (-1),.slice (some ⟨w.heap.size+1+1,0,none⟩) T.nodes.length T.nodes.length] 55)).drew) (w.heap.size+1+1) (madeCells #[.int .i64 0] T.nodes.length) 3):=Blk.alloc (Blk.new' (n:=w.heap.size+1+1) ((w.alloc (.cells #[.slice s1 A.length c1,.slice s2 B.length c2,.slice s3 C.length c3] 35)).alloc (.cells #[.slice n1 T.nodes.length d1,.slice n2 T.tops.length d2] 39)) (madeCells #[.int .i64 0] T.nodes.length) 3 (by simp)) (.cells #[.slice s1 A.length c1,.slice s2 B.length c2,.slice s3 C.length c3,.slice n1 T.nodes.length d1,.slice n2 T.tops.length d2,.int .i64 0,.slice none 0 0,.slice none 0 0,.bool false,.bool false,.slice none 0 0,.bool false,.int .i64 0,.int .i64 0,.int .i64 (-1),.slice (some ⟨w.heap.size+1+1,0,none⟩) T.nodes.length T.nodes.length] 55)
 have HZ0:Hid (Lz (⟨((w.alloc (.cells #[.slice s1 A.length c1,.slice s2 B.length c2,.slice s3 C.length c3] 35)).alloc (.cells #[.slice n1 T.nodes.length d1,.slice n2 T.tops.length d2] 39)),B0,w.heap.size+1+1+1,w.heap.size+1+1,s1,s2,s3,n1,n2,c1,c2,c3,d1,d2,T.nodes.length,A,B,C,T⟩:Gd) (((((w.alloc (.cells #[.slice s1 A.length c1,.slice s2 B.length c2,.slice s3 C.length c3] 35)).alloc (.cells #[.slice n1 T.nodes.length d1,.slice n2 T.tops.length d2] 39)).alloc (.cells (madeCells #[.int .i64 0] T.nodes.length) 3)).alloc (.cells #[.slice s1 A.length c1,.slice s2 B.length c2,.slice s3 C.length c3,.slice n1 T.nodes.length d1,.slice n2 T.tops.length d2,.int .i64 0,.slice none 0 0,.slice none 0 0,.bool false,.bool false,.slice none 0 0,.bool false,.int .i64 0,.int .i64 0,.int .i64 (-1),.slice (some ⟨w.heap.size+1+1,0,none⟩) T.nodes.length T.nodes.length] 55)).drew) 0 (.slice none 0 0) (.slice none 0 0) (.bool false) (.bool false) (.slice none 0 0) false 0 (λ_=>0)):=⟨KW.out,KB.out.lt,λj hj=>(KB.out.cell j).trans (by have hj:j<T.nodes.length:=hj;simp[madeCells,hj,Nat.mod_one]),λj=>KB.out.frozen j,hHeld⟩
 have BX:Hid (Below ((w.alloc (.cells #[.slice s1 A.length c1,.slice s2 B.length c2,.slice s3 C.length c3] 35)).alloc (.cells #[.slice n1 T.nodes.length d1,.slice n2 T.tops.length d2] 39)).heap.size ((w.alloc (.cells #[.slice s1 A.length c1,.slice s2 B.length c2,.slice s3 C.length c3] 35)).alloc (.cells #[.slice n1 T.nodes.length d1,.slice n2 T.tops.length d2] 39)) (((((w.alloc (.cells #[.slice s1 A.length c1,.slice s2 B.length c2,.slice s3 C.length c3] 35)).alloc (.cells #[.slice n1 T.nodes.length d1,.slice n2 T.tops.length d2] 39)).alloc (.cells (madeCells #[.int .i64 0] T.nodes.length) 3)).alloc (.cells #[.slice s1 A.length c1,.slice s2 B.length c2,.slice s3 C.length c3,.slice n1 T.nodes.length d1,.slice n2 T.tops.length d2,.int .i64 0,.slice none 0 0,.slice none 0 0,.bool false,.bool false,.slice none 0 0,.bool false,.int .i64 0,.int .i64 0,.int .i64 (-1),.slice (some ⟨w.heap.size+1+1,0,none⟩) T.nodes.length T.nodes.length] 55)).drew)):=hHeld
 obtain⟨X,hX⟩:∃X,((((w.alloc (.cells #[.slice s1 A.length c1,.slice s2 B.length c2,.slice s3 C.length c3] 35)).alloc (.cells #[.slice n1 T.nodes.length d1,.slice n2 T.tops.length d2] 39)).alloc (.cells (madeCells #[.int .i64 0] T.nodes.length) 3)).alloc (.cells #[.slice s1 A.length c1,.slice s2 B.length c2,.slice s3 C.length c3,.slice n1 T.nodes.length d1,.slice n2 T.tops.length d2,.int .i64 0,.slice none 0 0,.slice none 0 0,.bool false,.bool false,.slice none 0 0,.bool false,.int .i64 0,.int .i64 0,.int .i64 (-1),.slice (some ⟨w.heap.size+1+1,0,none⟩) T.nodes.length T.nodes.length] 55)).drew=X:=⟨_,rfl⟩
 rw[hX] at HZ0 BX ⊢
 obtain⟨G,eG⟩:∃G:Gd,(⟨((w.alloc (.cells #[.slice s1 A.length c1,.slice s2 B.length c2,.slice s3 C.length c3] 35)).alloc (.cells #[.slice n1 T.nodes.length d1,.slice n2 T.tops.length d2] 39)),B0,w.heap.size+1+1+1,w.heap.size+1+1,s1,s2,s3,n1,n2,c1,c2,c3,d1,d2,T.nodes.length,A,B,C,T⟩:Gd)=G:=⟨_,rfl⟩
 rw[eG] at HZ0 HG
 have eP:w.heap.size+1+1+1=G.p:=by rw[<-eG]
 have eT:T=G.T:=by rw[<-eG]
 have HD:Hid (Dg G=λsort s=>dkL (j18 A B C sort) s):=by rw[<-eG];rfl
 obtain⟨W,eW⟩:∃W,((w.alloc (.cells #[.slice s1 A.length c1,.slice s2 B.length c2,.slice s3 C.length c3] 35)).alloc (.cells #[.slice n1 T.nodes.length d1,.slice n2 T.tops.length d2] 39))=W:=⟨_,rfl⟩
 rw[eW] at T1 BX BZ hk1
 have HWP:Hid (W.heap.size<=G.p/\W.heap.size<=G.kb):=by rw[<-eW,<-eG];exact⟨hG2.out.p,hG2.out.kb⟩
 rw[eP]
 clear hz hz1 hHeld KW KB hX eG R0 R1 R2 T0 KT hmk hk0 eW eP hG2;subst eT
 go_wp2_with fail;go_loopw [6] (λkv wr=>∃m:Nat,m<=G.T.tops.length/\kv=.int .i64 m/\Hid (LdW G m wr)/\Hid (Below W.heap.size W wr)) (λkv _=>G.T.tops.length-(intOf kv).toNat)
 case atStart=>exact⟨0,Nat.zero_le _,rfl,Or.inl ⟨λ_=>0,0,⟨_,_,_,_,_,_,_,HZ0.out⟩,by rw[List.take_zero];exact FitL.nil 0,by rw[List.take_zero,List.drop_zero]⟩,BX⟩
 clear HZ0 BX;obtain⟨m,hm,rfl,HL,HBW⟩:=hrel
 have x1:=lowc HBW.out T1.out hk1
 by_cases hlt:m<G.T.tops.length
 ·
  have t0:decide ((m:Int)<(G.T.tops.length:Int))=true:=by simp;omega
  rcases HL.out.c13 with ⟨y13,K,nj,hLt,hF,hR⟩|⟨c,nq,hc,y13,hd,hR⟩
  ·
   obtain⟨x,hx⟩:=j0p (L:=G.T.tops) (k:=m) hlt
   obtain⟨t,rfl,hN⟩:=jbl hx hF HG.out.tr
   have hN2:=hN
   obtain⟨n,hn,hc9,hnj,hok2,hfit⟩:=hN2
   have hF2:=jbb hx hF hN
   have HTA:=Hid.mk' (show∀W',Lt G W' K->_ from λW' (hh:Lt G W' K)=>by obtain⟨top,a,b,sw,cw,fn,last,hz⟩:=hh;exact jjy HG.out hx ⟨hn,hok2,nj,hfit⟩ hfit (jmt hc9) hz)
   have HLt:=Hid.mk' hLt
   have HR:=Hid.mk' hR
   have hdr:Hid (G.T.tops.drop m=(t:Int) :: G.T.tops.drop (m+1)):=by
    show _=_
    rw[List.drop_eq_getElem_cons hlt]
    congr 1
    exact(List.getElem?_eq_some_iff.1 hx).2
   have htk:Hid (G.T.tops.take (m+1)=G.T.tops.take m++[(t:Int)]):=by show _=_;rw[List.take_add_one,hx];rfl
   have HF2:Hid (FitL (j0e G.T) (okN G.T) (G.T.tops.take (m+1)) 0 (t+1)):=hF2
   clear hx hN hn hc9 hok2 hfit hF2 hLt hR hF;go_wp2_with fail;refine(HTA.out _ HLt.out).mono ?_
   rintro e w5 hS5
   have hL5:Hid (LdW G (m+1) w5):=by
    obtain⟨⟨_,hm5⟩,_⟩:=hS5
    cases hr:j20 (Dg G) G.T G.T.nodes.length (G.T.tops.take m) K (t:Int) with
    | error q =>
     obtain⟨c,nq⟩:=q
     rw[hr] at hm5
     exact Or.inr ⟨c,nq,hm5,by rw[HR.out,hdr.out];simp[j3a,hr]⟩
    | ok K2 =>
     rw[hr] at hm5
     exact Or.inl ⟨K2,t+1,hm5,HF2.out,by rw[HR.out,hdr.out,htk.out];simp[j3a,hr]⟩
   have B5:Hid (Below W.heap.size W w5):=Below.tw' HBW.out hS5.2 HWP.out.1 HWP.out.2
   obtain⟨⟨rfl,_⟩,_⟩:=hS5
   clear x1 y13 HL HBW;go_wp2_with fail;go_roundw
   case rel=>exact⟨m+1,by omega,by go_num,hL5,B5⟩
   case measure=>simp[intOf];omega
  have tc:(c ==0)=false:=by simp[hc]
  clear hc;go_wp2_with fail;go_ret;exact⟨G,HG.out,rfl,by rw[hR];exact hd,HD.out,rfl,BZ.out.trans (HBW.out.mono BZ.out.size)⟩
 have hmm:m=G.T.tops.length:=by omega
 subst hmm
 have t0:decide ((G.T.tops.length:Int)<(G.T.tops.length:Int))=false:=by simp
 go_wp2_with fail;go_ret;refine⟨G,HG.out,rfl,?_,HD.out,rfl,BZ.out.trans (HBW.out.mono BZ.out.size)⟩
 rcases HL.out with ⟨K,nj,hLt,_,hR⟩|⟨c,nq,hd,hR⟩
 ·
  rw[hR,List.drop_length];exact hLt
 rw[hR];exact hd
def chkA (A B C:List (ByteArray×Int)) (T:Tre):Ck KM:=j3a (λsort s=>dkL (j18 A B C sort) s) T T.nodes.length T.tops [] (λ_=>0)
noncomputable def chkR (A B C:List (ByteArray×Int)) (T:Tre):Int×Int:=if okR A B C=true then (if treB T=true then (match chkA A B C T with | .error q=>q | .ok _=>(0,-1)) else (1,-1)) else (1,-1)
theorem j8f (p1 q1 p2 q2 p3 q3:Nat) (n1 n2:Option Addr) (c1 c2 c3 d1 d2 B0:Nat) (A B C:List (ByteArray×Int)) (T:Tre) (w:World) (hA:j0y w (some ⟨p1,q1,none⟩) A) (hB:j0y w (some ⟨p2,q2,none⟩) B) (hC:j0y w (some ⟨p3,q3,none⟩) C) (hT:InT w B0 n1 n2 T) (hk:kTre T) :
  Calls Tryz.prog 7 #[.agg #[.slice (some ⟨p1,q1,none⟩) A.length c1,.slice (some ⟨p2,q2,none⟩) B.length c2,.slice (some ⟨p3,q3,none⟩) C.length c3],.agg #[.slice n1 T.nodes.length d1,.slice n2 T.tops.length d2]] w λe w'=>e=.returned (.tuple #[.int .i64 (chkR A B C T).1,.int .i64 (chkR A B C T).2])/\Below w.heap.size w w':=by
 have bz:Below w.heap.size w ((w.alloc (.cells #[.slice (some ⟨p1,q1,none⟩) A.length c1,.slice (some ⟨p2,q2,none⟩) B.length c2,.slice (some ⟨p3,q3,none⟩) C.length c3] 35)).alloc (.cells #[.slice n1 T.nodes.length d1,.slice n2 T.tops.length d2] 39)):=j00 (j00 (Below.refl _ _) _) _
 have kr:=Blk.alloc (Blk.new w #[.slice (some ⟨p1,q1,none⟩) A.length c1,.slice (some ⟨p2,q2,none⟩) B.length c2,.slice (some ⟨p3,q3,none⟩) C.length c3] 35) (.cells #[.slice n1 T.nodes.length d1,.slice n2 T.tops.length d2] 39)
 have kt:=Blk.new' (n:=w.heap.size+1) (w.alloc (.cells #[.slice (some ⟨p1,q1,none⟩) A.length c1,.slice (some ⟨p2,q2,none⟩) B.length c2,.slice (some ⟨p3,q3,none⟩) C.length c3] 35)) #[.slice n1 T.nodes.length d1,.slice n2 T.tops.length d2] 39 (by simp)
 obtain⟨W,eW⟩:∃W,((w.alloc (.cells #[.slice (some ⟨p1,q1,none⟩) A.length c1,.slice (some ⟨p2,q2,none⟩) B.length c2,.slice (some ⟨p3,q3,none⟩) C.length c3] 35)).alloc (.cells #[.slice n1 T.nodes.length d1,.slice n2 T.tops.length d2] 39))=W:=⟨_,rfl⟩
 rw[eW] at bz kr kt
 have HA:=Hid.mk' (hA.later bz)
 have HB:=Hid.mk' (hB.later bz)
 have HC:=Hid.mk' (hC.later bz)
 have HT:=Hid.mk' (hT.later bz)
 have HK:=Hid.mk' hk
 have KR:=Hid.mk' kr
 have KT:=Hid.mk' kt
 have BZ:=Hid.mk' bz
 obtain⟨x0,x1,x2,x3⟩:=kr.three
 obtain⟨y0,y1,y2⟩:=kt.two
 clear hA hB hC hT hk kr kt bz;go_enter Tryz.func7,Tryz.ntmps7
 go_wp2_with fail;refine(j8y p1 q1 c1 p2 q2 c2 p3 q3 c3 A B C _ HA.out HB.out HC.out).mono ?_
 rintro e w2 ⟨rfl,hb2⟩
 have B2:=Hid.mk' hb2
 clear hb2 x0 x1 x2 x3 y0 y1 y2;obtain⟨x0,x1,x2,x3⟩:=(KR.out.later B2.out).three
 obtain⟨y0,y1,y2⟩:=(KT.out.later B2.out).two
 cases hok:okR A B C
 ·
  have hR:Hid (chkR A B C T=(1,-1)):=by unfold chkR;rw[hok];rfl
  clear eW;go_wp2_with fail;refine bq (.tuple #[.int .i64 1,.int .i64 (-1)]) ?_
  exact⟨by rw[hR.out],BZ.out.trans (B2.out.mono BZ.out.size)⟩
 have HOK:=Hid.mk' hok
 clear hok;go_wp2_with fail;refine(j7n T n1 n2 d1 d2 B0 _ (HT.out.later B2.out) HK.out).mono ?_
 rintro e w3 ⟨rfl,hb3⟩
 have B3:Hid (Below W.heap.size W w3):=B2.out.trans (hb3.mono B2.out.size)
 clear hb3 x0 x1 x2 x3 y0 y1 y2 B2;obtain⟨x0,x1,x2,x3⟩:=(KR.out.later B3.out).three
 obtain⟨y0,y1,y2⟩:=(KT.out.later B3.out).two
 cases htb:treB T
 ·
  have hR:Hid (chkR A B C T=(1,-1)):=by unfold chkR;rw[HOK.out,htb];rfl
  clear eW;go_wp2_with fail;refine bq (.tuple #[.int .i64 1,.int .i64 (-1)]) ?_
  exact⟨by rw[hR.out],BZ.out.trans (B3.out.mono BZ.out.size)⟩
 have HTB:=Hid.mk' htb
 have htr:treP T:=by
  by_cases h:treP T
  ·
   exact h
  rw[j1h h] at htb;cases htb
 clear htb;go_wp2_with fail;refine(jfy (some ⟨p1,q1,none⟩) (some ⟨p2,q2,none⟩) (some ⟨p3,q3,none⟩) n1 n2 c1 c2 c3 d1 d2 B0 A B C T _ (HA.out.later B3.out) (HB.out.later B3.out) (HC.out.later B3.out) (HT.out.later B3.out) HK.out HOK.out htr).mono ?_
 rintro e w4 ⟨G,hG,rfl,hS,hD,hT,hb4⟩
 have B4:Hid (Below W.heap.size W w4):=B3.out.trans (hb4.mono B3.out.size)
 rw[hT,hD] at hS
 have hR:Hid (chkR A B C T=match chkA A B C T with | .error q=>q | .ok _=>(0,-1)):=by unfold chkR;rw[HOK.out,HTB.out];rfl
 have hS2:jku G w4 (chkA A B C T):=hS
 clear hS hb4 hD hT x0 x1 x2 x3 y0 y1 y2 eW;cases hr:chkA A B C T with
 | error q =>
  obtain⟨c,nn⟩:=q
  rw[hr] at hS2
  have hE:Hid (chkR A B C T=(c,nn)):=by rw[hR.out,hr];rfl
  obtain⟨cs,_,a2,a3,a4,_⟩:=Dd.ex hS2
  have z13:=(a2.cell 13).trans a3
  have z14:=(a2.cell 14).trans a4
  clear hS2 a2 a3 a4 hG;go_wp2_with fail;go_quiet (fail)
  go_wp2_with fail;refine bq (.tuple #[.int .i64 c,.int .i64 nn]) ?_
  exact⟨by rw[hE.out],BZ.out.trans ((B4.out.trans (j06 (Below.refl _ _) _ |>.mono B4.out.size)).mono BZ.out.size)⟩
 | ok K =>
  rw[hr] at hS2
  obtain⟨tt,aa,bb,ss,cc,ff,ll,hz⟩:=hS2
  have hE:Hid (chkR A B C T=(0,-1)):=by rw[hR.out,hr];rfl
  have z13:w4.cell? ⟨G.p,13,none⟩=some (.int .i64 0):=(hz.bx.cell 13).trans rfl
  have z14:w4.cell? ⟨G.p,14,none⟩=some (.int .i64 (-1)):=(hz.bx.cell 14).trans rfl
  clear hz hG;go_wp2_with fail;go_quiet (fail)
  go_wp2_with fail;refine bq (.tuple #[.int .i64 0,.int .i64 (-1)]) ?_
  exact⟨by rw[hE.out],BZ.out.trans ((B4.out.trans (j06 (Below.refl _ _) _ |>.mono B4.out.size)).mono BZ.out.size)⟩
end
section
open Go.RowKit Go.Maps Go.WideMaps
theorem jem (fn:Fn) (first cap:Array Value) (w:World):(Instr.makeFunc fn first cap).run Tryz.prog w=.ok (.func fn first cap) w:=rfl
structure j57 (w w':World) (v:Value) (km mb ko:Nat):Prop where
 k1:Blk w' km #[.map (some mb)] 91
 k2:QM w' mb 0 (λ_=>none)
 k3:Blk w' ko #[v] 134
 o1:w.heap.size<=km
 o2:w.heap.size<=mb
 o3:w.heap.size<=ko
 bl:Below w.heap.size w w'
theorem j6r (a:Addr) (fn:Fn) (x y:Array Value) (m:Mode) (W:World):(store a (.func fn x y) m).run Tryz.prog W=stored Tryz.prog W a (.func fn x y) m:=run_store Tryz.prog W a _ m rfl
theorem j5h (fn:Fn) (cap:Array Value) (v:Value) (hv:v=.func fn #[] cap) (w:World) :
  Calls Tryz.prog 65 #[v] w λe w'=>∃km mb ko,e=.returned (.agg #[addF km,j09 km ko])/\j57 w w' v km mb ko:=by
 have hmf:=jem
 have hmm:=j6g
 have hst:=j6r
 have k1:Blk ((((w.alloc (.cells #[v] 134)).alloc (.cells #[addF (w.heap.size+1+1+1),j09 (w.heap.size+1+1+1) w.heap.size] 136)).alloc (.map #[] 0)).alloc (.cells #[.map (some (w.heap.size+1+1))] 91)) (w.heap.size+1) #[addF (w.heap.size+1+1+1),j09 (w.heap.size+1+1+1) w.heap.size] 136:=((Blk.new' (n:=w.heap.size+1) (w.alloc (.cells #[v] 134)) #[addF (w.heap.size+1+1+1),j09 (w.heap.size+1+1+1) w.heap.size] 136 (by simp)).later (j00 (j00 (Below.refl _ _) _) _))
 have z0:_=some (addF (w.heap.size+1+1+1)):=(k1.cell 0).trans rfl
 have z1:_=some (j09 (w.heap.size+1+1+1) w.heap.size):=(k1.cell 1).trans rfl
 have HN:Hid (j57 w ((((w.alloc (.cells #[v] 134)).alloc (.cells #[addF (w.heap.size+1+1+1),j09 (w.heap.size+1+1+1) w.heap.size] 136)).alloc (.map #[] 0)).alloc (.cells #[.map (some (w.heap.size+1+1))] 91)) v (w.heap.size+1+1+1) (w.heap.size+1+1) w.heap.size):=by
  refine⟨Blk.new' _ _ _ (by simp),?_,(Blk.new w #[v] 134).later (j00 (j00 (j00 (Below.refl _ _) _) _) _),by omega,by omega,Nat.le_refl _,j00 (j00 (j00 (j00 (Below.refl _ _) _) _) _) _⟩
  have h:=(QM.made ((w.alloc (.cells #[v] 134)).alloc (.cells #[addF (w.heap.size+1+1+1),j09 (w.heap.size+1+1+1) w.heap.size] 136))).later (j00 (Below.refl _ _) (.cells #[.map (some (w.heap.size+1+1))] 91))
  have e:((w.alloc (.cells #[v] 134)).alloc (.cells #[addF (w.heap.size+1+1+1),j09 (w.heap.size+1+1+1) w.heap.size] 136)).heap.size=w.heap.size+1+1:=by simp
  rw[e] at h
  exact h
 subst hv
 clear k1;go_enter Tryz.func65,Tryz.ntmps65
 go_wp2_with fail;refine bodyPost_ret (v:=.agg #[addF (w.heap.size+1+1+1),j09 (w.heap.size+1+1+1) w.heap.size]) (by simp[results,Tryz.results65,go_sem,z0,z1]) rfl ?_
 exact⟨_,_,_,rfl,HN.out⟩
end
section
open Go.RowKit
theorem j5t (k:Int) (w:World) :
  Calls Tryz.prog 58 #[.int .i64 k] w λe w'=>e=.returned (.bool (decide (1<=k)&&decide (k<=4)))/\w'=w:=by
 by_cases h1:1<=k
 ·
  have E:Hid (decide (k<=4)=(decide (1<=k)&&decide (k<=4))):=by simp[Hid,h1]
  go_enter Tryz.func58,Tryz.ntmps58
  go_wp2
  go_ret;exact⟨j16 E.out,rfl⟩
 have E:Hid (false=(decide (1<=k)&&decide (k<=4))):=by simp[Hid,h1]
 go_enter Tryz.func58,Tryz.ntmps58
 go_wp2
 go_ret;exact⟨j16 E.out,rfl⟩
end
section
open Go.RowKit Go.Maps Go.WideMaps
def offT (A B C:List (ByteArray×Int)) (t:Nat):Nat:=if t<=1 then 0 else if t=2 then A.length else if t=3 then A.length+B.length else A.length+B.length+C.length
def plAt (A B C:List (ByteArray×Int)) (i:Nat):Pl :=
 ⟨(dAt (A++B++C) i).1,(dAt (A++B++C) i).2,if i<A.length then 1 else if i<A.length+B.length then 2 else 3,if i<A.length then (i:Int) else if i<A.length+B.length then (i:Int)-A.length else (i:Int)-(A.length+B.length)⟩
def plTo (A B C:List (ByteArray×Int)) (i:Nat):List Pl:=(List.range i).map (plAt A B C)
theorem jdg (A B C:List (ByteArray×Int)) (i:Nat):plTo A B C (i+1)=plTo A B C i++[plAt A B C i]:=by simp[plTo,List.range_succ]
theorem jf3 {t:Nat} (h1:1<=t) (h2:t<=3):t=1\/t=2\/t=3:=by omega
theorem jb6 {L M:List (ByteArray×Int)} {k:Nat} (h:k<L.length):dAt (L++M) k=dAt L k:=by
 unfold dAt;rw[List.getElem?_append_left h]
theorem j9o {L M:List (ByteArray×Int)} (k:Nat):dAt (L++M) (L.length+k)=dAt M k:=by
 unfold dAt;rw[List.getElem?_append_right (by omega)];congr 2;congr 1;omega
theorem jfs (A B C:List (ByteArray×Int)) {t:Nat} (h1:1<=t) (h2:t<=3):offT A B C (t+1)=offT A B C t+(j18 A B C (t:Int)).length:=by
 rcases jf3 h1 h2 with rfl|rfl|rfl<;>simp[offT,j18]
theorem j64 (A B C:List (ByteArray×Int)) {t k:Nat} (h1:1<=t) (h2:t<=3) (hk:k<(j18 A B C (t:Int)).length):offT A B C t+k<(A++B++C).length:=by
 rcases jf3 h1 h2 with rfl|rfl|rfl<;>simp[offT,j18] at hk ⊢ <;> omega
theorem j44 (A B C:List (ByteArray×Int)) {t k:Nat} (h1:1<=t) (h2:t<=3) (hk:k<(j18 A B C (t:Int)).length):dAt (A++B++C) (offT A B C t+k)=dAt (j18 A B C (t:Int)) k:=by
 rcases jf3 h1 h2 with rfl|rfl|rfl<;>simp[offT,j18] at hk ⊢
 ·
  exact jb6 hk
 ·
  rw[<-List.append_assoc,jb6 (by simp;omega),j9o]
 rw[<-List.append_assoc,show A.length+B.length+k=(A++B).length+k by simp,j9o]
theorem j6d (A B C:List (ByteArray×Int)) {t k:Nat} (h1:1<=t) (h2:t<=3) (hk:k<(j18 A B C (t:Int)).length):plAt A B C (offT A B C t+k)=⟨(dAt (j18 A B C (t:Int)) k).1,(dAt (j18 A B C (t:Int)) k).2,t,k⟩:=by
 have e:=j44 A B C h1 h2 hk
 unfold plAt
 rw[e]
 rcases jf3 h1 h2 with rfl|rfl|rfl<;>simp[offT,j18] at hk ⊢ <;> (try omega)
theorem j5l (A B C:List (ByteArray×Int)) (i:Nat) (s:ByteArray):(plTo A B C i).any (λp=>decide (p.n=s))=true ↔∃j,j<i/\(dAt (A++B++C) j).1=s:=by
 simp[plTo,plAt]
theorem j0y.kept {w w':World} {b o m:Nat} {L:List (ByteArray×Int)} (h:j0y w (some ⟨b,o,none⟩) L) (hg:w.grownBy w' (some m)) (hm:¬b=m):j0y w' (some ⟨b,o,none⟩) L:=by
 rcases h with h0|⟨b',o',e,h1,h2⟩
 ·
  exact Or.inl h0
 simp only[Option.some.injEq,Addr.mk.injEq,and_true] at e
 obtain⟨rfl,rfl⟩:=e
 refine Or.inr ⟨b,o,rfl,Nat.lt_of_lt_of_le h1 hg.size,λj hj=>?_⟩
 exact⟨hg.cell (h2 j hj).1 (by simp;exact hm),hg.cell (h2 j hj).2 (by simp;exact hm)⟩
def Pl.zero:Pl:=⟨ByteArray.empty,0,0,0⟩
theorem jb8:∀(l:List Pl) (D:DataW Value) (k:ByteArray),IsMap D->(∃q:Pl,D.atKey (wkey k) (.held Pl.zero.val)=.held q.val)->∃q:Pl,(j35 l D).atKey (wkey k) (.held Pl.zero.val)=.held q.val
 | [],D,k,h,hq=>hq
 | p :: r,D,k,h,hq=>by
  rw[j35]
  refine jb8 r _ k (h.put _ _) ?_
  by_cases e:k=p.n
  ·
   exact⟨p,by rw[e];exact atKey_put_same h (by trivial) _ _⟩
  obtain⟨q,hq⟩:=hq
  exact⟨q,by rw[atKey_put_other (λe'=>e (j5b e'))];exact hq⟩
theorem jbp {w:World} {b n:Nat} {l:List Pl} (h:w.ownsMap Tryz.prog 9 j2p b n (j35 l (.map []))) (s:ByteArray) (hs:s.size<=maxLen) :
  ∃q:Pl,(Instr.lookup 87 (.map (some b)) (.string s) true).run Tryz.prog w=.ok (.tuple #[.agg #[.string q.n,.int .i64 q.k,.int .i64 q.s,.int .i64 q.a],.bool (l.any (λp=>decide (p.n=s)))]) w/\.held q.val=(j35 l (.map [])).atKey (wkey s) (.held Pl.zero.val):=by
 obtain⟨v,hrun,hv⟩:=jjj h s hs
 obtain⟨q,hq⟩:=jb8 l (.map []) s isMap_empty ⟨Pl.zero,rfl⟩
 have e:v=q.val:=by
  have:DataW.held v=DataW.held q.val:=hv.trans hq
  injection this
 subst e
 exact⟨q,hrun,hq.symm⟩
theorem j7c (s1 s2 s3:Option Addr) (c1 c2 c3:Nat) (A B C:List (ByteArray×Int)) (w:World) (hA:j0y w s1 A) (hB:j0y w s2 B) (hC:j0y w s3 C) (nm:∀i,i<(A++B++C).length->(dAt (A++B++C) i).1.size<=maxLen) (l1:A.length<=1048576) (l2:B.length<=1048576) (l3:C.length<=1048576) :
  Calls Tryz.prog 38 #[.agg #[.slice s1 A.length c1,.slice s2 B.length c2,.slice s3 C.length c3]] w λe w' =>
   (okR A B C=false->e=.returned (.tuple #[.map none,.bool false]))/\(okR A B C=true->∃b n,e=.returned (.tuple #[.map (some b),.bool true])/\w'.ownsMap Tryz.prog 9 j2p b n (j35 (plTo A B C (A++B++C).length) (.map [])))/\Below w.heap.size w w':=by
 have hal:=alloc_old
 have haf:=j04
 have hmm:=@run_makeMap Tryz.prog
 have k0:=Blk.new w #[.slice s1 A.length c1,.slice s2 B.length c2,.slice s3 C.length c3] 35
 go_enter Tryz.func38,Tryz.ntmps38
 go_wp2_with fail;refine(j6v _).mono ?_
 rintro e w1 ⟨rfl,hw1,hb1⟩
 have K1:=k0.later hb1
 have L1:Below w.heap.size w w1:=blq
 obtain⟨bw,hbw⟩:∃b,(w.alloc (.cells #[.slice s1 A.length c1,.slice s2 B.length c2,.slice s3 C.length c3] 35)).heap.size=b:=⟨_,rfl⟩
 rw[hbw] at hw1 ⊢
 have hbw':w.heap.size+1=bw:=by rw[<-hbw];simp
 clear hbw hb1 k0;have K2:=K1.alloc (.map #[] 0)
 have W2:=hw1.alloc (.map #[] 0)
 have L2:=j00 L1 (.map #[] 0)
 have M2:=World.ownsMap_made w1 Tryz.prog 9 j2p
 have hbn:w.heap.size<=w1.heap.size:=L1.size
 have hbn2:bw<w1.heap.size:=hw1.lt
 go_wp2_with fail;obtain⟨bn,hbn0⟩:∃b,b=w1.heap.size:=⟨_,rfl⟩
 rw[<-hbn0] at M2 hbn hbn2 ⊢
 generalize hX:w1.alloc (.map #[] 0)=X at K2 W2 L2 M2 ⊢
 clear hX hw1 L1 K1 hbn0;have hL4:Hid (offT A B C 4=(A++B++C).length):=by simp[Hid,offT];omega
 go_loopw [6] (λsv wr=>∃t:Nat,1<=t/\t<=4/\sv=.int .i64 t/\Hid (∀u:Nat,1<=u->u<t->(j18 A B C (u:Int)).length<=12)/\Hid (∀i,i<offT A B C t->j3n (A++B++C) i)/\Blk wr w.heap.size #[.slice s1 A.length c1,.slice s2 B.length c2,.slice s3 C.length c3] 35/\wr.ownsMap Tryz.prog 9 (unitElem (H:=Unit)) bw 32 (j2u words (.map []))/\wr.ownsMap Tryz.prog 9 j2p bn (offT A B C t) (j35 (plTo A B C (offT A B C t)) (.map []))/\Below w.heap.size w wr) (λsv _=>4-(intOf sv).toNat)
 case atStart=>exact⟨1,by omega,by omega,rfl,λu h1 h2=>absurd h1 (by omega),λi hi=>absurd hi (by simp[offT]),K2,W2,M2,L2⟩
 clear K2 W2 L2 M2;obtain⟨t,t1,t4,rfl,hlens,hall,K,Wd,Nm,Lb⟩:=hrel
 have hO48:offT A B C t<=3145728:=by unfold offT;split;omega;split;omega;split<;>omega
 by_cases t3:t<=3
 ·
  have hltI:(t:Int)<=3:=by omega
  obtain⟨x0,x1,x2,x3⟩:=K.three
  go_wp2_with fail;refine(jaz s1 s2 s3 c1 c2 c3 A B C t _ (hA.later Lb) (hB.later Lb) (hC.later Lb)).mono ?_
  rintro e w2 ⟨⟨s,c,rfl,hd⟩,hb2⟩
  have hd:=hd.later hb2
  have K:=K.later hb2
  have Wd:=Wd.kept (j19 hb2) (by simp)
  have Nm:=Nm.kept (j19 hb2) (by simp)
  have Lb:=j01 Lb hb2
  clear x0 x1 x2 x3 hb2;obtain⟨P,hP⟩:∃P,Hid (j18 A B C (t:Int)=P):=⟨_,rfl⟩
  have hoff:Hid (∀k,k<P.length->offT A B C t+k<(A++B++C).length/\dAt (A++B++C) (offT A B C t+k)=dAt P k/\plAt A B C (offT A B C t+k)=⟨(dAt P k).1,(dAt P k).2,t,k⟩):=by
   intro k hk
   rw[<-hP.out] at hk ⊢
   exact⟨j64 A B C t1 t3 hk,j44 A B C t1 t3 hk,j6d A B C t1 t3 hk⟩
  have hnext:Hid (offT A B C (t+1)=offT A B C t+P.length):=by rw[<-hP.out];exact jfs A B C t1 t3
  rw[hP.out] at hd ⊢
  by_cases hl12:P.length<=12
  ·
   have u1:decide ((12:Int)<(P.length:Int))=false:=by simp;omega
   go_wp2_with fail;clear u1;obtain⟨O,hO⟩:∃O,Hid (offT A B C t=O):=⟨_,rfl⟩
   rw[hO.out] at Nm hall hoff hnext hO48
   go_loopw [29] (λi wy=>∃k:Nat,k<=P.length/\i=.int .i64 k/\Hid (∀i,i<O+k->j3n (A++B++C) i)/\Blk wy w.heap.size #[.slice s1 A.length c1,.slice s2 B.length c2,.slice s3 C.length c3] 35/\wy.ownsMap Tryz.prog 9 (unitElem (H:=Unit)) bw 32 (j2u words (.map []))/\wy.ownsMap Tryz.prog 9 j2p bn (O+k) (j35 (plTo A B C (O+k)) (.map []))/\j0y wy s P/\Below w.heap.size w wy) (λi _=>P.length-(intOf i).toNat)
   case atStart=>exact⟨0,Nat.zero_le _,rfl,hall,K,Wd,Nm,hd,Lb⟩
   clear hall K Wd Nm hd Lb;obtain⟨k,hk,rfl,hall,K,Wd,Nm,hd,Lb⟩:=hrel
   by_cases hlt:k<P.length
   ·
    obtain⟨b,o,rfl,hp,e1,e2⟩:=hd.get hlt
    obtain⟨f1,f2,f3⟩:=hoff.out k hlt
    have hsz:=nm _ f1
    rw[f2] at hsz
    obtain⟨p,hp0⟩:∃p,Hid (dAt P k=p):=⟨_,rfl⟩
    rw[hp0.out] at e1 e2 hsz
    obtain⟨p1,p2⟩:=p
    have F3:Hid (plAt A B C (O+k)=⟨p1,p2,t,k⟩):=by rw[hp0.out] at f3;exact f3
    have F2:Hid (dAt (A++B++C) (O+k)=(p1,p2)):=by rw[hp0.out] at f2;exact f2
    have F1:Hid (O+k<(A++B++C).length):=f1
    clear f1 f2 f3;have hbad:Hid (¬j3n (A++B++C) (O+k)->okR A B C=false):=by
     intro h
     have h9:okL (A++B++C)=false:=decide_eq_false (λh'=>h (h' _ F1.out))
     unfold okR
     rw[h9,Bool.and_false]
    have hlk:=j9u ((Wd.alloc (.cells #[.string p1,.int .i64 p2] 80)).alloc (.cells #[.string p1,.int .i64 p2,.int .i64 (t:Int),.int .i64 (k:Int)] 124)) p1 hsz
    obtain⟨q,hln,-⟩:=jbp (((Nm.alloc (.cells #[.string p1,.int .i64 p2] 80)).alloc (.cells #[.string p1,.int .i64 p2,.int .i64 (t:Int),.int .i64 (k:Int)] 124)).alloc (.cells #[] 125)) p1 hsz
    obtain⟨qn,qk,qs,qa⟩:=q
    obtain⟨tw,htw⟩:∃b,Hid ((plTo A B C (O+k)).any (λp=>decide (p.n=p1))=b):=⟨_,rfl⟩
    rw[htw.out] at hln
    have hlk:(Instr.lookup 118 (.map (some bw)) (.string p1) true).run Tryz.prog _=_:=hlk
    cases hw:isW p1
    ·
     rw[hw] at hlk
     cases htw0:tw
     ·
      rw[htw0] at hln
      cases hlet:j1s p1
      ·
       have E:Hid (okR A B C=false):=hbad.out (λg=>by
        have:=g.1
        rw[F2.out] at this
        simp[j1q,hlet] at this)
       go_wp2_with (first|(go_at_call 57;refine(j32 _ _).mono ?_;rintro e w' ⟨rfl,hb0,-⟩;rw[hlet])|(go_at_call 58;refine(j5t _ _).mono ?_;rintro e w' ⟨rfl,rfl⟩;rw[hkd]))
       refine bq (.tuple #[.map none,.bool false]) ⟨λ_=>rfl,(λh=>by rw[E.out] at h;cases h),?_⟩
       exact blq
      cases hkd:(decide (1<=p2)&&decide (p2<=4))
      ·
       have E:Hid (okR A B C=false):=hbad.out (λg=>by
        obtain⟨_,a,b,_⟩:=g
        rw[F2.out] at a b
        simp at hkd
        exact absurd (hkd a) (by omega))
       go_wp2_with (first|(go_at_call 57;refine(j32 _ _).mono ?_;rintro e w' ⟨rfl,-,hpos⟩;obtain⟨pos,rfl⟩:=hpos hlet;rw[hlet])|(go_at_call 58;refine(j5t _ _).mono ?_;rintro e w' ⟨rfl,rfl⟩;rw[hkd]))
       refine bq (.tuple #[.map none,.bool false]) ⟨λ_=>rfl,(λh=>by rw[E.out] at h;cases h),?_⟩
       exact blq
      have hgood:Hid (∀i,i<O+k+1->j3n (A++B++C) i):=by
       intro i hi
       by_cases h:i=O+k
       ·
        subst h
        unfold j3n
        rw[F2.out]
        simp at hkd
        refine⟨by simp[j1q,hlet,hw],hkd.1,hkd.2,λj hj e=>?_⟩
        have:(plTo A B C (O+k)).any (λp=>decide (p.n=p1))=true:=(j5l A B C _ _).2 ⟨j,hj,e⟩
        rw[htw.out,htw0] at this
        cases this
       exact hall.out i (by omega)
      go_wp2_with (first|(go_at_call 57;refine(j32 _ _).mono ?_;rintro e w' ⟨rfl,-,hpos⟩;obtain⟨pos,rfl⟩:=hpos hlet;rw[hlet])|(go_at_call 58;refine(j5t _ _).mono ?_;rintro e w' ⟨rfl,rfl⟩;rw[hkd]))
      have hbb:¬b=bn:=by
       intro e
       obtain⟨es,clock,hb,_⟩:=Nm
       subst e
       simp[World.cell?,hb] at e1
      have N4:=((((Nm.alloc (.cells #[.string p1,.int .i64 p2] 80)).alloc (.cells #[.string p1,.int .i64 p2,.int .i64 (t:Int),.int .i64 (k:Int)] 124)).alloc (.cells #[] 125)).alloc (.cells #[.string qn,.int .i64 qk,.int .i64 qs,.int .i64 qa] 124)).alloc (.stringIter p1 pos)
      have W4:=((((Wd.alloc (.cells #[.string p1,.int .i64 p2] 80)).alloc (.cells #[.string p1,.int .i64 p2,.int .i64 (t:Int),.int .i64 (k:Int)] 124)).alloc (.cells #[] 125)).alloc (.cells #[.string qn,.int .i64 qk,.int .i64 qs,.int .i64 qa] 124)).alloc (.stringIter p1 pos)
      have K4:=((((K.alloc (.cells #[.string p1,.int .i64 p2] 80)).alloc (.cells #[.string p1,.int .i64 p2,.int .i64 (t:Int),.int .i64 (k:Int)] 124)).alloc (.cells #[] 125)).alloc (.cells #[.string qn,.int .i64 qk,.int .i64 qs,.int .i64 qa] 124)).alloc (.stringIter p1 pos)
      have L4:=j00 (j00 (j00 (j00 (j00 Lb (.cells #[.string p1,.int .i64 p2] 80)) (.cells #[.string p1,.int .i64 p2,.int .i64 (t:Int),.int .i64 (k:Int)] 124)) (.cells #[] 125)) (.cells #[.string qn,.int .i64 qk,.int .i64 qs,.int .i64 qa] 124)) (.stringIter p1 pos)
      have D4:=hd.later (j00 (j00 (j00 (j00 (j00 (Below.refl _ wr) (.cells #[.string p1,.int .i64 p2] 80)) (.cells #[.string p1,.int .i64 p2,.int .i64 (t:Int),.int .i64 (k:Int)] 124)) (.cells #[] 125)) (.cells #[.string qn,.int .i64 qk,.int .i64 qs,.int .i64 qa] 124)) (.stringIter p1 pos))
      have hput:Hid ((j35 (plTo A B C (O+k)) (.map [])).put (wkey p1) (.held (.agg #[.string p1,.int .i64 p2,.int .i64 (t:Int),.int .i64 (k:Int)]))=j35 (plTo A B C (O+k+1)) (.map [])):=by
       show _=_
       rw[jdg,j89,F3.out];rfl
      refine j77 87 9 124 skeyed Tryz.underlying87 j2p bn (O+k) _ N4 (by unfold maxLen;omega) _ _ (wkey p1) (keyOf_string_mk Tryz.underlying9 hsz) (.held (.agg #[.string p1,.int .i64 p2,.int .i64 (t:Int),.int .i64 (k:Int)])) [] rfl ?_
      intro w9 N9 hg9
      rw[hput.out] at N9
      have W9:=W4.kept hg9 (by simp;omega)
      have K9:=K4.kept hg9 (by omega)
      have D9:=D4.kept hg9 hbb
      have L9:=L4.grown hg9 L4.size (λj hj=>by simp at hj;omega)
      clear N4 W4 K4 D4 L4 hln hlk Nm Wd K hd Lb hg9 hput;go_wp2_with fail;go_roundw
      case rel=>exact⟨k+1,by omega,by go_num,hgood,K9,W9,N9,D9,L9⟩
      case measure=>simp[intOf];omega
     rw[htw0] at hln
     have E:Hid (okR A B C=false):=hbad.out (λg=>by
      obtain⟨_,_,_,g4⟩:=g
      obtain⟨j,hj,e⟩:=(j5l A B C (O+k) p1).1 (by rw[htw.out,htw0])
      exact g4 j hj (by rw[F2.out];exact e))
     go_wp2_with fail;refine bq (.tuple #[.map none,.bool false]) ⟨λ_=>rfl,(λh=>by rw[E.out] at h;cases h),?_⟩
     exact blq
    rw[hw] at hlk
    have E:Hid (okR A B C=false):=hbad.out (λg=>by
     have:=g.1
     rw[F2.out] at this
     simp[j1q,hw] at this)
    go_wp2_with fail;refine bq (.tuple #[.map none,.bool false]) ⟨λ_=>rfl,(λh=>by rw[E.out] at h;cases h),?_⟩
    exact blq
   have hk':k=P.length:=by omega
   subst hk'
   have hlens':Hid (∀u:Nat,1<=u->u<t+1->(j18 A B C (u:Int)).length<=12):=by
    intro u h1 h2
    by_cases h:u=t
    ·
     subst h;rw[hP.out];exact hl12
    exact hlens.out u h1 (by omega)
   rw[<-hnext.out] at hall Nm
   go_wp2_with fail;go_roundw
   case rel=>exact⟨t+1,by omega,by omega,by go_num,hlens',hall,K,Wd,Nm,Lb⟩
   case measure=>simp[intOf];omega
  have u1:decide ((12:Int)<(P.length:Int))=true:=by simp;omega
  have E:Hid (okR A B C=false):=by
   have:¬(j18 A B C (t:Int)).length<=12:=by rw[hP.out];exact hl12
   apply jdn
   rcases jf3 t1 t3 with rfl|rfl|rfl<;>simp[j18] at this<;>omega
  go_wp2_with fail;exact bq (.tuple #[.map none,.bool false]) ⟨λ_=>rfl,(λh=>by rw[E.out] at h;cases h),Lb⟩
 have ht:t=4:=by omega
 subst ht
 have E:Hid (okR A B C=true):=by
  have h1:=hlens.out 1 (by omega) (by omega)
  have h2:=hlens.out 2 (by omega) (by omega)
  have h3:=hlens.out 3 (by omega) (by omega)
  have h4:okL (A++B++C)=true:=by
   unfold okL
   simp only[decide_eq_true_eq]
   intro i hi
   exact hall.out i (by rw[hL4.out];exact hi)
  simp[j18] at h1 h2 h3
  simp[Hid,okR,h1,h2,h3]
  simpa using h4
 have Nm':=Nm
 rw[hL4.out] at Nm'
 go_wp2_with fail;exact bq (.tuple #[.map (some bn),.bool true]) ⟨(λh=>by rw[E.out] at h;cases h),λ_=>⟨_,_,rfl,Nm'⟩,Lb⟩
end
section
open Go.RowKit Go.Maps Go.WideMaps
theorem jbe {A B C:List (ByteArray×Int)} (h:okR A B C=true):(A.length<=12/\B.length<=12/\C.length<=12)/\∀i,i<(A++B++C).length->j3n (A++B++C) i:=by
 simp only[okR,okL,Bool.and_eq_true,decide_eq_true_eq] at h
 exact⟨⟨h.1.1.1,h.1.1.2,h.1.2⟩,h.2⟩
theorem jbm {A B C:List (ByteArray×Int)} (h:okR A B C=true) {i j:Nat} (hi:i<(A++B++C).length) (hj:j<(A++B++C).length) (e:(dAt (A++B++C) i).1=(dAt (A++B++C) j).1):i=j:=by
 have g:=(jbe h).2
 rcases Nat.lt_trichotomy i j with h'|h'|h'
 ·
  exact absurd e ((g j hj).2.2.2 i h')
 ·
  exact h'
 exact absurd e.symm ((g i hi).2.2.2 j h')
theorem jhn {A B C:List (ByteArray×Int)} {j:Nat} (hj:j<(A++B++C).length):∃t k:Nat,1<=t/\t<=3/\k<(j18 A B C (t:Int)).length/\j=offT A B C t+k:=by
 simp at hj
 by_cases h1:j<A.length
 ·
  exact⟨1,j,by omega,by omega,by simpa[j18] using h1,by simp[offT]⟩
 by_cases h2:j<A.length+B.length
 ·
  exact⟨2,j-A.length,by omega,by omega,by simp[j18];omega,by simp[offT];omega⟩
 exact⟨3,j-(A.length+B.length),by omega,by omega,by simp[j18];omega,by simp[offT];omega⟩
def jdq (A B C:List (ByteArray×Int)) (sort:Int) (s:ByteArray) (r:Int):Prop :=
 (okR A B C=false->r=-1)/\(okR A B C=true->(∃k:Nat,k<(j18 A B C sort).length/\(dAt (j18 A B C sort) k).1=s/\r=k)\/((∀k,k<(j18 A B C sort).length->¬(dAt (j18 A B C sort) k).1=s)/\r=-1))
theorem j8v {A B C:List (ByteArray×Int)} {sort:Int} {k:Nat} (h:k<(j18 A B C sort).length):∃t:Nat,1<=t/\t<=3/\sort=t:=by
 by_cases h1:sort=1
 ·
  exact⟨1,by omega,by omega,h1⟩
 by_cases h2:sort=2
 ·
  exact⟨2,by omega,by omega,h2⟩
 by_cases h3:sort=3
 ·
  exact⟨3,by omega,by omega,h3⟩
 simp[j18,h1,h2,h3] at h
theorem jdq.one {A B C:List (ByteArray×Int)} {sort:Int} {s:ByteArray} {r q:Int} (h:jdq A B C sort s r) (g:jdq A B C sort s q):r=q:=by
 cases hk:okR A B C
 ·
  rw[h.1 hk,g.1 hk]
 rcases h.2 hk with ⟨k,k1,k2,rfl⟩|⟨h1,rfl⟩
 ·
  rcases g.2 hk with ⟨m,m1,m2,rfl⟩|⟨g1,rfl⟩
  ·
   obtain⟨t,t1,t2,rfl⟩:=j8v k1
   have:=jbm hk (j64 A B C t1 t2 k1) (j64 A B C t1 t2 m1) (by rw[j44 A B C t1 t2 k1,j44 A B C t1 t2 m1,k2,m2])
   have:k=m:=by omega
   rw[this]
  exact absurd k2 (g1 k k1)
 rcases g.2 hk with ⟨m,m1,m2,rfl⟩|⟨g1,rfl⟩
 ·
  exact absurd m2 (h1 m m1)
 rfl
theorem jho {A B C:List (ByteArray×Int)} (h:okR A B C=true):((plTo A B C (A++B++C).length).map (·.n)).Nodup:=by
 have e:(plTo A B C (A++B++C).length).map (·.n)=(List.range (A++B++C).length).map (λi=>(dAt (A++B++C) i).1):=by
  simp only[plTo,List.map_map];rfl
 rw[e,List.nodup_iff_pairwise_ne,List.pairwise_map]
 refine List.Pairwise.imp_of_mem ?_ (List.nodup_iff_pairwise_ne.1 List.nodup_range)
 intro a b ha hb hne he
 exact hne (jbm h (List.mem_range.1 ha) (List.mem_range.1 hb) he)
end
section
open Go.RowKit Go.Maps Go.WideMaps
theorem jf4 {L:List (ByteArray×Int)} {s:ByteArray} (h:∀k,k<L.length->¬(dAt L k).1=s):dkL L s=0:=by
 unfold dkL
 have:L.find? (λd=>decide (d.1=s))=none:=by
  rw[List.find?_eq_none]
  intro x hx
  obtain⟨k,hk,rfl⟩:=List.getElem_of_mem hx
  have:=h k hk
  simp only[dAt,List.getElem?_eq_getElem hk,Option.getD_some] at this
  simpa using this
 rw[this];rfl
theorem jmu {L:List (ByteArray×Int)} {s:ByteArray} {k:Nat} (hk:k<L.length) (he:(dAt L k).1=s) (hu:∀j,j<L.length->(dAt L j).1=s->j=k):dkL L s=(dAt L k).2:=by
 unfold dkL
 cases hf:L.find? (λd=>decide (d.1=s)) with
 | none =>
  rw[List.find?_eq_none] at hf
  have:=hf _ (jae hk)
  simp[he] at this
 | some x =>
  have h1:=List.mem_of_find?_eq_some hf
  have h2:=List.find?_some hf
  obtain⟨j,hj,rfl⟩:=List.getElem_of_mem h1
  have e:dAt L j=L[j]:=by simp[dAt,hj]
  have:j=k:=hu j hj (by rw[e];simpa using h2)
  subst this
  rw[e];rfl
theorem jj1 {A B C:List (ByteArray×Int)} (h:okR A B C=true) {s:ByteArray} {q:Pl} (hq:.held q.val=(j35 (plTo A B C (A++B++C).length) (.map [])).atKey (wkey s) (.held Pl.zero.val)) :
  ((plTo A B C (A++B++C).length).any (λp=>decide (p.n=s))=false->∀sort,dkL (j18 A B C sort) s=0)/\
  ((plTo A B C (A++B++C).length).any (λp=>decide (p.n=s))=true->(¬q.k=0)/\∀sort,dkL (j18 A B C sort) s=if q.s=sort then q.k else 0):=by
 constructor
 ·
  intro hn sort
  refine jf4 λk hk e=>?_
  obtain⟨t,t1,t2,rfl⟩:=j8v hk
  have:(plTo A B C (A++B++C).length).any (λp=>decide (p.n=s))=true:=(j5l A B C _ _).2 ⟨_,j64 A B C t1 t2 hk,by rw[j44 A B C t1 t2 hk];exact e⟩
  rw[hn] at this
  cases this
 intro hy
 obtain⟨j,hj,ej⟩:=(j5l A B C _ _).1 hy
 have hm:plAt A B C j∈plTo A B C (A++B++C).length:=by
  simp only[plTo,List.mem_map,List.mem_range]
  exact⟨j,hj,rfl⟩
 have hs:s=(plAt A B C j).n:=ej.symm
 rw[hs,jbg _ _ _ _ isMap_empty hm (jho h)] at hq
 injection hq with hv
 simp only[Pl.val,Value.agg.injEq] at hv
 have hv':=congrArg Array.toList hv
 simp at hv'
 obtain⟨_,v2,v3,_⟩:=hv'
 obtain⟨t,k,t1,t2,hk,rfl⟩:=jhn hj
 rw[j6d A B C t1 t2 hk] at v2 v3
 simp only at v2 v3
 rw[v2,v3]
 have hg:=(jbe h).2 _ hj
 rw[j3n,j44 A B C t1 t2 hk] at hg
 refine⟨by omega,λsort=>?_⟩
 by_cases e:(t:Int)=sort
 ·
  subst e
  rw[if_pos rfl]
  refine jmu hk (by rw[<-j44 A B C t1 t2 hk];exact ej) λm hm e2=>?_
  have h3:=jbm h (j64 A B C t1 t2 hm) (j64 A B C t1 t2 hk) (by rw[j44 A B C t1 t2 hm,e2];exact ej.symm)
  omega
 rw[if_neg e]
 refine jf4 λm hm e2=>e ?_
 obtain⟨u,u1,u2,rfl⟩:=j8v hm
 have h3:=jbm h (j64 A B C u1 u2 hm) (j64 A B C t1 t2 hk) (by rw[j44 A B C u1 u2 hm,e2];exact ej.symm)
 have p1:=j6d A B C u1 u2 hm
 rw[h3,j6d A B C t1 t2 hk] at p1
 injection p1
def j46 (w:World) (B:Nat) (cs:List Value) (n:Nd):Prop:=∃s c,cs=[.int .i64 n.kind,.string n.text,.int .i64 n.num,.slice s n.kids.length c]/\Els 1 cInt w B s n.kids/\n.kids.length<=c
theorem j1r:j4h j46:=λ_ _ _ _ _ hk ⟨s,c,e,h,hc⟩=>⟨s,c,e,h.kept j07 hk,hc⟩
theorem j4b:j5c j46:=λ_ _ _ _ _ hB ⟨s,c,e,h,hc⟩=>⟨s,c,e,h.drop j0t hB,hc⟩
theorem j91 {w:World} {B:Nat} {s:Option Addr} {L:List Nd} (h:Els 4 j46 w B s L) {j:Nat} {n:Nd} (ha:L[j]?=some n) :
  ∃b o,s=some ⟨b,o,none⟩/\B<=b/\b<w.heap.size/\∃s' c',w.cell? ⟨b,o+j*4,none⟩=some (.int .i64 n.kind)/\w.cell? ⟨b,o+j*4+1,none⟩=some (.string n.text)/\w.cell? ⟨b,o+j*4+2,none⟩=some (.int .i64 n.num)/\w.cell? ⟨b,o+j*4+3,none⟩=some (.slice s' n.kids.length c')/\Els 1 cInt w B s' n.kids/\n.kids.length<=c':=by
 rcases h with rfl|⟨b,o,rfl,h1,h2,h3,hz⟩
 ·
  simp at ha
 obtain⟨cs,e1,e2,s',c',rfl,e5,e6⟩:=h3 j n ha
 exact⟨b,o,rfl,h1,h2,s',c',e2 0 _ rfl,e2 1 _ rfl,e2 2 _ rfl,e2 3 _ rfl,e5,e6⟩
structure Pd where
 w0:World
 B0:Nat
 n1:Option Addr
 n2:Option Addr
 d1:Nat
 d2:Nat
 T:Tre
 A:List (ByteArray×Int)
 B:List (ByteArray×Int)
 C:List (ByteArray×Int)
 bd:Nat
 nd:Nat
 c:Nat
 kb:Nat
 bt:Nat
structure Pd.Ok (G:Pd):Prop where
 t:InT G.w0 G.B0 G.n1 G.n2 G.T
 cap:Els 4 j46 G.w0 G.B0 G.n1 G.T.nodes
 k:kTre G.T
 tr:treP G.T
 ok:okR G.A G.B G.C=true
 dm:G.w0.ownsMap Tryz.prog 9 j2p G.bd G.nd (j35 (plTo G.A G.B G.C (G.A++G.B++G.C).length) (.map []))
 c:G.w0.heap.size<=G.c
 kb:G.w0.heap.size<=G.kb
 bt:G.w0.heap.size<=G.bt
 n1:¬G.kb=G.c
 n2:¬G.bt=G.c
 n3:¬G.bt=G.kb
def Dp (G:Pd) (sort:Int) (s:ByteArray):Int:=dkL (j18 G.A G.B G.C sort) s
def topN (T:Tre) (ah:List Int):Nm:=λs=>ah.find? λt=>decide ((nd T t).text=s)
structure Pv (G:Pd) (w:World) (ah:List Int) (Kp:KM):Prop where
 bx:Blk w G.c #[.map (some G.bd),.slice G.n1 G.T.nodes.length G.d1,.slice (some ⟨G.kb,0,none⟩) G.T.nodes.length G.T.nodes.length,.map (some G.bt)] 93
 kl:G.kb<w.heap.size
 kc:∀j,j<G.T.nodes.length->w.cell? ⟨G.kb,j,none⟩=some (.int .i64 (Kp j))
 kf:∀j,w.frozen? ⟨G.kb,j,none⟩=false
 tp:∃n,n<=ah.length/\QM w G.bt n (topN G.T ah)
 bl:Below G.w0.heap.size G.w0 w
section
variable {G:Pd} {w w':World} {ah:List Int} {Kp:KM}
theorem Pv.later (h:Pv G w ah Kp) (hb:Below w.heap.size w w'):Pv G w' ah Kp:=by
 obtain⟨n,h1,h2⟩:=h.tp
 exact⟨h.bx.later hb,Nat.lt_of_lt_of_le h.kl hb.size,λj hj=>(hb.cell (p:=⟨G.kb,j,none⟩) h.kl).trans (h.kc j hj),λj=>(hb.frozen (p:=⟨G.kb,j,none⟩) h.kl).trans (h.kf j),⟨n,h1,h2.later hb⟩,j01 h.bl hb⟩
theorem Pd.node (hG:G.Ok) {i:Nat} {n:Nd} (hn:G.T.nodes[i]?=some n):∃(nb no:Nat) (s9:Option Addr) (c9:Nat),G.n1=some ⟨nb,no,none⟩/\nb<G.w0.heap.size/\G.w0.cell? ⟨nb,no+i*4,none⟩=some (.int .i64 n.kind)/\G.w0.cell? ⟨nb,no+i*4+1,none⟩=some (.string n.text)/\G.w0.cell? ⟨nb,no+i*4+2,none⟩=some (.int .i64 n.num)/\G.w0.cell? ⟨nb,no+i*4+3,none⟩=some (.slice s9 n.kids.length c9)/\Els 1 cInt G.w0 G.B0 s9 n.kids/\n.kids.length<=c9:=by
 obtain⟨nb,no,hn1,_,hnb,s9,c9,e0,e1,e2,e3,e4⟩:=j91 hG.cap hn
 exact⟨nb,no,s9,c9,hn1,hnb,e0,e1,e2,e3,e4⟩
def decR (k:Int):Int×Int:=if k=0 then (0,3) else (k,0)
theorem j2b (hG:G.Ok) (h:Pv G w ah Kp) (sort:Int) (s:ByteArray) (hs:s.size<=maxLen) :
  Calls Tryz.prog 131 #[.pointer (some ⟨G.c,0,none⟩),.int .i64 sort,.string s] w λe w'=>e=.returned (.tuple #[.int .i64 (decR (Dp G sort s)).1,.int .i64 (decR (Dp G sort s)).2])/\Below w.heap.size w w':=by
 have x0:w.cell? ⟨G.c,0,none⟩=some (.map (some G.bd)):=(h.bx.cell 0).trans rfl
 have hdm:=hG.dm.kept (j19 h.bl) (by simp)
 obtain⟨q,hlk,hq⟩:=jbp hdm s hs
 have hd:=jj1 hG.ok hq
 obtain⟨an,han⟩:∃b,(plTo G.A G.B G.C (G.A++G.B++G.C).length).any (λp=>decide (p.n=s))=b:=⟨_,rfl⟩
 rw[han] at hlk hd
 clear h hdm hq han;cases an
 ·
  have hR:Hid (Dp G sort s=0):=hd.1 rfl sort
  clear hd;go_enter Tryz.func131,Tryz.ntmps131
  go_wp2_with fail;refine bq (.tuple #[.int .i64 0,.int .i64 3]) ?_
  rw[hR.out]
  exact⟨rfl,j00 (Below.refl _ _) _⟩
 obtain⟨h0,hk⟩:=hd.2 rfl
 by_cases hqs:q.s=sort
 ·
  have t0:(q.s != sort)=false:=by simp[hqs]
  have hR:Hid (Dp G sort s=q.k):=by show _=_;unfold Dp;rw[hk sort,if_pos hqs]
  clear hd hk hqs;go_enter Tryz.func131,Tryz.ntmps131
  go_wp2_with fail;refine bq (.tuple #[.int .i64 q.k,.int .i64 0]) ?_
  rw[hR.out]
  exact⟨by simp[decR,h0],j00 (Below.refl _ _) _⟩
 have t0:(q.s != sort)=true:=by simp[hqs]
 have hR:Hid (Dp G sort s=0):=by show _=_;unfold Dp;rw[hk sort,if_neg hqs]
 clear hd hk hqs;go_enter Tryz.func131,Tryz.ntmps131
 go_wp2_with fail;refine bq (.tuple #[.int .i64 0,.int .i64 3]) ?_
 rw[hR.out]
 exact⟨rfl,j00 (Below.refl _ _) _⟩
end
end
section
open Go.RowKit Go.Maps Go.WideMaps
def jfd (r:Option Int) (y:Option Int) (Kp:KM) (nx:Nat):Prop:=match r with
 | none=>y=none
 | some k=>∃j:Nat,y=some (j:Int)/\j<nx/\Kp j=k
def AskM (G:Pd) (w:World) (md:Md) (av:Value):Prop:=(md.each=false/\av=.map none/\md.wth=[])\/(md.each=true/\∃(ba na:Nat) (fa:Nm),av=.map (some ba)/\QM w ba na fa/\¬ba=G.kb/\∀s,(fa s).getD 0=29 ↔ inL s md.wth=true)
structure Px (G:Pd) (w:World) (km ko:Nat) (gg:Nm) (bs:List Nat) (md:Md) (av:Value) (env:Env) (Kp:KM) (nx:Nat):Prop where
 sc:Sc w (j09 km ko) gg bs
 ap:∀b∈bs,¬b=G.kb
 er:∀s,jfd (look env s) (gg s) Kp nx
 am:AskM G w md av
section
variable {G:Pd} {w w':World} {ah:List Int} {Kp Kp':KM} {km ko:Nat} {gg:Nm} {bs:List Nat} {md:Md} {av:Value} {env:Env} {nx:Nat} {lst hr:Bool} {tk:Int}
theorem AskM.same (h:AskM G w md av) (hs:∀b,b<w.heap.size->¬b=G.kb->w'.heap[b]?=w.heap[b]?):AskM G w' md av:=by
 rcases h with h|⟨h1,ba,na,fa,h2,h3,h4,h5⟩
 ·
  exact Or.inl h
 exact Or.inr ⟨h1,ba,na,fa,h2,h3.same (hs ba h3.lt h4),h4,h5⟩
theorem Px.tw (h:Px G w km ko gg bs md av env Kp nx) (ht:Tw G.kb G.kb w w') (hk:∀j,j<nx->Kp' j=Kp j):Px G w' km ko gg bs md av env Kp' nx:=by
 have hs:∀b,b<w.heap.size->¬b=G.kb->w'.heap[b]?=w.heap[b]?:=λb h1 h2=>ht.block b h1 h2 h2
 refine⟨h.sc.same λb hb=>hs b (h.sc.lt b hb) (h.ap b hb),h.ap,λs=>?_,h.am.same hs⟩
 have:=h.er s
 unfold jfd at this ⊢
 cases hl:look env s with
 | none=>rw[hl] at this;exact this
 | some k =>
  rw[hl] at this
  obtain⟨j,h1,h2,h3⟩:=this
  exact⟨j,h1,h2,by rw[hk j h2];exact h3⟩
theorem Px.later (h:Px G w km ko gg bs md av env Kp nx) (hb:Below w.heap.size w w'):Px G w' km ko gg bs md av env Kp nx:=h.tw (Tw.of hb) λ_ _=>rfl
theorem Px.mono {nx':Nat} (h:Px G w km ko gg bs md av env Kp nx) (hn:nx<=nx'):Px G w km ko gg bs md av env Kp nx':=by
 refine⟨h.sc,h.ap,λs=>?_,h.am⟩
 have:=h.er s
 unfold jfd at this ⊢
 cases hl:look env s with
 | none=>rw[hl] at this;exact this
 | some k =>
  rw[hl] at this
  obtain⟨j,h1,h2,h3⟩:=this
  exact⟨j,h1,Nat.lt_of_lt_of_le h2 hn,h3⟩
theorem jh0 (s:ByteArray) (w:World) (hs:s.size<=maxLen):(Instr.lookup 91 (.map none) (.string s) false).run Tryz.prog w=.ok (.int .i64 0) w:=by
 simp[Instr.lookup,run_underlying Tryz.underlying91,j7a.check w true (keyOf_string_mk Tryz.underlying9 hs),MapKept.run_findKey (P:=Tryz.prog) (w:=w) (kt:=9) (k:=.string s) (l:=[]) (a:=none) Tryz.underlying9 rfl,jf9,Result.andThen]
theorem AskM.run (h:AskM G w md av) (s:ByteArray) (hs:s.size<=maxLen):∃v:Int,(Instr.lookup 91 av (.string s) false).run Tryz.prog w=.ok (.int .i64 v) w/\(v=29 ↔ inL s md.wth=true):=by
 rcases h with ⟨h1,rfl,h2⟩|⟨h1,ba,na,fa,rfl,h3,h4,h5⟩
 ·
  exact⟨0,jh0 s w hs,by rw[h2];simp[inL]⟩
 exact⟨_,h3.look1 s hs,h5 s⟩
def prE (r:Except Int Int):Int×Int:=match r with | .ok k=>(k,0) | .error c=>(0,c)
theorem j9k (hG:G.Ok) (h:Pv G w ah Kp) (hp:Px G w km ko gg bs md av env Kp nx) (s:ByteArray) (hs:s.size<=maxLen) :
  Calls Tryz.prog 130 #[.pointer (some ⟨G.c,0,none⟩),.string s,.agg #[addF km,j09 km ko,.int .i64 tk,.bool lst,.bool hr,av]] w λe w'=>e=.returned (.tuple #[.int .i64 (prE (j2c (Dp G) md s)).1,.int .i64 (prE (j2c (Dp G) md s)).2])/\Below w.heap.size w w':=by
 have b1:Below w.heap.size w (w.alloc (.cells #[addF km,j09 km ko,.int .i64 tk,.bool lst,.bool hr,av] 139)):=j00 (Below.refl _ _) _
 have kk:=Blk.new w #[addF km,j09 km ko,.int .i64 tk,.bool lst,.bool hr,av] 139
 have KK:=Hid.mk' kk
 have H1:=Hid.mk' (h.later b1)
 have P1:=Hid.mk' (hp.later b1)
 have B1:=Hid.mk' b1
 clear h hp b1;go_enter Tryz.func130,Tryz.ntmps130
 go_wp2_with fail;refine(j2b hG H1.out 1 s hs).mono ?_
 rintro e w2 ⟨rfl,hb2⟩
 have B2:Hid (Below w.heap.size w w2):=B1.out.trans (hb2.mono B1.out.size)
 have z5:w2.cell? ⟨w.heap.size,5,none⟩=some av:=((KK.out.later hb2).cell 5).trans rfl
 obtain⟨v,hrun,hv⟩:=(P1.out.later hb2).am.run s hs
 obtain⟨dk,hdk⟩:∃k,Hid (Dp G 1 s=k):=⟨_,rfl⟩
 rw[hdk.out]
 have hC:Hid (j2c (Dp G) md s=if dk=0 then .error 3 else if inL s md.wth=true then .ok dk else .error 5):=by show _=_;unfold j2c;rw[hdk.out]
 clear hb2 kk KK H1 P1 B1;by_cases h0:dk=0
 ·
  subst h0
  have hR:Hid (prE (j2c (Dp G) md s)=(0,3)):=by rw[hC.out];rfl
  have e1:decR 0=(0,3):=rfl
  rw[e1]
  clear hv;go_wp2_with fail;refine bq (.tuple #[.int .i64 0,.int .i64 3]) ?_
  rw[hR.out]
  exact⟨rfl,B2.out⟩
 have e1:decR dk=(dk,0):=by simp[decR,h0]
 rw[e1]
 cases hi:inL s md.wth
 ·
  have hR:Hid (prE (j2c (Dp G) md s)=(0,5)):=by rw[hC.out,if_neg h0,hi];rfl
  have tv:(v != 29)=true:=by rw[hi] at hv;simp at hv;simp[hv]
  clear hv hi;go_wp2_with fail;refine bq (.tuple #[.int .i64 0,.int .i64 5]) ?_
  rw[hR.out]
  exact⟨rfl,B2.out⟩
 have hR:Hid (prE (j2c (Dp G) md s)=(dk,0)):=by rw[hC.out,if_neg h0,hi];rfl
 have tv:(v != 29)=false:=by rw[hi] at hv;simp at hv;simp[hv]
 clear hv hi;go_wp2_with fail;refine bq (.tuple #[.int .i64 dk,.int .i64 0]) ?_
 rw[hR.out]
 exact⟨rfl,B2.out⟩
end
end
section
open Go.RowKit Go.Maps Go.WideMaps
section
variable {G:Pd} {w w':World} {ah:List Int} {Kp Kp':KM} {km ko:Nat} {gg:Nm} {bs:List Nat} {md:Md} {av:Value} {env:Env} {nx:Nat} {lst hr:Bool} {tk:Int}
def j0v (D:Int->ByteArray->Int) (md:Md) (env:Env) (n:Nd):Except Int Int :=
 if n.kind=4\/n.kind=13 then (match look env n.text with|none=> .error 3|some k=> .ok k)
 else if n.kind=5\/n.kind=14 then j2c D md n.text
 else if n.kind=6\/n.kind=15 then (if D 2 n.text=0 then .error 3 else .ok (D 2 n.text))
 else if n.kind=19 then (if D 3 n.text=0 then .error 3 else .ok (D 3 n.text))
 else (if D 1 n.text=0 then .error 3 else .ok (D 1 n.text))
theorem jaq (k:Int):prE (if k=0 then .error 3 else .ok k)=decR k:=by
 unfold prE decR
 by_cases h:k=0<;>simp[h]
theorem j49 (hG:G.Ok) (h:Pv G w ah Kp) (hp:Px G w km ko gg bs md av env Kp nx) (hnx:nx<=G.T.nodes.length) (n:Nd) (s9:Option Addr) (c9:Nat) (hs:n.text.size<=maxLen) :
  Calls Tryz.prog 146 #[.pointer (some ⟨G.c,0,none⟩),.agg #[.int .i64 n.kind,.string n.text,.int .i64 n.num,.slice s9 n.kids.length c9],.agg #[addF km,j09 km ko,.int .i64 tk,.bool lst,.bool hr,av]] w λe w'=>e=.returned (.tuple #[.int .i64 (prE (j0v (Dp G) md env n)).1,.int .i64 (prE (j0v (Dp G) md env n)).2])/\Below w.heap.size w w':=by
 obtain⟨kd,hkd⟩:∃k,Hid (n.kind=k):=⟨_,rfl⟩
 rw[hkd.out]
 have b1:Below w.heap.size w ((w.alloc (.cells #[.int .i64 kd,.string n.text,.int .i64 n.num,.slice s9 n.kids.length c9] 73)).alloc (.cells #[addF km,j09 km ko,.int .i64 tk,.bool lst,.bool hr,av] 139)):=j00 (j00 (Below.refl _ _) _) _
 have kn:=Blk.alloc (Blk.new w #[.int .i64 kd,.string n.text,.int .i64 n.num,.slice s9 n.kids.length c9] 73) (.cells #[addF km,j09 km ko,.int .i64 tk,.bool lst,.bool hr,av] 139)
 have kp:=Blk.new' (n:=w.heap.size+1) (w.alloc (.cells #[.int .i64 kd,.string n.text,.int .i64 n.num,.slice s9 n.kids.length c9] 73)) #[addF km,j09 km ko,.int .i64 tk,.bool lst,.bool hr,av] 139 (by simp)
 have H1:=Hid.mk' (h.later b1)
 have P1:=Hid.mk' (hp.later b1)
 have B1:=Hid.mk' b1
 have hN:Hid (j0v (Dp G) md env n=if kd=4\/kd=13 then (match look env n.text with|none=> .error 3|some k=> .ok k) else if kd=5\/kd=14 then j2c (Dp G) md n.text else if kd=6\/kd=15 then (if Dp G 2 n.text=0 then .error 3 else .ok (Dp G 2 n.text)) else if kd=19 then (if Dp G 3 n.text=0 then .error 3 else .ok (Dp G 3 n.text)) else (if Dp G 1 n.text=0 then .error 3 else .ok (Dp G 1 n.text))):=by show _=_;unfold j0v;rw[hkd.out]
 obtain⟨z0,z1,z2,z3,z4⟩:=Blk.four' kn
 have p0:_=some (addF km):=(kp.cell 0).trans rfl
 have p1:_=some (j09 km ko):=(kp.cell 1).trans rfl
 have p2:_=some (Value.int .i64 tk):=(kp.cell 2).trans rfl
 have p3:_=some (Value.bool lst):=(kp.cell 3).trans rfl
 have p4:_=some (Value.bool hr):=(kp.cell 4).trans rfl
 have p5:_=some av:=(kp.cell 5).trans rfl
 clear h hp b1 kn kp;have hn4:G.T.nodes.length<=4000:=hG.tr.1
 by_cases h4:kd=4\/kd=13
 ·
  have hN2:Hid (j0v (Dp G) md env n=match look env n.text with|none=> .error 3|some k=> .ok k):=by rw[hN.out,if_pos h4];rfl
  have hseen:=je5 P1.out.sc n.text hs km ko rfl
  have her:=P1.out.er n.text
  have x2:((w.alloc (.cells #[.int .i64 kd,.string n.text,.int .i64 n.num,.slice s9 n.kids.length c9] 73)).alloc (.cells #[addF km,j09 km ko,.int .i64 tk,.bool lst,.bool hr,av] 139)).cell? ⟨G.c,2,none⟩=some (.slice (some ⟨G.kb,0,none⟩) G.T.nodes.length G.T.nodes.length):=(H1.out.bx.cell 2).trans rfl
  have h4b:(kd ==4)=true\/((kd ==4)=false/\(kd ==13)=true):=by
   rcases h4 with h|h
   ·
    left;simp[h]
   right;subst h;exact⟨rfl,rfl⟩
  cases hl:look env n.text with
  | none =>
   rw[hl] at her
   have her:gg n.text=none:=her
   rw[her] at hseen
   have hR:Hid (prE (j0v (Dp G) md env n)=(0,3)):=by rw[hN2.out,hl];rfl
   clear h4 hl her hN hN2 hkd;rcases h4b with t4|⟨t4,t13⟩
   all_goals
    go_enter Tryz.func146,Tryz.ntmps146
    go_wp2_with fail;refine hseen.mono ?_
    rintro e w2 ⟨rfl,hq⟩
    rw[hq]
    go_wp2_with fail;refine bq (.tuple #[.int .i64 0,.int .i64 3]) ?_
    rw[hR.out]
    exact⟨rfl,B1.out⟩
  | some k =>
   rw[hl] at her
   obtain⟨j,ej,hj,hjk⟩:=her
   rw[ej] at hseen
   have hR:Hid (prE (j0v (Dp G) md env n)=(k,0)):=by rw[hN2.out,hl];rfl
   have y:((w.alloc (.cells #[.int .i64 kd,.string n.text,.int .i64 n.num,.slice s9 n.kids.length c9] 73)).alloc (.cells #[addF km,j09 km ko,.int .i64 tk,.bool lst,.bool hr,av] 139)).cell? ⟨G.kb,j,none⟩=some (.int .i64 k):=by rw[<-hjk];exact H1.out.kc j (by omega)
   have jI:(j:Int)<(G.T.nodes.length:Int):=by omega
   clear h4 hl ej hN hN2 hkd hjk;rcases h4b with t4|⟨t4,t13⟩
   all_goals
    go_enter Tryz.func146,Tryz.ntmps146
    go_wp2_with fail;refine hseen.mono ?_
    rintro e w2 ⟨rfl,hq⟩
    rw[hq]
    go_wp2_with fail;refine bq (.tuple #[.int .i64 k,.int .i64 0]) ?_
    rw[hR.out]
    exact⟨rfl,B1.out⟩
 by_cases h5:kd=5\/kd=14
 ·
  have hR:Hid (prE (j0v (Dp G) md env n)=prE (j2c (Dp G) md n.text)):=by rw[hN.out,if_neg h4,if_pos h5];rfl
  have t4:(kd ==4)=false:=by simp;omega
  have t13:(kd ==13)=false:=by simp;omega
  have h5b:(kd ==5)=true\/((kd ==5)=false/\(kd ==14)=true):=by
   rcases h5 with h|h
   ·
    left;simp[h]
   right;subst h;exact⟨rfl,rfl⟩
  clear h4 h5 hN hkd;rcases h5b with t5|⟨t5,t14⟩
  all_goals
   go_enter Tryz.func146,Tryz.ntmps146
   go_wp2_with fail;refine(j9k hG H1.out P1.out n.text hs).mono ?_
   rintro e w2 ⟨rfl,hb2⟩
   go_wp2_with fail;refine bq (.tuple #[.int .i64 (prE (j2c (Dp G) md n.text)).1,.int .i64 (prE (j2c (Dp G) md n.text)).2]) ?_
   rw[hR.out]
   exact⟨rfl,B1.out.trans (hb2.mono B1.out.size)⟩
 by_cases h6:kd=6\/kd=15
 ·
  have hR:Hid (prE (j0v (Dp G) md env n)=decR (Dp G 2 n.text)):=by rw[hN.out,if_neg h4,if_neg h5,if_pos h6,jaq];rfl
  have t4:(kd ==4)=false:=by simp;omega
  have t13:(kd ==13)=false:=by simp;omega
  have t5:(kd ==5)=false:=by simp;omega
  have t14:(kd ==14)=false:=by simp;omega
  have h6b:(kd ==6)=true\/((kd ==6)=false/\(kd ==15)=true):=by
   rcases h6 with h|h
   ·
    left;simp[h]
   right;subst h;exact⟨rfl,rfl⟩
  clear h4 h5 h6 hN hkd;rcases h6b with t6|⟨t6,t15⟩
  all_goals
   go_enter Tryz.func146,Tryz.ntmps146
   go_wp2_with fail;refine(j2b hG H1.out 2 n.text hs).mono ?_
   rintro e w2 ⟨rfl,hb2⟩
   go_wp2_with fail;refine bq (.tuple #[.int .i64 (decR (Dp G 2 n.text)).1,.int .i64 (decR (Dp G 2 n.text)).2]) ?_
   rw[hR.out]
   exact⟨rfl,B1.out.trans (hb2.mono B1.out.size)⟩
 by_cases h7:kd=19
 ·
  have hR:Hid (prE (j0v (Dp G) md env n)=decR (Dp G 3 n.text)):=by rw[hN.out,if_neg h4,if_neg h5,if_neg h6,if_pos h7,jaq];rfl
  have t4:(kd ==4)=false:=by simp;omega
  have t13:(kd ==13)=false:=by simp;omega
  have t5:(kd ==5)=false:=by simp;omega
  have t14:(kd ==14)=false:=by simp;omega
  have t6:(kd ==6)=false:=by simp;omega
  have t15:(kd ==15)=false:=by simp;omega
  have t19:(kd ==19)=true:=by simp[h7]
  clear h4 h5 h6 h7 hN hkd
  all_goals
   go_enter Tryz.func146,Tryz.ntmps146
   go_wp2_with fail;refine(j2b hG H1.out 3 n.text hs).mono ?_
   rintro e w2 ⟨rfl,hb2⟩
   go_wp2_with fail;refine bq (.tuple #[.int .i64 (decR (Dp G 3 n.text)).1,.int .i64 (decR (Dp G 3 n.text)).2]) ?_
   rw[hR.out]
   exact⟨rfl,B1.out.trans (hb2.mono B1.out.size)⟩
 have hR:Hid (prE (j0v (Dp G) md env n)=decR (Dp G 1 n.text)):=by rw[hN.out,if_neg h4,if_neg h5,if_neg h6,if_neg h7,jaq];rfl
 have t4:(kd ==4)=false:=by simp;omega
 have t13:(kd ==13)=false:=by simp;omega
 have t5:(kd ==5)=false:=by simp;omega
 have t14:(kd ==14)=false:=by simp;omega
 have t6:(kd ==6)=false:=by simp;omega
 have t15:(kd ==15)=false:=by simp;omega
 have t19:(kd ==19)=false:=by simp[h7]
 clear h4 h5 h6 h7 hN hkd
 all_goals
  go_enter Tryz.func146,Tryz.ntmps146
  go_wp2_with fail;refine(j2b hG H1.out 1 n.text hs).mono ?_
  rintro e w2 ⟨rfl,hb2⟩
  go_wp2_with fail;refine bq (.tuple #[.int .i64 (decR (Dp G 1 n.text)).1,.int .i64 (decR (Dp G 1 n.text)).2]) ?_
  rw[hR.out]
  exact⟨rfl,B1.out.trans (hb2.mono B1.out.size)⟩
end
end
section
open Go.RowKit Go.Maps Go.WideMaps
section
variable {G:Pd} {w w':World} {ah:List Int} {Kp Kp':KM} {km ko:Nat} {gg:Nm} {bs:List Nat} {md:Md} {av:Value} {env:Env} {nx:Nat} {lst hr:Bool} {tk:Int}
theorem j6s {D:Int->ByteArray->Int} {md:Md} {s:ByteArray} {c:Int} (h:j2c D md s=.error c):c=3\/c=5:=by
 unfold j2c at h
 split at h
 ·
  injection h with h;exact Or.inl h.symm
 split at h
 ·
  cases h
 injection h with h;exact Or.inr h.symm
theorem jez {D:Int->ByteArray->Int} {md:Md} {env:Env} {n:Nd} {c:Int} (h:j0v D md env n=.error c):c=3\/c=5:=by
 have aux:∀k:Int,(if k=0 then (.error 3:Except Int Int) else .ok k)=.error c->c=3\/c=5:=by
  intro k hk
  split at hk
  ·
   injection hk with hk;exact Or.inl hk.symm
  cases hk
 unfold j0v at h
 split at h
 ·
  split at h
  ·
   injection h with h;exact Or.inl h.symm
  cases h
 split at h
 ·
  exact j6s h
 split at h
 ·
  exact aux _ h
 split at h
 ·
  exact aux _ h
 exact aux _ h
def j0n (r:Except Int Int) (ka:Int):Int:=match r with | .error c=>c | .ok k=>if ka=k then 0 else 4
theorem j3t (hG:G.Ok) (h:Pv G w ah Kp) (hp:Px G w km ko gg bs md av env Kp nx) (hnx:nx<=G.T.nodes.length) (n:Nd) (c9:Nat) {fb fo a:Nat} (hfb:fb<G.w0.heap.size) (pp:G.w0.cell? ⟨fb,fo,none⟩=some (.int .i64 (a:Int))) (ha:a<G.T.nodes.length) (hkl:0<n.kids.length) (hs:n.text.size<=maxLen) :
  Calls Tryz.prog 149 #[.pointer (some ⟨G.c,0,none⟩),.agg #[.int .i64 n.kind,.string n.text,.int .i64 n.num,.slice (some ⟨fb,fo,none⟩) n.kids.length c9],.agg #[addF km,j09 km ko,.int .i64 tk,.bool lst,.bool hr,av]] w λe w'=>e=.returned (.int .i64 (j0n (j0v (Dp G) md env n) (Kp a)))/\Below w.heap.size w w':=by
 have b1:Below w.heap.size w ((w.alloc (.cells #[.int .i64 n.kind,.string n.text,.int .i64 n.num,.slice (some ⟨fb,fo,none⟩) n.kids.length c9] 73)).alloc (.cells #[addF km,j09 km ko,.int .i64 tk,.bool lst,.bool hr,av] 139)):=j00 (j00 (Below.refl _ _) _) _
 have kn:=Blk.alloc (Blk.new w #[.int .i64 n.kind,.string n.text,.int .i64 n.num,.slice (some ⟨fb,fo,none⟩) n.kids.length c9] 73) (.cells #[addF km,j09 km ko,.int .i64 tk,.bool lst,.bool hr,av] 139)
 have kp:=Blk.new' (n:=w.heap.size+1) (w.alloc (.cells #[.int .i64 n.kind,.string n.text,.int .i64 n.num,.slice (some ⟨fb,fo,none⟩) n.kids.length c9] 73)) #[addF km,j09 km ko,.int .i64 tk,.bool lst,.bool hr,av] 139 (by simp)
 have KN:=Hid.mk' kn
 have H1:=Hid.mk' (h.later b1)
 have P1:=Hid.mk' (hp.later b1)
 have B1:=Hid.mk' b1
 obtain⟨z0,z1,z2,z3,z4⟩:=Blk.four' kn
 have p0:_=some (addF km):=(kp.cell 0).trans rfl
 have p1:_=some (j09 km ko):=(kp.cell 1).trans rfl
 have p2:_=some (Value.int .i64 tk):=(kp.cell 2).trans rfl
 have p3:_=some (Value.bool lst):=(kp.cell 3).trans rfl
 have p4:_=some (Value.bool hr):=(kp.cell 4).trans rfl
 have p5:_=some av:=(kp.cell 5).trans rfl
 have aI:(a:Int)<(G.T.nodes.length:Int):=by omega
 have l0I:(0:Int)<(n.kids.length:Int):=by omega
 clear h hp b1 kn kp;go_enter Tryz.func149,Tryz.ntmps149
 go_wp2_with fail;refine(j49 hG H1.out P1.out hnx n _ c9 hs).mono ?_
 rintro e w2 ⟨rfl,hb2⟩
 have B2:Hid (Below w.heap.size w w2):=B1.out.trans (hb2.mono B1.out.size)
 obtain⟨r,hnr⟩:∃r,Hid (j0v (Dp G) md env n=r):=⟨_,rfl⟩
 rw[hnr.out]
 cases r with
 | error c =>
  have e1:prE (.error c)=(0,c):=rfl
  rw[e1]
  have tc:(c ==0)=false:=by have:=jez hnr.out;simp;omega
  have hR:Hid (j0n (j0v (Dp G) md env n) (Kp a)=c):=by rw[hnr.out];rfl
  clear z0 z1 z2 z3 z4 p0 p1 p2 p3 p4 p5 H1 P1 B1 hb2 KN;go_wp2_with fail;go_quiet (fail)
  go_wp2_with fail;go_ret;rw[hR.out]
  exact⟨rfl,j06 B2.out _⟩
 | ok k =>
  have e1:prE (.ok k)=(k,0):=rfl
  rw[e1]
  have H2:=Hid.mk' (H1.out.later hb2)
  have y2:w2.cell? ⟨G.c,2,none⟩=some (.slice (some ⟨G.kb,0,none⟩) G.T.nodes.length G.T.nodes.length):=(H2.out.bx.cell 2).trans rfl
  have yk:w2.cell? ⟨w.heap.size,3,none⟩=some (.slice (some ⟨fb,fo,none⟩) n.kids.length c9):=((KN.out.later hb2).cell 3).trans rfl
  have y4:w2.cell? ⟨fb,fo,none⟩=some (.int .i64 (a:Int)):=(H2.out.bl.cell (p:=⟨fb,fo,none⟩) hfb).trans pp
  obtain⟨ka,hka⟩:∃k,Hid (Kp a=k):=⟨_,rfl⟩
  have y5:w2.cell? ⟨G.kb,a,none⟩=some (.int .i64 ka):=by rw[<-hka.out];exact H2.out.kc a ha
  clear z0 z1 z2 z3 z4 p0 p1 p2 p3 p4 p5 H1 P1 B1 hb2 KN H2 pp;by_cases hk:ka=k
  ·
   have tc:(ka != k)=false:=by simp[hk]
   have hR:Hid (j0n (j0v (Dp G) md env n) (Kp a)=0):=by rw[hnr.out,hka.out];exact if_pos hk
   clear hk;go_wp2_with fail;go_quiet (fail)
   go_wp2_with fail;go_ret;rw[hR.out]
   exact⟨rfl,j06 B2.out _⟩
  have tc:(ka != k)=true:=by simp[hk]
  have hR:Hid (j0n (j0v (Dp G) md env n) (Kp a)=4):=by rw[hnr.out,hka.out];exact if_neg hk
  clear hk;go_wp2_with fail;go_quiet (fail)
  go_wp2_with fail;go_ret;rw[hR.out]
  exact⟨rfl,j06 B2.out _⟩
end
end
end Go.Proofs.YtjbbagcpcepkoaaGreatDoor
