import Derived.Test.YtjbbagcpcepkoaaGreatDoorSf13
namespace Go.Proofs.YtjbbagcpcepkoaaGreatDoor
set_option maxRecDepth 100000
set_option maxHeartbeats 64000000
set_option linter.unusedVariables false
set_option linter.unusedSimpArgs false
section
open Go.RowKit
section
variable {G:Gd} {w w':World} {top:Int} {env:Env} {md:Md} {last:Int} {K:KM} {sn sk sw:Option Addr} {cn ck cw:Nat}
theorem FitL.head {K:Nat->List Int} {ok:Nat->Prop} {x:Int} {ks:List Int} {a e:Nat} (h:FitL K ok (x :: ks) a e):∃k:Nat,x=k/\a<=k/\FitL K ok (K k) a k/\FitL K ok ks (k+1) e:=by
 cases h with
 | cons _ k _ _ h1 h2 h3 h4=>exact⟨k,rfl,h1,h3,h4⟩
def LdB (G:Gd) (top:Int) (md:Md) (last:Int) (g:Env->KM->Int->Bool->Ck (Env×KM)) (own:Bool) (b:Nat) (R:Ck KM) (ks:List Int) (w:World):Prop :=
 (∃env K a,Liv G w top env md last K/\FitL (j0e G.T) (okN G.T) ks a b/\env.length<=a/\R=ckSs g own ks env K)\/∃c nq,Dd G w c nq/\R=.error (c,nq)
theorem LdB.cell {g:Env->KM->Int->Bool->Ck (Env×KM)} {own:Bool} {b:Nat} {R:Ck KM} {ks:List Int} (h:LdB G top md last g own b R ks w) {o:Nat} (ho:o<16):(∃u,w.cell? ⟨G.p,o,none⟩=some u)/\w.frozen? ⟨G.p,o,none⟩=false:=by
 rcases h with ⟨env,K,a,⟨sn,cn,sk,ck,sw,cw,hl⟩,_⟩|⟨c,nq,hd,_⟩
 ·
  refine⟨⟨(lw G top sn env.length cn sk ck md.each (md.each || md.hears) sw md.wth.length cw md.fn last 0 (-1))[o]'(by simpa[lw] using ho),?_⟩,hl.bx.frozen o⟩
  rw[hl.bx.cell o]
  exact Array.getElem?_eq_getElem (by simpa[lw] using ho)
 exact Dd.cell ⟨c,nq,hd⟩ ho
theorem j2k (t:TypeId) (ht:Tryz.prog.underlying t=some (.slice (Tryz.prog.elem t))) (e1:∀W,(Go.sizeOf (Tryz.prog.elem t)).run Tryz.prog W=.ok 1 W) (s:Option Addr) (n c r:Nat) (hr:r<=n) (hc:n<=c) :
  ∀W,(Instr.slice t (.slice s n c) none (some (.int .i64 (r:Int))) none).run Tryz.prog W=.ok (.slice s r c) W:=by
 intro W
 rw[run_slice_h (P:=Tryz.prog) W t s n c ht .i64 (r:Int) (by omega) (by omega),e1 W]
 unfold sliced
 cases s<;>simp[Result.andThen,Addr.add]
theorem Tryz.htS:Tryz.prog.underlying 53=some (.slice (Tryz.prog.elem 53)):=by kernel_rfl
theorem Tryz.htI2:Tryz.prog.underlying 26=some (.slice (Tryz.prog.elem 26)):=by kernel_rfl
theorem jd5 (W:World):(Go.sizeOf (Tryz.prog.elem 53)).run Tryz.prog W=.ok 1 W:=by kernel_rfl
theorem j6w (W:World):(Go.sizeOf (Tryz.prog.elem 26)).run Tryz.prog W=.ok 1 W:=by kernel_rfl
theorem jf3 (hG:G.Ok) {g:Env->KM->Int->Bool->Ck (Env×KM)} {own:Bool} {b:Nat} {n:Nd} (hv:VN G.T b n) {nx:Nat} (hfit:FitL (j0e G.T) (okN G.T) n.kids nx b)
  (hS:∀(m i a:Nat) (env:Env) (K:KM) (w:World) (sn:Option Addr) (cn:Nat) (sk:Option Addr) (ck:Nat) (sw:Option Addr) (cw:Nat),n.kids[m]?=some (i:Int)->FitL (j0e G.T) (okN G.T) (j0e G.T i) a i->env.length<=a->Lv G w top env md last K sn cn sk ck sw cw->
   Calls Tryz.prog 75 #[.pointer (some ⟨G.p,0,none⟩),.int .i64 (i:Int)] w λe w'=>j3b G w top md last (g env K (i:Int) (own&&(n.kids.drop (m+1)).isEmpty)) e w')
  (hlen:∀env K i l env' K',g env K i l=.ok (env',K')->env'.length<=env.length+1)
  (s1 s2:Option Addr) (c1 c2:Nat) (more:Env) (hm1:Strs G.p G.kb w s1 (more.map (·.1))) (hm2:Nums G.p G.kb w s2 (more.map (·.2))) (henv:env.length+more.length<=nx) (h:Lv G w top env md last K sn cn sk ck sw cw) :
  Calls Tryz.prog 54 #[.pointer (some ⟨G.p,0,none⟩),.int .i64 (b:Int),.slice s1 more.length c1,.slice s2 more.length c2] w λe w'=>j2n G w top env md last (ckSs g own n.kids (env++more) K) e w':=by
 obtain⟨nb,no,s9,c9,en1,hnb,e0,e1,e2,e3,ekids⟩:=hG.node hv.at_
 have hbN:b<G.T.nodes.length:=(List.getElem?_eq_some_iff.1 hv.at_).1
 have hnl:G.T.nodes.length<=1048576:=hG.k.1.1
 have hfl:=hfit.le
 have hkl:n.kids.length<=1048576:=(hG.k.1.2 n (List.mem_of_getElem? hv.at_)).2
 have x13:w.cell? ⟨G.p,13,none⟩=some (.int .i64 0):=(h.bx.cell 13).trans rfl
 have x6:w.cell? ⟨G.p,6,none⟩=some (.slice sn env.length cn):=(h.bx.cell 6).trans rfl
 have hp2:G.p<w.heap.size:=h.bx.lt
 have hk2:G.kb<w.heap.size:=h.kl
 have H:Hid (Lv G w top env md last K sn cn sk ck sw cw):=h
 have HBX:Hid (Blk w G.p (lw G top sn env.length cn sk ck md.each (md.each || md.hears) sw md.wth.length cw md.fn last 0 (-1)) 55):=h.bx
 have HM1:=Hid.mk' hm1
 have HM2:=Hid.mk' hm2
 have HF:Hid (FitL (j0e G.T) (okN G.T) n.kids nx b):=hfit
 have HS:=Hid.mk' hS
 have HLN:=Hid.mk' hlen
 have HK:Hid (Els 1 cInt G.w0 G.B0 s9 n.kids):=ekids
 have HQ:Hid (G.n1=some ⟨nb,no,none⟩/\nb<G.w0.heap.size/\G.w0.cell? ⟨nb,no+b*4,none⟩=some (.int .i64 n.kind)/\G.w0.cell? ⟨nb,no+b*4+1,none⟩=some (.string n.text)/\G.w0.cell? ⟨nb,no+b*4+2,none⟩=some (.int .i64 n.num)/\G.w0.cell? ⟨nb,no+b*4+3,none⟩=some (.slice s9 n.kids.length c9)):=⟨en1,hnb,e0,e1,e2,e3⟩
 obtain⟨iS,hiS,hzS,hsS,hbS⟩:=info_parts Tryz.infoS
 obtain⟨iI',hiI,hzI,hsI,hbI⟩:=info_parts Tryz.infoI
 clear h hm1 hm2 hfit hS hlen ekids e0 e1 e2 e3 en1 hnb hv;go_enter Tryz.func54,Tryz.ntmps54
 go_wp2_with fail;clear x13 x6;have hR:=Hid.mk' (Rs.nil w)
 refine wp_region_held_drew (S:=(λw'=>Blk w' G.p (lw G top sn env.length cn sk ck md.each (md.each || md.hears) sw md.wth.length cw md.fn last 0 (-1)) 55)) (by kernel_rfl) ?_ (λhHeld=>?_)
 ·
  exact hR.out.blk HBX.out hp2
 have hR:=Hid.mk' hR.out.drew
 refine wpr 1 24 ?_;simp only[zs];refine wpr 2 25 ?_;simp only[zs];refine wpr 3 26 ?_;simp only[zs];refine wpq (v:=?_) 4 27 rfl rfl ?_ ?_
 rotate_left 1
 ·
  intro w hSw;(try dsimp only at hSw);have x6:_=some (Value.slice sn env.length cn):=(Blk.cell hSw 6).trans rfl;go_simp<;>with_reducible rfl
 simp only[zs];refine wpr 7 30 ?_;simp only[zs];refine wpr 8 31 ?_;simp only[zs];refine wpr 9 32 ?_;simp only[zs];refine wpq (v:=?_) 10 33 rfl rfl ?_ ?_
 rotate_left 1
 ·
  intro w hSw;(try dsimp only at hSw);have x7:_=some (Value.slice sk env.length ck):=(Blk.cell hSw 7).trans rfl;go_simp<;>with_reducible rfl
 simp only[zs];refine j76 λGd a0 hDg ha=>?_
 have st0:∀(ka:Nat) (sa:Option Addr) (ca kb:Nat) (sb:Option Addr) (cb:Nat) (g0:World),Hid (Rs w w.heap.size g0 [rS (.slice sa env.length ca) (env.map (·.1)),rI (.slice sb env.length cb) (env.map (·.2))])->(λw'=>Blk w' G.p (lw G top sn env.length cn sk ck md.each (md.each || md.hears) sw md.wth.length cw md.fn last 0 (-1)) 55) g0->Gd 0 #[true,true,true,true,true,true,true,true,true,true,true,true,true,true] ((((((a0.put (some 23) (.slice (some ⟨ka,0,none⟩) 0 0)).put (some 28) (.slice sa env.length ca)).put (some 29) (.slice (some ⟨kb,0,none⟩) 0 0)).put (some 34) (.slice sb env.length cb)).put (some 9) (.slice sa env.length ca)).put (some 10) (.slice sb env.length cb)) g0:=by
  intro ka sa ca kb sb cb g0 hR hHeld
  rw[hDg,ha]
  simp only[zs];refine wpAnyH_done (by kernel_rfl) ?_ _
  have ON:=Hid.mk' (j7g (hR.out.at [] _))
  have OO:=Hid.mk' (jcn (hR.out.at [_] _))
  have HZ:=Hid.mk' (H.out.z.later hR.out.l)
  have M1:=Hid.mk' (HM1.out.later hR.out.l)
  have M2:=Hid.mk' (HM2.out.later hR.out.l)
  have WL:=Hid.mk' (H.out.wl.later hR.out.l)
  have T3:Hid (Tw G.p G.kb w g0):=Tw.of hR.out.l
  have hp3:G.p<g0.heap.size:=HZ.out.bx.lt
  have hk3:G.kb<g0.heap.size:=HZ.out.kl
  have sw3:w.heap.size<=g0.heap.size:=T3.out.size
  clear hR hHeld H HM1 HM2 HBX;have hR3:Hid (Rs g0 g0.heap.size (g0.alloc (.cells #[] 9)) ([]++rS (.slice (some ⟨g0.heap.size,0,none⟩) 0 0) [] :: [])):=Hid.mk' ((Rs.nil g0).ins [] [] (j00 (Below.refl _ _) _) (jen g0))
  go_wp2_with (at_builtin;refine j37 [] [] hR3.out rfl _ _ 53 16 rfl Tryz.underlying53 hiS hzS hsS hbS rfl (Nat.succ_pos _) rfl sa env.length ca ((env.map (·.1)).map Value.string) rfl (by simp[rS,rI]) (srcS (by simp) ((ON.out.later hR3.out.l).strs2 (by simp) hp2 hk2)) (j43 _) (by show _<=_;simp[rS,rI];unfold maxLen;omega) (by simp[rS,rI];omega) env.length (by simp[rS,rI]) (λv=>rS v (env.map (·.1))) (λ_=>by simp[rS,rI]) ?_)
  intro s3 c3 w3 hR4'
  have hR4:=Hid.mk' hR4'
  clear hR4' hR3;go_wp2_with (at_builtin;refine j37 [] [] hR4.out rfl _ _ 53 16 rfl Tryz.underlying53 hiS hzS hsS hbS rfl (Nat.succ_pos _) rfl s1 more.length c1 ((more.map (·.1)).map Value.string) rfl (by simp[rS,rI]) (srcS (by simp) (M1.out.later hR4.out.l)) (j43 _) (by show _<=_;simp[rS,rI];unfold maxLen;omega) (by simp[rS,rI];omega) (env.length+more.length) (by simp[rS,rI]) (λv=>rS v ((env.map (·.1))++(more.map (·.1)))) (λ_=>by simp[rS,rI]) ?_)
  intro s4 c4 w4 hR5'
  have hR5:=Hid.mk' hR5'
  clear hR5' hR4;have hbx:=HZ.out.bx.later hR5.out.l
  have x6:_=some (Value.slice sn env.length cn):=(hbx.cell 6).trans rfl
  have y6:=hbx.frozen 6
  clear hbx;have HZ4:=Hid.mk' ((HZ.out.later hR5.out.l).set6 hG (.slice s4 (env.length+more.length) c4))
  have ON4:=Hid.mk' (OS.tw (ON.out.later hR5.out.l) (Tw.set G.p G.kb _ 6 (.slice s4 (env.length+more.length) c4)) hp2 hk2)
  have OO4:=Hid.mk' (OI.tw (OO.out.later hR5.out.l) (Tw.set G.p G.kb _ 6 (.slice s4 (env.length+more.length) c4)) hp2 hk2)
  have NN4:=Hid.mk' ((OS.tw (j7g (hR5.out.at [] _)) (Tw.set G.p G.kb _ 6 (.slice s4 (env.length+more.length) c4)) hp3 hk3).strs2 (by simp) hp3 hk3)
  have M24:=Hid.mk' ((M2.out.later hR5.out.l).two (Tw.set G.p G.kb _ 6 (.slice s4 (env.length+more.length) c4)))
  have WL4:=Hid.mk' ((WL.out.later hR5.out.l).two (Tw.set G.p G.kb _ 6 (.slice s4 (env.length+more.length) c4)))
  have T4:=Hid.mk' (T3.out.trans ((Tw.of hR5.out.l).trans (Tw.set G.p G.kb _ 6 (.slice s4 (env.length+more.length) c4))))
  clear hR5 HZ ON OO M1 M2 WL T3;obtain⟨X4,hX4⟩:∃X,w4.setCell ⟨G.p,6,none⟩ (.slice s4 (env.length+more.length) c4)=X:=⟨_,rfl⟩
  rw[hX4] at HZ4 ON4 OO4 NN4 M24 WL4 T4
  have hp4:G.p<X4.heap.size:=HZ4.out.bx.lt
  have hk4:G.kb<X4.heap.size:=HZ4.out.kl
  have hR3:Hid (Rs X4 X4.heap.size (X4.alloc (.cells #[] 3)) ([]++rI (.slice (some ⟨X4.heap.size,0,none⟩) 0 0) [] :: [])):=Hid.mk' ((Rs.nil X4).ins [] [] (j00 (Below.refl _ _) _) (jdt X4))
  go_wp2_with (at_builtin;refine j37 [] [] hR3.out rfl _ _ 26 8 rfl Tryz.underlying26 hiI hzI hsI hbI rfl (Nat.succ_pos _) rfl sb env.length cb ((env.map (·.2)).map (Value.int .i64)) rfl (by simp[rS,rI]) (srcI (by simp) ((OO4.out.later hR3.out.l).nums2 (by simp) hp2 hk2)) (j4r _) (by show _<=_;simp[rS,rI];unfold maxLen;omega) (by simp[rS,rI];omega) env.length (by simp[rS,rI]) (λv=>rI v (env.map (·.2))) (λ_=>by simp[rS,rI]) ?_)
  intro s5 c5 w5 hR4'
  have hR4:=Hid.mk' hR4'
  clear hR4' hR3 x6 y6;go_wp2_with (at_builtin;refine j37 [] [] hR4.out rfl _ _ 26 8 rfl Tryz.underlying26 hiI hzI hsI hbI rfl (Nat.succ_pos _) rfl s2 more.length c2 ((more.map (·.2)).map (Value.int .i64)) rfl (by simp[rS,rI]) (srcI (by simp) (M24.out.later hR4.out.l)) (j4r _) (by show _<=_;simp[rS,rI];unfold maxLen;omega) (by simp[rS,rI];omega) (env.length+more.length) (by simp[rS,rI]) (λv=>rI v ((env.map (·.2))++(more.map (·.2)))) (λ_=>by simp[rS,rI]) ?_)
  intro s6 c6 w6 hR5'
  have hR5:=Hid.mk' hR5'
  clear hR5' hR4 hX4;have hbx:=HZ4.out.bx.later hR5.out.l
  have x7:_=some (Value.slice sk env.length ck):=(hbx.cell 7).trans rfl
  have y7:=hbx.frozen 7
  clear hbx;have HZ5:=(HZ4.out.later hR5.out.l).set7 hG (.slice s6 (env.length+more.length) c6)
  have ON5:=Hid.mk' (OS.tw (ON4.out.later hR5.out.l) (Tw.set G.p G.kb _ 7 (.slice s6 (env.length+more.length) c6)) hp2 hk2)
  have OO5:=Hid.mk' (OI.tw (OO4.out.later hR5.out.l) (Tw.set G.p G.kb _ 7 (.slice s6 (env.length+more.length) c6)) hp2 hk2)
  have NN5:=(NN4.out.later hR5.out.l).two (Tw.set G.p G.kb _ 7 (.slice s6 (env.length+more.length) c6))
  have NK5:=(OI.tw (jcn (hR5.out.at [] _)) (Tw.set G.p G.kb _ 7 (.slice s6 (env.length+more.length) c6)) hp4 hk4).nums2 (by simp) hp4 hk4
  have WL5:=(WL4.out.later hR5.out.l).two (Tw.set G.p G.kb _ 7 (.slice s6 (env.length+more.length) c6))
  have T5:=Hid.mk' (T4.out.trans ((Tw.of hR5.out.l).trans (Tw.set G.p G.kb _ 7 (.slice s6 (env.length+more.length) c6))))
  have HLV:=Hid.mk' (HZ5.lv (env:=env++more) (by simp) (by simpa using NN5) (by simpa using NK5) WL5)
  clear HZ5 NN5 NK5 WL5 hR5 HZ4 ON4 OO4 NN4 M24 WL4 T4;obtain⟨X5,hX5⟩:∃X,w6.setCell ⟨G.p,7,none⟩ (.slice s6 (env.length+more.length) c6)=X:=⟨_,rfl⟩
  rw[hX5] at ON5 OO5 T5 HLV
  obtain⟨en1,hnb,e0,e1,e2,e3⟩:=HQ.out
  have x3:X5.cell? ⟨G.p,3,none⟩=some (.slice (some ⟨nb,no,none⟩) G.T.nodes.length G.d1):=by rw[<-en1];exact(HLV.out.bx.cell 3).trans rfl
  have q0:=(HLV.out.bl.cell (p:=⟨nb,no+b*4,none⟩) hnb).trans e0
  have q1:=(HLV.out.bl.cell (p:=⟨nb,no+b*4+1,none⟩) hnb).trans e1
  have q2:=(HLV.out.bl.cell (p:=⟨nb,no+b*4+2,none⟩) hnb).trans e2
  have q3:=(HLV.out.bl.cell (p:=⟨nb,no+b*4+3,none⟩) hnb).trans e3
  have bI:(b:Int)<(G.T.nodes.length:Int):=by omega
  have kk5:=Blk.new X5 #[.int .i64 n.kind,.string n.text,.int .i64 n.num,.slice s9 n.kids.length c9] 73
  have bz:Below X5.heap.size X5 (X5.alloc (.cells #[.int .i64 n.kind,.string n.text,.int .i64 n.num,.slice s9 n.kids.length c9] 73)):=j00 (Below.refl _ _) _
  have T6:=Hid.mk' (T5.out.trans (Tw.of bz))
  have ON6:=Hid.mk' (ON5.out.later bz)
  have OO6:=Hid.mk' (OO5.out.later bz)
  have hwx:w.heap.size<=X5.heap.size:=T5.out.size
  have LD0:Hid (LdB G top md last g own b (ckSs g own n.kids (env++more) K) (n.kids.drop 0) (X5.alloc (.cells #[.int .i64 n.kind,.string n.text,.int .i64 n.num,.slice s9 n.kids.length c9] 73))):=Or.inl ⟨env++more,K,nx,⟨_,_,_,_,_,_,HLV.out.later bz⟩,by rw[List.drop_zero];exact HF.out,by simpa using henv,by rw[List.drop_zero]⟩
  obtain⟨z0,z1,z2,z3,z4⟩:=Blk.four' kk5
  have K56:=Hid.mk' kk5
  have hk5p:¬X5.heap.size=G.p:=by have:=HLV.out.bx.lt;omega
  have hk5k:¬X5.heap.size=G.kb:=by have:=HLV.out.kl;omega
  clear kk5 bz T5 ON5 OO5 HLV e0 e1 e2 e3 en1;go_wp2_with fail;clear z0 z1 z2 z3 z4 q0 q1 q2 q3 x3 x7 y7 hX5;go_loopw [12] (λkv wr=>∃m:Nat,m<=n.kids.length/\kv=.int .i64 m/\Hid (LdB G top md last g own b (ckSs g own n.kids (env++more) K) (n.kids.drop m) wr)/\Hid (Tw G.p G.kb w wr)/\Hid (Blk wr X5.heap.size #[.int .i64 n.kind,.string n.text,.int .i64 n.num,.slice s9 n.kids.length c9] 73)/\Hid (OS wr w.heap.size (.slice sa env.length ca) (env.map (·.1)))/\Hid (OI wr w.heap.size (.slice sb env.length cb) (env.map (·.2)))) (λkv _=>n.kids.length-(intOf kv).toNat)
  case atStart=>exact⟨0,Nat.zero_le _,rfl,LD0,T6,K56,ON6,OO6⟩
  clear LD0 T6 K56 ON6 OO6;obtain⟨m,hm,rfl,LDm,Tm,Km,Om,Im⟩:=hrel
  obtain⟨z0,z1,z2,z3',z4⟩:=Blk.four' Km.out
  by_cases hlt:m<n.kids.length
  ·
   have mI:(m:Int)<(n.kids.length:Int):=by omega
   have t2:decide ((m:Int)<(n.kids.length:Int))=true:=by simp;omega
   rcases LDm.out with ⟨envm,Kc,am,⟨sn2,cn2,sk2,ck2,sw2,cw2,hl⟩,hfm,hem,hRm⟩|⟨c,nq,hd,hRm⟩
   ·
    obtain⟨xi,hxi⟩:∃x,n.kids[m]?=some x:=⟨n.kids[m],by simp[hlt]⟩
    have hdr:Hid (n.kids.drop m=xi :: n.kids.drop (m+1)):=by
     show _=_
     rw[List.drop_eq_getElem_cons hlt]
     congr 1
     exact(List.getElem?_eq_some_iff.1 hxi).2
    rw[hdr.out] at hfm
    obtain⟨i,rfl,hai,hfi,hfr⟩:=hfm.head
    obtain⟨fb,fo,hs9,_,hfb,p00⟩:=j05 HK.out hxi
    have z3:=z3'
    rw[hs9] at z3
    have v0:=(hl.bl.cell (p:=⟨fb,fo+m,none⟩) hfb).trans p00
    have y13:wr.cell? ⟨G.p,13,none⟩=some (.int .i64 0):=(hl.bx.cell 13).trans rfl
    have HL:=Hid.mk' hl
    have HFI:=Hid.mk' hfi
    have HFR:=Hid.mk' hfr
    have HXI:=Hid.mk' hxi
    have HRM:=Hid.mk' hRm
    clear z3' hl hfi hfr hxi p00 hs9 hRm LDm;go_wp2_with fail;refine(HS.out m i am envm Kc _ sn2 cn2 sk2 ck2 sw2 cw2 HXI.out HFI.out hem HL.out).mono ?_
    rintro e w8 hS8
    have T8:Hid (Tw G.p G.kb w w8):=Tm.out.trans hS8.2
    have K58:Hid (Blk w8 X5.heap.size #[.int .i64 n.kind,.string n.text,.int .i64 n.num,.slice s9 n.kids.length c9] 73):=Km.out.tw hS8.2 hk5p hk5k
    have O8:=Hid.mk' (Om.out.tw hS8.2 hp2 hk2)
    have I8:=Hid.mk' (Im.out.tw hS8.2 hp2 hk2)
    have LD8:Hid (LdB G top md last g own b (ckSs g own n.kids (env++more) K) (n.kids.drop (m+1)) w8):=by
     obtain⟨⟨_,hm8⟩,_⟩:=hS8
     cases hg:g envm Kc (i:Int) (own&&(n.kids.drop (m+1)).isEmpty) with
     | error q =>
      obtain⟨c,nq⟩:=q
      rw[hg] at hm8
      exact Or.inr ⟨c,nq,hm8,by rw[HRM.out,hdr.out];simp[ckSs,hg]⟩
     | ok q =>
      obtain⟨env',Kn⟩:=q
      rw[hg] at hm8
      have:=HLN.out _ _ _ _ _ _ hg
      exact Or.inl ⟨env',Kn,i+1,hm8,HFR.out,by omega,by rw[HRM.out,hdr.out];simp[ckSs,hg]⟩
    obtain⟨⟨rfl,_⟩,_⟩:=hS8
    clear z0 z1 z2 z3 z4 v0 y13 HL HFI HFR HXI HRM Tm Km Om Im;go_wp2_with fail;go_roundw
    case rel=>exact⟨m+1,by omega,by go_num,LD8,T8,K58,O8,I8⟩
    case measure=>simp[intOf];omega
   have y13:=hd.c13
   have tc:(c ==0)=false:=by simp[hd.ne]
   have z3:=z3'
   clear z3';obtain⟨⟨u6,x6⟩,y6⟩:=LDm.out.cell (o:=6) (by decide)
   obtain⟨⟨u7,x7⟩,y7⟩:=LDm.out.cell (o:=7) (by decide)
   have SL1:=j2k 53 Tryz.htS jd5 sa env.length ca env.length (Nat.le_refl _) Om.out.cap
   have SL2:=j2k 26 Tryz.htI2 j6w sb env.length cb env.length (Nat.le_refl _) Im.out.cap
   go_wp2_with fail;refine bq (.tuple #[]) ?_
   have ht:=(Tw.set G.p G.kb wr 6 (.slice sa env.length ca)).trans (Tw.set G.p G.kb _ 7 (.slice sb env.length cb))
   exact j2n.bad hRm ((hd.set hG (by decide) (by decide) (by decide) _).set hG (by decide) (by decide) (by decide) _) (Tm.out.trans ht)
  have t2:decide ((m:Int)<(n.kids.length:Int))=false:=by simp;omega
  have z3:=z3'
  clear z3';obtain⟨⟨u6,x6⟩,y6⟩:=LDm.out.cell (o:=6) (by decide)
  obtain⟨⟨u7,x7⟩,y7⟩:=LDm.out.cell (o:=7) (by decide)
  have SL1:=j2k 53 Tryz.htS jd5 sa env.length ca env.length (Nat.le_refl _) Om.out.cap
  have SL2:=j2k 26 Tryz.htI2 j6w sb env.length cb env.length (Nat.le_refl _) Im.out.cap
  go_wp2_with fail;refine bq (.tuple #[]) ?_
  have ht:=(Tw.set G.p G.kb wr 6 (.slice sa env.length ca)).trans (Tw.set G.p G.kb _ 7 (.slice sb env.length cb))
  rcases LDm.out with ⟨envm,Kc,am,⟨sn2,cn2,sk2,ck2,sw2,cw2,hl⟩,hfm,hem,hRm⟩|⟨c,nq,hd,hRm⟩
  ·
   rw[List.drop_eq_nil_of_le (by omega)] at hRm
   exact j2n.good (by rw[hRm];rfl) ⟨_,_,_,_,_,_,((hl.z.set6 hG (.slice sa env.length ca)).set7 hG (.slice sb env.length cb)).lv rfl ((Om.out.tw ht hp2 hk2).strs2 (by simp) hp2 hk2) ((Im.out.tw ht hp2 hk2).nums2 (by simp) hp2 hk2) (hl.wl.two ht)⟩ (Tm.out.trans ht)
  exact j2n.bad hRm ((hd.set hG (by decide) (by decide) (by decide) _).set hG (by decide) (by decide) (by decide) _) (Tm.out.trans ht)
 have st1:∀(ka:Nat) (sa:Option Addr) (ca kb:Nat) (g0:World),Hid (Rs w w.heap.size g0 [rS (.slice sa env.length ca) (env.map (·.1)),rI (.slice (some ⟨kb,0,none⟩) 0 0) []])->(λw'=>Blk w' G.p (lw G top sn env.length cn sk ck md.each (md.each || md.hears) sw md.wth.length cw md.fn last 0 (-1)) 55) g0->Gd 3 #[true,true,true,true,true,true,true,true,true,true,true,false,false,false] (((a0.put (some 23) (.slice (some ⟨ka,0,none⟩) 0 0)).put (some 28) (.slice sa env.length ca)).put (some 29) (.slice (some ⟨kb,0,none⟩) 0 0)) g0:=by
  intro ka sa ca kb g0 hR hHeld
  rw[hDg,ha]
  simp only[zs];refine wpy 11 λK hK=>?_
  refine j3k [rS (.slice sa env.length ca) (env.map (·.1))] [] hR.out rfl (d0:=(some 34)) rfl (.tmp 29) (.tmp 33) 26 8 rfl Tryz.underlying26 hiI hzI hsI hbI rfl (Nat.succ_pos _) rfl sk env.length ck ((env.map (·.2)).map (Value.int .i64)) rfl (by simp[rS,rI]) (srcI (by simp) (H.out.k.later hR.out.l)) (j4r _) (by show _<=_;simp[rS,rI];unfold maxLen;omega) (by simp[rS,rI];omega) env.length (by simp[rS,rI]) (λv=>rI v (env.map (·.2))) (λ_=>by simp[rS,rI]) ?_
  intro sb cb g1 hR'
  have hR:Hid (Rs w w.heap.size g1 [rS (.slice sa env.length ca) (env.map (·.1)),rI (.slice sb env.length cb) (env.map (·.2))]):=hR'
  clear hR';refine hK.out _ _ ?_ (λhHeld=>?_)
  ·
   exact hR.out.blk HBX.out hp2
  clear hK K;try simp only[zs]
  refine wpr 12 9 ?_;simp only[zs];refine wpr 13 10 ?_;simp only[zs];exact j20 hDg (st0 ka sa ca kb sb cb _ hR hHeld) rfl (by kernel_rfl) (by rw[ha]<;>rfl)
 have st2:∀(ka:Nat) (sa:Option Addr) (ca:Nat) (g0:World),Hid (Rs w w.heap.size g0 [rS (.slice sa env.length ca) (env.map (·.1))])->(λw'=>Blk w' G.p (lw G top sn env.length cn sk ck md.each (md.each || md.hears) sw md.wth.length cw md.fn last 0 (-1)) 55) g0->Gd 4 #[true,true,true,true,true,true,false,true,true,true,true,false,false,false] ((a0.put (some 23) (.slice (some ⟨ka,0,none⟩) 0 0)).put (some 28) (.slice sa env.length ca)) g0:=by
  intro ka sa ca g0 hR hHeld
  rw[hDg,ha]
  simp only[zs];refine wpy 6 λK hK=>?_
  refine j2s [rS (.slice sa env.length ca) (env.map (·.1))] [] hR.out rfl (d0:=(some 29)) rfl 26 3 Tryz.underlying26 hiI rfl (λv=>rI v []) 1 (λ_=>rfl) ?_
  intro kb g2 hR'
  have hR:Hid (Rs w w.heap.size g2 [rS (.slice sa env.length ca) (env.map (·.1)),rI (.slice (some ⟨kb,0,none⟩) 0 0) []]):=hR'
  clear hR';refine hK.out _ _ ?_ (λhHeld=>?_)
  ·
   exact hR.out.blk HBX.out hp2
  clear hK K;exact j20 hDg (st1 ka sa ca kb _ hR hHeld) rfl (by kernel_rfl) (by rw[ha]<;>rfl)
 have st3:∀(ka kb:Nat) (g0:World),Hid (Rs w w.heap.size g0 [rS (.slice (some ⟨ka,0,none⟩) 0 0) [],rI (.slice (some ⟨kb,0,none⟩) 0 0) []])->(λw'=>Blk w' G.p (lw G top sn env.length cn sk ck md.each (md.each || md.hears) sw md.wth.length cw md.fn last 0 (-1)) 55) g0->Gd 4 #[true,true,true,true,true,false,true,true,true,true,true,false,false,false] ((a0.put (some 23) (.slice (some ⟨ka,0,none⟩) 0 0)).put (some 29) (.slice (some ⟨kb,0,none⟩) 0 0)) g0:=by
  intro ka kb g0 hR hHeld
  rw[hDg,ha]
  simp only[zs];refine wpy 5 λK hK=>?_
  refine j3k [] [rI (.slice (some ⟨kb,0,none⟩) 0 0) []] hR.out rfl (d0:=(some 28)) rfl (.tmp 23) (.tmp 27) 53 16 rfl Tryz.underlying53 hiS hzS hsS hbS rfl (Nat.succ_pos _) rfl sn env.length cn ((env.map (·.1)).map Value.string) rfl (by simp[rS,rI]) (srcS (by simp) (H.out.n.later hR.out.l)) (j43 _) (by show _<=_;simp[rS,rI];unfold maxLen;omega) (by simp[rS,rI];omega) env.length (by simp[rS,rI]) (λv=>rS v (env.map (·.1))) (λ_=>by simp[rS,rI]) ?_
  intro sa ca g3 hR'
  have hR:Hid (Rs w w.heap.size g3 [rS (.slice sa env.length ca) (env.map (·.1)),rI (.slice (some ⟨kb,0,none⟩) 0 0) []]):=hR'
  clear hR';refine hK.out _ _ ?_ (λhHeld=>?_)
  ·
   exact hR.out.blk HBX.out hp2
  clear hK K;exact j20 hDg (st1 ka sa ca kb _ hR hHeld) rfl (by kernel_rfl) (by rw[ha]<;>rfl)
 have st4:∀(ka:Nat) (g0:World),Hid (Rs w w.heap.size g0 [rS (.slice (some ⟨ka,0,none⟩) 0 0) []])->(λw'=>Blk w' G.p (lw G top sn env.length cn sk ck md.each (md.each || md.hears) sw md.wth.length cw md.fn last 0 (-1)) 55) g0->Gd 5 #[true,true,true,true,true,false,false,true,true,true,true,false,false,false] (a0.put (some 23) (.slice (some ⟨ka,0,none⟩) 0 0)) g0:=by
  intro ka g0 hR hHeld
  rw[hDg,ha]
  simp only[zs];refine wpAnyH_ready (rs:=[5,6]) (by kernel_rfl) (by simp) ?_
  refine AllReadyH.cons rfl (λK hK=>?_) ?_
  ·
   skip
   refine j3k [] [] hR.out rfl (d0:=(some 28)) rfl (.tmp 23) (.tmp 27) 53 16 rfl Tryz.underlying53 hiS hzS hsS hbS rfl (Nat.succ_pos _) rfl sn env.length cn ((env.map (·.1)).map Value.string) rfl (by simp[rS,rI]) (srcS (by simp) (H.out.n.later hR.out.l)) (j43 _) (by show _<=_;simp[rS,rI];unfold maxLen;omega) (by simp[rS,rI];omega) env.length (by simp[rS,rI]) (λv=>rS v (env.map (·.1))) (λ_=>by simp[rS,rI]) ?_
   intro sa ca g4 hR'
   have hR:Hid (Rs w w.heap.size g4 [rS (.slice sa env.length ca) (env.map (·.1))]):=hR'
   clear hR';refine hK.out _ _ ?_ (λhHeld=>?_)
   ·
    exact hR.out.blk HBX.out hp2
   clear hK K;exact j20 hDg (st2 ka sa ca _ hR hHeld) rfl (by kernel_rfl) (by rw[ha]<;>rfl)
  refine AllReadyH.cons rfl (λK hK=>?_) AllReadyH.nil
  refine j2s [rS (.slice (some ⟨ka,0,none⟩) 0 0) []] [] hR.out rfl (d0:=(some 29)) rfl 26 3 Tryz.underlying26 hiI rfl (λv=>rI v []) 1 (λ_=>rfl) ?_
  intro kb g5 hR'
  have hR:Hid (Rs w w.heap.size g5 [rS (.slice (some ⟨ka,0,none⟩) 0 0) [],rI (.slice (some ⟨kb,0,none⟩) 0 0) []]):=hR'
  clear hR';refine hK.out _ _ ?_ (λhHeld=>?_)
  ·
   exact hR.out.blk HBX.out hp2
  clear hK K;exact j20 hDg (st3 ka kb _ hR hHeld) rfl (by kernel_rfl) (by rw[ha]<;>rfl)
 have st5:∀(kb:Nat) (g0:World),Hid (Rs w w.heap.size g0 [rI (.slice (some ⟨kb,0,none⟩) 0 0) []])->(λw'=>Blk w' G.p (lw G top sn env.length cn sk ck md.each (md.each || md.hears) sw md.wth.length cw md.fn last 0 (-1)) 55) g0->Gd 5 #[false,true,true,true,true,false,true,true,true,true,true,false,false,false] (a0.put (some 29) (.slice (some ⟨kb,0,none⟩) 0 0)) g0:=by
  intro kb g0 hR hHeld
  rw[hDg,ha]
  simp only[zs];refine wpy 0 λK hK=>?_
  refine j2s [] [rI (.slice (some ⟨kb,0,none⟩) 0 0) []] hR.out rfl (d0:=(some 23)) rfl 53 9 Tryz.underlying53 hiS rfl (λv=>rS v []) 1 (λ_=>rfl) ?_
  intro ka g6 hR'
  have hR:Hid (Rs w w.heap.size g6 [rS (.slice (some ⟨ka,0,none⟩) 0 0) [],rI (.slice (some ⟨kb,0,none⟩) 0 0) []]):=hR'
  clear hR';refine hK.out _ _ ?_ (λhHeld=>?_)
  ·
   exact hR.out.blk HBX.out hp2
  clear hK K;exact j20 hDg (st3 ka kb _ hR hHeld) rfl (by kernel_rfl) (by rw[ha]<;>rfl)
 rw[hDg,ha]
 try simp only[zs]
 refine wpAnyH_ready (rs:=[0,6]) (by kernel_rfl) (by simp) ?_
 refine AllReadyH.cons rfl (λK hK=>?_) ?_
 ·
  skip
  refine j2s [] [] hR.out rfl (d0:=(some 23)) rfl 53 9 Tryz.underlying53 hiS rfl (λv=>rS v []) 1 (λ_=>rfl) ?_
  intro ka g7 hR'
  have hR:Hid (Rs w w.heap.size g7 [rS (.slice (some ⟨ka,0,none⟩) 0 0) []]):=hR'
  clear hR';refine hK.out _ _ ?_ (λhHeld=>?_)
  ·
   exact hR.out.blk HBX.out hp2
  clear hK K;exact j20 hDg (st4 ka _ hR hHeld) rfl (by kernel_rfl) (by rw[ha]<;>rfl)
 refine AllReadyH.cons rfl (λK hK=>?_) AllReadyH.nil
 refine j2s [] [] hR.out rfl (d0:=(some 29)) rfl 26 3 Tryz.underlying26 hiI rfl (λv=>rI v []) 1 (λ_=>rfl) ?_
 intro kb g8 hR'
 have hR:Hid (Rs w w.heap.size g8 [rI (.slice (some ⟨kb,0,none⟩) 0 0) []]):=hR'
 clear hR';refine hK.out _ _ ?_ (λhHeld=>?_)
 ·
  exact hR.out.blk HBX.out hp2
 clear hK K;exact j20 hDg (st5 kb _ hR hHeld) rfl (by kernel_rfl) (by rw[ha]<;>rfl)
end
end
section
open Go.RowKit
section
variable {G:Gd} {w w':World} {top:Int} {env:Env} {md:Md} {last:Int} {K:KM} {sn sk sw:Option Addr} {cn ck cw:Nat}
theorem lowc {B:Nat} {w w':World} {p:Addr} {v:Value} (h:Below B w w') (hc:w.cell? p=some v) (hp:p.block<B):w'.cell? p=some v:=(h.cell hp).trans hc
theorem Tw.low {p q B:Nat} {w w1 w2:World} (h:Tw p q w w1) (hb:Below B w1 w2) (hB:w.heap.size<=B):Tw p q w w2 :=
 ⟨hb.os.trans h.os,hb.tape.trans h.tape,hb.output.trans h.output,Nat.le_trans h.size hb.size,λk h1 h2 h3=>(hb.block k (by omega)).trans (h.block k h1 h2 h3)⟩
theorem Strs.low {p q B:Nat} {w w':World} {s:Option Addr} {L:List ByteArray} (h:Strs p q w s L) (ho:OldL B s L) (hb:Below B w w'):Strs p q w' s L:=by
 rcases h with h|⟨b,o,rfl,h1,h2,h3⟩
 ·
  exact Or.inl h
 rcases ho with ho|ho
 ·
  exact Or.inl ho
 have hk:=ho _ rfl
 exact Or.inr ⟨b,o,rfl,Nat.lt_of_lt_of_le h1 hb.size,h2,λj hj=>(hb.cell (p:=⟨b,o+j,none⟩) hk).trans (h3 j hj)⟩
theorem Nums.low {p q B:Nat} {w w':World} {s:Option Addr} {L:List Int} (h:Nums p q w s L) (ho:OldL B s L) (hb:Below B w w'):Nums p q w' s L:=by
 rcases h with h|⟨b,o,rfl,h1,h2,h3⟩
 ·
  exact Or.inl h
 rcases ho with ho|ho
 ·
  exact Or.inl ho
 have hk:=ho _ rfl
 exact Or.inr ⟨b,o,rfl,Nat.lt_of_lt_of_le h1 hb.size,h2,λj hj=>(hb.cell (p:=⟨b,o+j,none⟩) hk).trans (h3 j hj)⟩
theorem Lv.low {B:Nat} (h:Lv G w top env md last K sn cn sk ck sw cw) (ho:Old3 G B env md sn sk sw) (hb:Below B w w') (hp:G.p<B) (hk:G.kb<B) (h0:G.w0.heap.size<=B):Lv G w' top env md last K sn cn sk ck sw cw :=
 ⟨by unfold Blk;rw[hb.block G.p hp];exact h.bx,h.n.low ho.1 hb,h.k.low ho.2.1 hb,h.wl.low ho.2.2 hb,Nat.lt_of_lt_of_le h.kl hb.size,λj hj=>(hb.cell (p:=⟨G.kb,j,none⟩) hk).trans (h.kc j hj),λj=>(hb.frozen (p:=⟨G.kb,j,none⟩) hk).trans (h.kf j),h.bl.trans (hb.mono h0)⟩
theorem OldL.mono {α:Type} {B B':Nat} {s:Option Addr} {L:List α} (h:OldL B s L) (hB:B<=B'):OldL B' s L:=h.imp id λg a e=>Nat.lt_of_lt_of_le (g a e) hB
theorem Strs.take {p q:Nat} {w:World} {s:Option Addr} {L:List ByteArray} (h:Strs p q w s L) (r:Nat):Strs p q w s (L.take r):=by
 rcases h with rfl|⟨b,o,rfl,h1,h2,h3⟩
 ·
  exact Or.inl (by simp)
 refine Or.inr ⟨b,o,rfl,h1,h2,λj hj=>?_⟩
 have hj:j<r/\j<L.length:=by rw[List.length_take] at hj;omega
 rw[h3 j hj.2,List.getElem?_take_of_lt hj.1]
theorem Els.nums {p q B0:Nat} {w0 w:World} {s:Option Addr} {L:List Int} (h:Els 1 cInt w0 B0 s L) (hb:Below w0.heap.size w0 w) (hp:w0.heap.size<=p) (hq:w0.heap.size<=q):Nums p q w s L:=by
 rcases h with h0|⟨b,o,rfl,h1,h2,h3,_⟩
 ·
  exact Or.inl h0
 refine Or.inr ⟨b,o,rfl,Nat.lt_of_lt_of_le h2 hb.size,⟨by omega,by omega⟩,λj hj=>?_⟩
 obtain⟨cs,_,e2,e3⟩:=h3 j (L[j]?.getD 0) (by simp[hj])
 subst e3
 exact(hb.cell (p:=⟨b,o+j,none⟩) h2).trans (by simpa using e2 0 _ rfl)
theorem jf9 (hG:G.Ok) {i:Nat} {n:Nd} (hv:VN G.T i n) {a:Nat} {an:Nd} (hx0:n.kids[0]?=some (a:Int)) (hva:VN G.T a an) {c:Nat} {en:Nd} (hx1:n.kids[1]?=some (c:Int)) (hvc:VN G.T c en) {b:Nat} (hx2:n.kids[2]?=some (b:Int)) (hN:∀x∈an.kids++en.kids,∃(k:Nat) (m:Nd),x=k/\VN G.T k m) (he:md.each=false) (hh:md.hears=false) (hmw:md.wth=[]) {g:List ByteArray->KM->Ck KM}
  (hB:∀(R:List ByteArray) (s:Option Addr) (cs:Nat) (w:World),R.length<=1048576->Lv G w top env {md with each:=true,wth:=R} last K sn cn sk ck s cs->
   Calls Tryz.prog 54 #[.pointer (some ⟨G.p,0,none⟩),.int .i64 (b:Int),.slice none 0 0,.slice none 0 0] w λe w'=>j2n G w top env {md with each:=true,wth:=R} last (g R K) e w')
  (h:Lv G w top env md last K sn cn sk ck sw cw) :
  Calls Tryz.prog 92 #[.pointer (some ⟨G.p,0,none⟩),.int .i64 (i:Int)] w λe w'=>j2n G w top env md last (ckEa (Dg G) G.T K (i:Int) g) e w':=by
 have HB:Hid (ckEa (Dg G) G.T K (i:Int) g=match j24 (Dg G) G.T (an.kids++en.kids) [] with | .error e=> .error e | .ok all=>g (all.take an.kids.length) K):=by
  show _=_
  unfold ckEa
  rw[j0j hv.at_,show kid n 0=(a:Int) by simp[kid,hx0],show kid n 1=(c:Int) by simp[kid,hx1],j0j hva.at_,j0j hvc.at_]
  all_goals rfl
 obtain⟨nb,no,s9,c9,en1,hnb,e0,e1,e2,e3,ekids⟩:=hG.node hv.at_
 obtain⟨nb2,no2,sA,cA,en2,_,_,_,_,f3,fkids⟩:=hG.node hva.at_
 obtain⟨nb3,no3,sC,cC,en3,_,_,_,_,g3,gkids⟩:=hG.node hvc.at_
 obtain⟨fb,fo,rfl,_,hfb,pp0⟩:=j05 ekids hx0
 obtain⟨fb2,fo2,ef,_,_,pp1⟩:=j05 ekids hx1
 obtain⟨fb3,fo3,ef3,_,_,pp2⟩:=j05 ekids hx2
 rw[en1] at en2 en3
 cases en2
 cases en3
 cases ef
 cases ef3
 have hiN:i<G.T.nodes.length:=(List.getElem?_eq_some_iff.1 hv.at_).1
 have haN:a<G.T.nodes.length:=(List.getElem?_eq_some_iff.1 hva.at_).1
 have hcN:c<G.T.nodes.length:=(List.getElem?_eq_some_iff.1 hvc.at_).1
 have hnl:G.T.nodes.length<=1048576:=hG.k.1.1
 have h4:G.T.nodes.length<=4000:=hG.tr.1
 have hal:an.kids.length<=4000:=by obtain⟨_,hf⟩:=hva.fit;have:=hf.len;omega
 have hel:en.kids.length<=4000:=by obtain⟨_,hf⟩:=hvc.fit;have:=hf.len;omega
 have hkl:2<n.kids.length:=(List.getElem?_eq_some_iff.1 hx2).1
 have x3:w.cell? ⟨G.p,3,none⟩=some (.slice (some ⟨nb,no,none⟩) G.T.nodes.length G.d1):=by rw[<-en1];exact(h.bx.cell 3).trans rfl
 have q0:=(h.bl.cell (p:=⟨nb,no+i*4,none⟩) hnb).trans e0
 have q1:=(h.bl.cell (p:=⟨nb,no+i*4+1,none⟩) hnb).trans e1
 have q2:=(h.bl.cell (p:=⟨nb,no+i*4+2,none⟩) hnb).trans e2
 have q3:=(h.bl.cell (p:=⟨nb,no+i*4+3,none⟩) hnb).trans e3
 rw[Nat.add_zero] at pp0
 have iI:(i:Int)<(G.T.nodes.length:Int):=by omega
 have aI:(a:Int)<(G.T.nodes.length:Int):=by omega
 have cI:(c:Int)<(G.T.nodes.length:Int):=by omega
 have l0I:(0:Int)<(n.kids.length:Int):=by omega
 have l1I:(1:Int)<(n.kids.length:Int):=by omega
 have l2I:(2:Int)<(n.kids.length:Int):=by omega
 have bz:Hid (Below w.heap.size w ((w.alloc (.cells #[.int .i64 n.kind,.string n.text,.int .i64 n.num,.slice (some ⟨fb,fo,none⟩) n.kids.length c9] 73)).alloc (.cells #[] 9))):=j00 (j00 (Below.refl _ _) _) _
 have hp0:G.p<w.heap.size:=h.bx.lt
 have hk0:G.kb<w.heap.size:=h.kl
 have hw0s:G.w0.heap.size<=w.heap.size:=h.bl.size
 have H1:Hid (Lv G ((w.alloc (.cells #[.int .i64 n.kind,.string n.text,.int .i64 n.num,.slice (some ⟨fb,fo,none⟩) n.kids.length c9] 73)).alloc (.cells #[] 9)) top env md last K sn cn sk ck sw cw):=h.later bz.out
 have OL:Hid (Old3 G (w.heap.size+1) env md sn sk sw):=⟨h.old.1.mono (Nat.le_succ _),h.old.2.1.mono (Nat.le_succ _),h.old.2.2.mono (Nat.le_succ _)⟩
 have K51:Hid (Blk ((w.alloc (.cells #[.int .i64 n.kind,.string n.text,.int .i64 n.num,.slice (some ⟨fb,fo,none⟩) n.kids.length c9] 73)).alloc (.cells #[] 9)) w.heap.size #[.int .i64 n.kind,.string n.text,.int .i64 n.num,.slice (some ⟨fb,fo,none⟩) n.kids.length c9] 73):=(Blk.new w #[.int .i64 n.kind,.string n.text,.int .i64 n.num,.slice (some ⟨fb,fo,none⟩) n.kids.length c9] 73).alloc _
 have O1:Hid (OS ((w.alloc (.cells #[.int .i64 n.kind,.string n.text,.int .i64 n.num,.slice (some ⟨fb,fo,none⟩) n.kids.length c9] 73)).alloc (.cells #[] 9)) (w.heap.size+1) (.slice (some ⟨w.heap.size+1,0,none⟩) 0 0) []):=by
  have:=OS.empty (Blk.new (w.alloc (.cells #[.int .i64 n.kind,.string n.text,.int .i64 n.num,.slice (some ⟨fb,fo,none⟩) n.kids.length c9] 73)) #[] 9)
  have e:(w.alloc (.cells #[.int .i64 n.kind,.string n.text,.int .i64 n.num,.slice (some ⟨fb,fo,none⟩) n.kids.length c9] 73)).heap.size=w.heap.size+1:=by simp
  rw[e] at this
  exact this
 have HP0:Hid (G.w0.cell? ⟨fb,fo,none⟩=some (.int .i64 (a:Int))):=pp0
 have HP1:Hid (G.w0.cell? ⟨fb,fo+1,none⟩=some (.int .i64 (c:Int))):=pp1
 have HP2:Hid (G.w0.cell? ⟨fb,fo+2,none⟩=some (.int .i64 (b:Int))):=pp2
 have HF3:Hid (G.w0.cell? ⟨nb,no+a*4+3,none⟩=some (.slice sA an.kids.length cA)):=f3
 have HG3:Hid (G.w0.cell? ⟨nb,no+c*4+3,none⟩=some (.slice sC en.kids.length cC)):=g3
 have HKA:Hid (Els 1 cInt G.w0 G.B0 sA an.kids):=fkids
 have HKC:Hid (Els 1 cInt G.w0 G.B0 sC en.kids):=gkids
 have HEN:Hid (G.n1=some ⟨nb,no,none⟩):=en1
 have HBL:=Hid.mk' hB
 have HN:=Hid.mk' hN
 obtain⟨iS,hiS,hzS,hsS,hbS⟩:=info_parts Tryz.infoS
 obtain⟨iI',hiI,hzI,hsI,hbI⟩:=info_parts Tryz.infoI
 obtain⟨z0,z1,z2,z3,z4⟩:=Blk.four' K51.out
 have y3:((w.alloc (.cells #[.int .i64 n.kind,.string n.text,.int .i64 n.num,.slice (some ⟨fb,fo,none⟩) n.kids.length c9] 73)).alloc (.cells #[] 9)).cell? ⟨G.p,3,none⟩=some (.slice (some ⟨nb,no,none⟩) G.T.nodes.length G.d1):=by rw[<-en1];exact(H1.out.bx.cell 3).trans rfl
 have y0:=(H1.out.bl.cell (p:=⟨fb,fo,none⟩) hfb).trans pp0
 have y1:=(H1.out.bl.cell (p:=⟨nb,no+a*4+3,none⟩) hnb).trans f3
 clear h e0 e1 e2 e3 f3 g3 ekids fkids gkids hv hva hvc hx0 hx1 hx2 pp0 pp1 pp2 hB hN en1;go_enter Tryz.func92,Tryz.ntmps92
 go_wp2_with fail;go_quiet (fail)
 rename_i nq
 have BQ:Hid (Below ((w.alloc (.cells #[.int .i64 n.kind,.string n.text,.int .i64 n.num,.slice (some ⟨fb,fo,none⟩) n.kids.length c9] 73)).alloc (.cells #[] 9)).heap.size ((w.alloc (.cells #[.int .i64 n.kind,.string n.text,.int .i64 n.num,.slice (some ⟨fb,fo,none⟩) n.kids.length c9] 73)).alloc (.cells #[] 9)) (((w.alloc (.cells #[.int .i64 n.kind,.string n.text,.int .i64 n.num,.slice (some ⟨fb,fo,none⟩) n.kids.length c9] 73)).alloc (.cells #[] 9)).drewN nq)):=j06 (Below.refl _ _) _
 have H3:Hid (Lv G (((w.alloc (.cells #[.int .i64 n.kind,.string n.text,.int .i64 n.num,.slice (some ⟨fb,fo,none⟩) n.kids.length c9] 73)).alloc (.cells #[] 9)).drewN nq) top env md last K sn cn sk ck sw cw):=H1.out.later BQ.out
 have T3:Hid (Tw G.p G.kb w (((w.alloc (.cells #[.int .i64 n.kind,.string n.text,.int .i64 n.num,.slice (some ⟨fb,fo,none⟩) n.kids.length c9] 73)).alloc (.cells #[] 9)).drewN nq)):=(Tw.of bz.out).trans (Tw.of BQ.out)
 have K53:=Hid.mk' (K51.out.later BQ.out)
 have O3:=Hid.mk' (O1.out.later BQ.out)
 have HXS:Hid (w.heap.size+1<(((w.alloc (.cells #[.int .i64 n.kind,.string n.text,.int .i64 n.num,.slice (some ⟨fb,fo,none⟩) n.kids.length c9] 73)).alloc (.cells #[] 9)).drewN nq).heap.size):=by have h1:=BQ.out.size;have h2:((w.alloc (.cells #[.int .i64 n.kind,.string n.text,.int .i64 n.num,.slice (some ⟨fb,fo,none⟩) n.kids.length c9] 73)).alloc (.cells #[] 9)).heap.size=w.heap.size+2:=(by simp);rw[h2] at h1;show _<_;omega
 generalize ((w.alloc (.cells #[.int .i64 n.kind,.string n.text,.int .i64 n.num,.slice (some ⟨fb,fo,none⟩) n.kids.length c9] 73)).alloc (.cells #[] 9)).drewN nq=X at H3 T3 K53 O3 HXS ⊢
 clear z0 z1 z2 z3 z4 y0 y1 y3 x3 q0 q1 q2 q3 bz H1 K51 O1 BQ;have hpX:G.p<X.heap.size:=H3.out.bx.lt
 have hkX:w.heap.size<X.heap.size:=K53.out.lt
 have hX0:G.w0.heap.size<=X.heap.size:=H3.out.bl.size
 have hfX:fb<X.heap.size:=by omega
 have hnX:nb<X.heap.size:=by omega
 have X3:Hid (X.cell? ⟨G.p,3,none⟩=some (.slice (some ⟨nb,no,none⟩) G.T.nodes.length G.d1)):=by rw[<-HEN.out];exact(H3.out.bx.cell 3).trans rfl
 have X4:Hid (X.cell? ⟨w.heap.size,3,none⟩=some (.slice (some ⟨fb,fo,none⟩) n.kids.length c9)):=(K53.out.cell 3).trans rfl
 have X5:Hid (X.cell? ⟨fb,fo+1,none⟩=some (.int .i64 (c:Int))):=(H3.out.bl.cell (p:=⟨fb,fo+1,none⟩) hfb).trans HP1.out
 have X6:Hid (X.cell? ⟨nb,no+c*4+3,none⟩=some (.slice sC en.kids.length cC)):=(H3.out.bl.cell (p:=⟨nb,no+c*4+3,none⟩) hnb).trans HG3.out
 have NA:Hid (Nums G.p G.kb X sA an.kids):=HKA.out.nums H3.out.bl hG.p hG.kb
 have NE:Hid (Nums G.p G.kb X sC en.kids):=HKC.out.nums H3.out.bl hG.p hG.kb
 go_wp2_with fail;have hR:=Hid.mk' (Rs.nil X)
 refine wp_region_held_drew (S:=(λw'=>Below X.heap.size X w')) (by kernel_rfl) ?_ (λhHeld=>?_)
 ·
  first|exact hR.out.l|exact hR.out.drew.l
 have hR:=Hid.mk' hR.out.drew
 refine wpr 1 32 ?_;simp only[zs];refine wpr 3 34 ?_;simp only[zs];refine wpr 4 35 ?_;simp only[zs];refine wpr 5 36 ?_;simp only[zs];refine wpr 6 37 ?_;simp only[zs];refine wpq (v:=?_) 7 38 rfl rfl ?_ ?_
 rotate_left 1
 ·
  intro w hSw;(try dsimp only at hSw);have x3:=lowc hSw X3.out hpX;go_simp<;>with_reducible rfl
 simp only[zs];refine wpr 8 39 ?_;simp only[zs];refine wpq (v:=?_) 9 40 rfl rfl ?_ ?_
 rotate_left 1
 ·
  intro w hSw;(try dsimp only at hSw);have x3:=lowc hSw X4.out hkX;go_simp<;>with_reducible rfl
 simp only[zs];refine wpr 10 41 ?_;simp only[zs];refine wpq (v:=?_) 11 42 rfl rfl ?_ ?_
 rotate_left 1
 ·
  intro w hSw;(try dsimp only at hSw);have x3:=lowc hSw X5.out hfX;go_simp<;>with_reducible rfl
 simp only[zs];refine wpr 12 43 ?_;simp only[zs];refine wpr 13 44 ?_;simp only[zs];refine wpq (v:=?_) 14 45 rfl rfl ?_ ?_
 rotate_left 1
 ·
  intro w hSw;(try dsimp only at hSw);have x3:=lowc hSw X6.out hnX;go_simp<;>with_reducible rfl
 simp only[zs];refine j76 λGd a0 hDg ha=>?_
 have st0:∀(ka:Nat) (sa:Option Addr) (ca:Nat) (sd:Option Addr) (cd:Nat) (g0:World),Hid (Rs X X.heap.size g0 [rI (.slice sd (an.kids.length+en.kids.length) cd) (an.kids++en.kids)])->(λw'=>Below X.heap.size X w') g0->Gd 0 #[true,true,true,true,true,true,true,true,true,true,true,true,true,true,true,true,true] ((((a0.put (some 31) (.slice (some ⟨ka,0,none⟩) 0 0)).put (some 33) (.slice sa an.kids.length ca)).put (some 46) (.slice sd (an.kids.length+en.kids.length) cd)).put (some 7) (.slice sd (an.kids.length+en.kids.length) cd)) g0:=by
  intro ka sa ca sd cd g0 hR hHeld
  rw[hDg,ha]
  simp only[zs];refine wpAnyH_done (by kernel_rfl) ?_ _
  have OB:=Hid.mk' (jcn (hR.out.at [] _))
  have BX:Hid (Below X.heap.size X g0):=hR.out.l
  clear hR hHeld;have hXs:w.heap.size+1<X.heap.size:=HXS.out
  have H4:Hid (Lv G g0 top env md last K sn cn sk ck sw cw):=H3.out.later BX.out
  have T4:Hid (Tw G.p G.kb w g0):=T3.out.trans (Tw.of BX.out)
  have K54:=Hid.mk' (K53.out.later BX.out)
  have OA:Hid (OS g0 (w.heap.size+1) (.slice (some ⟨w.heap.size+1,0,none⟩) 0 0) []):=O3.out.later BX.out
  have OB4:Hid (OI g0 (w.heap.size+2) (.slice sd (an.kids.length+en.kids.length) cd) (an.kids++en.kids)):=OB.out.mono (by omega)
  have hbo:(Value.slice sd (an.kids.length+en.kids.length) cd).ownBlock ≠ some (w.heap.size+1):=λe=>by have:=OB4.out.lt _ e;omega
  have HR0:Hid (Rs g0 (w.heap.size+1) g0 ([rS (.slice (some ⟨w.heap.size+1,0,none⟩) 0 0) [],rI (.slice sd (an.kids.length+en.kids.length) cd) (an.kids++en.kids)])):=Rs.start ((Owns.one (r:=rS (.slice (some ⟨w.heap.size+1,0,none⟩) 0 0) []) OA.out).join (Owns.one (r:=rI (.slice sd (an.kids.length+en.kids.length) cd) (an.kids++en.kids)) (OB4.out.mono (by omega))) (λb h1 h2=>by
   obtain⟨q,hq,e⟩:=j5j.1 h1
   simp at hq
   subst hq
   obtain⟨q2,hq2,e2⟩:=j5j.1 h2
   simp at hq2
   subst hq2
   have e:(some (w.heap.size+1):Option Nat)=some b:=e
   cases e
   exact hbo e2)) (by have:=K54.out.lt;have:=T4.out.size;have:=BX.out.size;omega)
  clear OA OB OB4 hbo H3 T3 K53 O3 X3 X4 X5 X6;have hpB:G.p<w.heap.size+1:=by omega
  have hkB:G.kb<w.heap.size+1:=by omega
  go_wp2_with fail;go_loopw [5,8] (λav kv wr=>∃(m:Nat) (so:Option Addr) (co:Nat) (L:List ByteArray),m<=(an.kids.length+en.kids.length)/\kv=.int .i64 m/\av=.slice so L.length co/\Hid (L.length=m)/\Hid (j24 (Dg G) G.T (an.kids++en.kids) []=j24 (Dg G) G.T ((an.kids++en.kids).drop m) L)/\Hid (Rs wr (w.heap.size+1) wr [rS (.slice so L.length co) L,rI (.slice sd (an.kids.length+en.kids.length) cd) (an.kids++en.kids)])/\Hid (Lv G wr top env md last K sn cn sk ck sw cw)/\Hid (Blk wr w.heap.size #[.int .i64 n.kind,.string n.text,.int .i64 n.num,.slice (some ⟨fb,fo,none⟩) n.kids.length c9] 73)/\Hid (Tw G.p G.kb w wr)) (λ_ kv _=>(an.kids.length+en.kids.length)-(intOf kv).toNat)
  case atStart=>exact⟨0,_,_,[],Nat.zero_le _,rfl,rfl,rfl,by rw[List.drop_zero];rfl,HR0,H4,K54,T4⟩
  clear HR0 H4 K54 T4 BX;obtain⟨m,so,co,L,hm,rfl,rfl,hLm,hCk,HR,HL,HKn,HT⟩:=hrel
  obtain⟨z0,z1,z2,z3,z4⟩:=Blk.four' HKn.out
  have hLl:L.length<=8000:=by have:=hLm.out;omega
  by_cases hlt:m<(an.kids.length+en.kids.length)
  ·
   obtain⟨xi,hxi⟩:∃x,(an.kids++en.kids)[m]?=some x:=⟨(an.kids++en.kids)[m]'(by simpa using hlt),by simp[hlt]⟩
   obtain⟨x,xn,rfl,hvx⟩:=HN.out _ (List.mem_of_getElem? hxi)
   have hdr:Hid ((an.kids++en.kids).drop m=(x:Int) :: (an.kids++en.kids).drop (m+1)):=by
    show _=_
    rw[List.drop_eq_getElem_cons (by simpa using hlt)]
    congr 1
    exact(List.getElem?_eq_some_iff.1 hxi).2
   obtain⟨gb,go,hsd,hgb,_,v0⟩:=(OI.nums2 (p:=G.p) (q:=G.kb) (jcn (HR.out.at [_] [])) (by simp) hpB hkB).get hxi
   obtain⟨nb2,no2,s92,c92,en2,_,_,f1,_,_,_⟩:=hG.node hvx.at_
   obtain⟨rfl,rfl⟩:nb2=nb/\no2=no:=by rw[HEN.out] at en2;cases en2;exact⟨rfl,rfl⟩
   subst hsd
   have x3:wr.cell? ⟨G.p,3,none⟩=some (.slice (some ⟨nb2,no2,none⟩) G.T.nodes.length G.d1):=by rw[<-HEN.out];exact(HL.out.bx.cell 3).trans rfl
   have q1:=(HL.out.bl.cell (p:=⟨nb2,no2+x*4+1,none⟩) hnb).trans f1
   have HX:Hid (nd G.T (x:Int)=xn):=j0j hvx.at_
   have mI:(m:Int)<(((an.kids.length+en.kids.length):Nat):Int):=by omega
   have xI:(x:Int)<(G.T.nodes.length:Int):=by have:=(List.getElem?_eq_some_iff.1 hvx.at_).1;omega
   clear hxi hvx f1 en2 hgb;go_wp2_with fail;go_quiet (fail)
   rename_i nq
   have H5:Hid (Lv G (wr.drewN nq) top env md last K sn cn sk ck sw cw):=HL.out.later (j06 (Below.refl _ _) _)
   have T5:Hid (Tw G.p G.kb wr (wr.drewN nq)):=Tw.of (j06 (Below.refl _ _) _)
   have BW:Hid (Below wr.heap.size wr (wr.drewN nq)):=j06 (Below.refl _ _) _
   generalize wr.drewN nq=Y at H5 T5 BW ⊢
   go_wp2_with fail;refine(j40 hG H5.out 1 xn.text).mono ?_
   rintro e w6 ⟨rfl,hb6⟩
   have H6:Hid (Lv G w6 top env md last K sn cn sk ck sw cw):=H5.out.later hb6
   have B6:Hid (Below wr.heap.size wr w6):=BW.out.trans (hb6.mono BW.out.size)
   have T6:Hid (Tw G.p G.kb w w6):=HT.out.trans (Tw.of B6.out)
   obtain⟨dk,hdk⟩:∃k,Hid (Dg G 1 xn.text=k):=⟨_,rfl⟩
   rw[show dkL (j19 G.A G.B G.C 1) xn.text=dk from hdk.out]
   have v1:=(B6.out.cell (p:=⟨gb,go+m,none⟩) (by have:=(HR.out.at [_] []).lt gb rfl;exact this.2)).trans v0
   clear hb6 H5 T5 BW z0 z1 z2 z3 z4 v0 q1 x3;by_cases h0:dk=0
   ·
    subst h0
    have hEr:Hid (ckEa (Dg G) G.T K (i:Int) g=.error (3,(x:Int))):=by rw[HB.out,hCk.out,hdr.out];simp[Hid,j24,HX.out,hdk.out]
    go_wp2_with fail;refine(j0f hG H6.out 3 (x:Int) (by omega)).mono ?_
    rintro e w7 ⟨rfl,hd,ht⟩
    go_wp2_with fail;refine bq (.tuple #[]) ?_
    exact j2n.bad hEr.out hd (T6.out.trans ht)
   have t0:(dk ==0)=false:=by simp[h0]
   go_wp2_with fail;refine(j3t G.p G.kb so co L xn.text _ ((OS.strs2 (j7g (HR.out.at [] [_])) rfl hpB hkB).later B6.out) (by omega)).mono ?_
   rintro e w7 ⟨rfl,hq⟩
   rw[hq]
   clear hq w7;cases hi:inL xn.text L
   ·
    have hCk2:Hid (j24 (Dg G) G.T (an.kids++en.kids) []=j24 (Dg G) G.T ((an.kids++en.kids).drop (m+1)) (L++[xn.text])):=by rw[hCk.out,hdr.out];simp[Hid,j24,HX.out,hdk.out,h0,hi]
    have hR5:Hid (Rs (w6.alloc (.cells #[.string xn.text] 9)) (w.heap.size+1) (w6.alloc (.cells #[.string xn.text] 9)) ([]++rS (.slice so L.length co) L :: [rI (.slice (some ⟨gb,go,none⟩) (an.kids.length+en.kids.length) cd) (an.kids++en.kids)])):=Rs.start ((HR.out.o.later B6.out).later (j00 (Below.refl _ _) _)) (by have:=HR.out.s;have:=B6.out.size;simp;omega)
    have H7:Hid (Lv G (w6.alloc (.cells #[.string xn.text] 9)) top env md last K sn cn sk ck sw cw):=H6.out.later (j00 (Below.refl _ _) _)
    have K57:=Hid.mk' ((HKn.out.later B6.out).alloc (.cells #[.string xn.text] 9))
    have T7:=Hid.mk' (T6.out.trans (Tw.of (j00 (Below.refl w6.heap.size w6) (.cells #[.string xn.text] 9))))
    have hl1:Hid ((L++[xn.text]).length=m+1):=by show _=_;simp[hLm.out]
    obtain⟨L2,hL2⟩:∃L2,Hid (L++[xn.text]=L2):=⟨_,rfl⟩
    rw[hL2.out] at hCk2 hl1
    clear HR HL HKn HT B6 T6 H6 hCk hi;go_wp2_with (at_builtin;refine j37 [] [rI (.slice (some ⟨gb,go,none⟩) (an.kids.length+en.kids.length) cd) (an.kids++en.kids)] hR5.out rfl _ _ 53 16 rfl Tryz.underlying53 hiS hzS hsS hbS rfl (Nat.succ_pos _) rfl (some ⟨w6.heap.size,0,none⟩) 1 1 [.string xn.text] rfl rfl (srcB (Blk.new w6 #[.string xn.text] 9)) (λu hu=>by simp at hu;subst hu;rfl) (by show _<=_;simp[rS,rI];unfold maxLen;omega) (by simp[rS,rI];omega) L2.length (by rw[<-hL2.out];simp[rS]) (λv=>rS v L2) (λ_=>by rw[<-hL2.out];simp[rS]) ?_)
    intro s8 c8 w8 hR8
    have HR8:Hid (Rs w8 (w.heap.size+1) w8 [rS (.slice s8 L2.length c8) L2,rI (.slice (some ⟨gb,go,none⟩) (an.kids.length+en.kids.length) cd) (an.kids++en.kids)]):=Rs.start hR8.o hR8.s
    have H8:Hid (Lv G w8 top env md last K sn cn sk ck sw cw):=H7.out.low OL.out hR8.l hpB hkB (by omega)
    have K58:Hid (Blk w8 w.heap.size #[.int .i64 n.kind,.string n.text,.int .i64 n.num,.slice (some ⟨fb,fo,none⟩) n.kids.length c9] 73):=hR8.blk K57.out (Nat.lt_succ_self _)
    have T8:Hid (Tw G.p G.kb w w8):=T7.out.low hR8.l (Nat.le_succ _)
    clear hR8 hR5 H7 K57 T7 hL2;go_wp2_with fail;go_roundw
    case rel=>exact⟨m+1,s8,c8,L2,by omega,by go_num,rfl,hl1,hCk2,HR8,H8,K58,T8⟩
    case measure=>simp[intOf];omega
   have hEr:Hid (ckEa (Dg G) G.T K (i:Int) g=.error (2,(x:Int))):=by rw[HB.out,hCk.out,hdr.out];simp[Hid,j24,HX.out,hdk.out,h0,hi]
   clear hi;go_wp2_with fail;refine(j0f hG H6.out 2 (x:Int) (by omega)).mono ?_
   rintro e w7 ⟨rfl,hd,ht⟩
   go_wp2_with fail;refine bq (.tuple #[]) ?_
   exact j2n.bad hEr.out hd (T6.out.trans ht)
  have hmm:m=(an.kids.length+en.kids.length):=by omega
  subst hmm
  obtain⟨R,hRR⟩:∃R,Hid (L.take an.kids.length=R):=⟨_,rfl⟩
  have hRl:Hid (R.length=an.kids.length):=by rw[<-hRR.out];have:=hLm.out;show _=_;simp;omega
  have hEr:Hid (ckEa (Dg G) G.T K (i:Int) g=g R K):=by
   rw[HB.out,hCk.out,List.drop_eq_nil_of_le (by simp)]
   show _=_
   simp only[j24]
   rw[hRR.out]
  have t2:decide ((((an.kids.length+en.kids.length):Nat):Int)<(((an.kids.length+en.kids.length):Nat):Int))=false:=by simp
  have x8:wr.cell? ⟨G.p,8,none⟩=some (.bool md.each):=(HL.out.bx.cell 8).trans rfl
  have y8:=HL.out.bx.frozen 8
  have x9:wr.cell? ⟨G.p,9,none⟩=some (.bool (md.each || md.hears)):=(HL.out.bx.cell 9).trans rfl
  have y9:=HL.out.bx.frozen 9
  have ht:=(Tw.set G.p G.kb wr 8 (.bool true)).trans (Tw.set G.p G.kb _ 9 (.bool true))
  have HZ:=Hid.mk' ((HL.out.z.set8 hG (.bool true)).set9 hG (.bool true))
  have N1:=Hid.mk' (HL.out.n.two ht)
  have N2:=Hid.mk' (HL.out.k.two ht)
  have K55:=Hid.mk' (HKn.out.tw ht (by omega) (by omega))
  have SO:Hid (OS ((wr.setCell ⟨G.p,8,none⟩ (.bool true)).setCell ⟨G.p,9,none⟩ (.bool true)) (w.heap.size+1) (.slice so L.length co) L):=OS.tw (j7g (HR.out.at [] [_])) ht hpB hkB
  have T5:=Hid.mk' (HT.out.trans ht)
  have hla:an.kids.length<=L.length:=by have:=hLm.out;omega
  have SL:=j2k 53 Tryz.htS jd5 so L.length co an.kids.length hla SO.out.cap
  obtain⟨Y,hY⟩:∃Y,(wr.setCell ⟨G.p,8,none⟩ (.bool true)).setCell ⟨G.p,9,none⟩ (.bool true)=Y:=⟨_,rfl⟩
  rw[hY] at HZ N1 N2 K55 SO T5
  have NRs:Hid (Strs G.p G.kb Y so R):=by rw[<-hRR.out];exact(SO.out.strs2 rfl hpB hkB).take _
  clear ht hla HL HKn HR HT z0 z1 z2 z3 z4 hCk;have hR5:Hid (Rs Y Y.heap.size (Y.alloc (.cells #[] 9)) ([]++rS (.slice (some ⟨Y.heap.size,0,none⟩) 0 0) [] :: [])):=Hid.mk' ((Rs.nil Y).ins [] [] (j00 (Below.refl _ _) _) (jen Y))
  go_wp2_with (at_builtin;refine j37 [] [] hR5.out rfl _ _ 53 16 rfl Tryz.underlying53 hiS hzS hsS hbS rfl (Nat.succ_pos _) rfl so an.kids.length co (R.map Value.string) rfl (by simp[rS,hRl.out]) (srcS hRl.out (NRs.out.later hR5.out.l)) (j43 _) (by show _<=_;simp[rS,rI];unfold maxLen;omega) (by simp[rS,rI];omega) an.kids.length (by simp[rS]) (λv=>rS v R) (λ_=>by simp[rS,hRl.out]) ?_)
  intro s6 c6 w6 hR6
  have hbx:=HZ.out.bx.later hR6.l
  have x10:w6.cell? ⟨G.p,10,none⟩=some (.slice sw md.wth.length cw):=(hbx.cell 10).trans rfl
  have y10:=hbx.frozen 10
  clear hbx;have HZ6:=(HZ.out.later hR6.l).set10 hG (.slice s6 an.kids.length c6)
  have ht:=Tw.set G.p G.kb w6 10 (.slice s6 an.kids.length c6)
  have hpY:G.p<Y.heap.size:=HZ.out.bx.lt
  have hkY:G.kb<Y.heap.size:=HZ.out.kl
  have W6:=(OS.tw (j7g (hR6.at [] [])) ht hpY hkY).strs2 hRl.out hpY hkY
  have HL6:Hid (Lv G (w6.setCell ⟨G.p,10,none⟩ (.slice s6 an.kids.length c6)) top env {md with each:=true,wth:=R} last K sn cn sk ck s6 c6):=by
   refine Lz.lv (m:=env.length) ?_ rfl ((N1.out.later hR6.l).two ht) ((N2.out.later hR6.l).two ht) W6
   have e:({md with each:=true,wth:=R}:Md).wth.length=an.kids.length:=hRl.out
   rw[e]
   exact HZ6
  have T6:=Hid.mk' (T5.out.trans ((Tw.of hR6.l).trans ht))
  have K56:=Hid.mk' ((K55.out.later hR6.l).tw ht (by omega) (by omega))
  clear hR6 HZ6 ht W6 hpY hkY HZ N1 N2 SO T5 K55 hY;obtain⟨Y6,hY6⟩:∃Y,w6.setCell ⟨G.p,10,none⟩ (.slice s6 an.kids.length c6)=Y:=⟨_,rfl⟩
  rw[hY6] at HL6 T6 K56
  obtain⟨z0,z1,z2,z3,z4⟩:=Blk.four' K56.out
  have q2:=(HL6.out.bl.cell (p:=⟨fb,fo+2,none⟩) hfb).trans HP2.out
  clear SL x8 x9 y8 y9;go_wp2_with fail;refine(HBL.out R s6 c6 _ (by rw[hRl.out];omega) HL6.out).mono ?_
  rintro e w7 hS7
  have T7:Hid (Tw G.p G.kb w w7):=T6.out.trans hS7.2
  obtain⟨⟨rfl,hm7⟩,_⟩:=hS7
  have hcell:∀o,o<16->(∃u,w7.cell? ⟨G.p,o,none⟩=some u)/\w7.frozen? ⟨G.p,o,none⟩=false:=by
   intro o ho
   cases hr:g R K with
   | error q=>obtain⟨c,nq⟩:=q;rw[hr] at hm7;exact Dd.cell ⟨c,nq,hm7⟩ ho
   | ok Kn =>
    rw[hr] at hm7
    obtain⟨sn2,cn2,sk2,ck2,sw2,cw2,hl⟩:=hm7
    exact LdB.cell (g:=λ_ _ _ _=> .error (0,0)) (own:=false) (b:=env.length) (R:=.ok Kn) (ks:=[]) (Or.inl ⟨env,Kn,env.length,⟨_,_,_,_,_,_,hl⟩,FitL.nil _,Nat.le_refl _,rfl⟩) ho
  obtain⟨⟨u8,x8⟩,y8⟩:=hcell 8 (by decide)
  obtain⟨⟨u9,x9⟩,y9⟩:=hcell 9 (by decide)
  obtain⟨⟨u10,x10'⟩,y10'⟩:=hcell 10 (by decide)
  have HM7:=Hid.mk' hm7
  clear hm7 hcell z0 z1 z2 z3 z4 q2 HL6 T6 K56 hY6 x10 y10;go_wp2_with fail;refine bq (.tuple #[]) ?_
  have ht:=T7.out.trans (((Tw.set G.p G.kb w7 8 (.bool false)).trans (Tw.set G.p G.kb _ 9 (.bool false))).trans (Tw.set G.p G.kb _ 10 (.slice none 0 0)))
  have ht2:=((Tw.set G.p G.kb w7 8 (.bool false)).trans (Tw.set G.p G.kb _ 9 (.bool false))).trans (Tw.set G.p G.kb _ 10 (.slice none 0 0))
  have hm7:=HM7.out
  cases hr:g R K with
  | error q=>obtain⟨c,nq⟩:=q;rw[hr] at hm7;exact j2n.bad (by rw[hEr.out,hr]) (Dd.set hG (Dd.set hG (Dd.set hG hm7 (by decide) (by decide) (by decide) _) (by decide) (by decide) (by decide) _) (by decide) (by decide) (by decide) _) ht
  | ok Kn =>
   rw[hr] at hm7
   obtain⟨sn2,cn2,sk2,ck2,sw2,cw2,hl⟩:=hm7
   refine j2n.good (by rw[hEr.out,hr]) ⟨sn2,cn2,sk2,ck2,none,0,Lz.lv (m:=env.length) ?_ rfl (hl.n.two ht2) (hl.k.two ht2) (by rw[hmw];exact Or.inl rfl)⟩ ht
   have:=((hl.z.set8 hG (.bool false)).set9 hG (.bool false)).set10 hG (.slice none 0 0)
   rw[hmw,he,hh]
   exact this
 have st1:∀(ka:Nat) (sa:Option Addr) (ca:Nat) (g0:World),Hid (Rs X X.heap.size g0 [rI (.slice sa an.kids.length ca) an.kids])->(λw'=>Below X.heap.size X w') g0->Gd 2 #[true,true,true,true,true,true,true,true,true,true,true,true,true,true,true,false,false] ((a0.put (some 31) (.slice (some ⟨ka,0,none⟩) 0 0)).put (some 33) (.slice sa an.kids.length ca)) g0:=by
  intro ka sa ca g0 hR hHeld
  rw[hDg,ha]
  simp only[zs];refine wpy 15 λK hK=>?_
  refine j3k [] [] hR.out rfl (d0:=(some 46)) rfl (.tmp 33) (.tmp 45) 26 8 rfl Tryz.underlying26 hiI hzI hsI hbI rfl (Nat.succ_pos _) rfl sC en.kids.length cC (en.kids.map (Value.int .i64)) rfl (by simp[rS,rI]) (srcI (by simp) (NE.out.later hR.out.l)) (j4r _) (by show _<=_;simp[rS,rI];unfold maxLen;omega) (by simp[rS,rI];omega) (an.kids.length+en.kids.length) (by simp[rS,rI]) (λv=>rI v (an.kids++en.kids)) (λ_=>by simp[rS,rI]) ?_
  intro sd cd g1 hR'
  have hR:Hid (Rs X X.heap.size g1 [rI (.slice sd (an.kids.length+en.kids.length) cd) (an.kids++en.kids)]):=hR'
  clear hR';refine hK.out _ _ ?_ (λhHeld=>?_)
  ·
   first|exact hR.out.l|exact hR.out.drew.l
  clear hK K;try simp only[zs]
  refine wpr 16 7 ?_;simp only[zs];exact j20 hDg (st0 ka sa ca sd cd _ hR hHeld) rfl (by kernel_rfl) (by rw[ha]<;>rfl)
 have st2:∀(ka:Nat) (g0:World),Hid (Rs X X.heap.size g0 [rI (.slice (some ⟨ka,0,none⟩) 0 0) []])->(λw'=>Below X.heap.size X w') g0->Gd 3 #[true,true,false,true,true,true,true,true,true,true,true,true,true,true,true,false,false] (a0.put (some 31) (.slice (some ⟨ka,0,none⟩) 0 0)) g0:=by
  intro ka g0 hR hHeld
  rw[hDg,ha]
  simp only[zs];refine wpy 2 λK hK=>?_
  refine j3k [] [] hR.out rfl (d0:=(some 33)) rfl (.tmp 31) (.tmp 32) 26 8 rfl Tryz.underlying26 hiI hzI hsI hbI rfl (Nat.succ_pos _) rfl sA an.kids.length cA (an.kids.map (Value.int .i64)) rfl (by simp[rS,rI]) (srcI (by simp) (NA.out.later hR.out.l)) (j4r _) (by show _<=_;simp[rS,rI];unfold maxLen;omega) (by simp[rS,rI];omega) an.kids.length (by simp[rS,rI]) (λv=>rI v an.kids) (λ_=>by simp[rS,rI]) ?_
  intro sa ca g2 hR'
  have hR:Hid (Rs X X.heap.size g2 [rI (.slice sa an.kids.length ca) an.kids]):=hR'
  clear hR';refine hK.out _ _ ?_ (λhHeld=>?_)
  ·
   first|exact hR.out.l|exact hR.out.drew.l
  clear hK K;exact j20 hDg (st1 ka sa ca _ hR hHeld) rfl (by kernel_rfl) (by rw[ha]<;>rfl)
 rw[hDg,ha]
 try simp only[zs]
 refine wpy 0 λK hK=>?_
 refine j2s [] [] hR.out rfl (d0:=(some 31)) rfl 26 3 Tryz.underlying26 hiI rfl (λv=>rI v []) 1 (λ_=>rfl) ?_
 intro ka g3 hR'
 have hR:Hid (Rs X X.heap.size g3 [rI (.slice (some ⟨ka,0,none⟩) 0 0) []]):=hR'
 clear hR';refine hK.out _ _ ?_ (λhHeld=>?_)
 ·
  first|exact hR.out.l|exact hR.out.drew.l
 clear hK K;exact j20 hDg (st2 ka _ hR hHeld) rfl (by kernel_rfl) (by rw[ha]<;>rfl)
end
end
end Go.Proofs.YtjbbagcpcepkoaaGreatDoor
