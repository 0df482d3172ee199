import Derived.Test.YtjbbagcpcepkoaaGreatDoorSf20
namespace Go.Proofs.YtjbbagcpcepkoaaGreatDoor
set_option maxRecDepth 100000
set_option maxHeartbeats 64000000
set_option linter.unusedVariables false
set_option linter.unusedSimpArgs false
section
open Go.RowKit Go.Maps Go.WideMaps
def alw (md:Md) (kind:Int) (lst:Bool):Bool:=if kind=5\/kind=11\/kind=14\/kind=22\/kind=23\/kind=24 then md.each else if kind=18\/kind=20 then !md.fn&&!(md.each || md.hears) else if kind=26 then lst else true
theorem jcc {md:Md} {kind:Int} {lst:Bool} (h:12<=kind):alw md kind lst=stands md kind lst:=by
 unfold alw stands
 by_cases h1:kind=18\/kind=20
 ·
  rw[if_neg (by omega),if_pos h1,if_pos h1]
 rw[if_neg h1]
 by_cases h2:kind=14\/kind=22\/kind=23\/kind=24
 ·
  rw[if_pos (by omega),if_neg h1,if_pos h2]
 rw[if_neg (by omega),if_neg h1,if_neg h2]
theorem jkz (W:World):(binOp .neq 91 (.map none) (.map none)).run Tryz.prog W=.ok (.bool false) W:=by kernel_rfl
theorem jkd (W:World):(binOp .eql 91 (.map none) (.map none)).run Tryz.prog W=.ok (.bool true) W:=by kernel_rfl
theorem jju (b:Nat) (W:World):(binOp .neq 91 (.map (some b)) (.map none)).run Tryz.prog W=.ok (.bool true) W:=by kernel_rfl
theorem jjx (b:Nat) (W:World):(binOp .eql 91 (.map (some b)) (.map none)).run Tryz.prog W=.ok (.bool false) W:=by kernel_rfl
section
variable {G:Pd} {w w':World} {km ko:Nat} {md:Md} {av:Value} {lst hr:Bool} {tk:Int}
theorem je2 (hea:md.each=false) (kind:Int) (hk:kind=18\/kind=20->tk=(if md.fn=true then 33 else 34)/\hr=md.hears) :
  Calls Tryz.prog 110 #[.agg #[addF km,j09 km ko,.int .i64 tk,.bool lst,.bool hr,.map none],.int .i64 kind] w λe w'=>e=.returned (.bool (alw md kind lst))/\Below w.heap.size w w':=by
 have B1:Hid (Below w.heap.size w (w.alloc (.cells #[addF km,j09 km ko,.int .i64 tk,.bool lst,.bool hr,.map none] 139))):=j00 (Below.refl _ _) _
 have kp:=Blk.new w #[addF km,j09 km ko,.int .i64 tk,.bool lst,.bool hr,.map none] 139
 have p1:_=some (Value.int .i64 tk):=(kp.cell 2).trans rfl
 have p2:_=some (Value.bool lst):=(kp.cell 3).trans rfl
 have p3:_=some (Value.bool hr):=(kp.cell 4).trans rfl
 have p4:_=some (Value.map none):=(kp.cell 5).trans rfl
 have hne:=jkz
 have heq:=jkd
 clear kp;by_cases hq:kind=5
 ·
  have hR:Hid (alw md kind lst=false):=by show _=_;unfold alw;rw[if_pos (by omega)];exact hea
  have t5:(kind ==5)=true:=by simp[hq]
  clear hk hq hea;go_enter Tryz.func110,Tryz.ntmps110
  go_wp2_with fail;go_ret;rw[hR.out]
  exact⟨rfl,B1.out⟩
 by_cases hq:kind=11
 ·
  have hR:Hid (alw md kind lst=false):=by show _=_;unfold alw;rw[if_pos (by omega)];exact hea
  have t5:(kind ==5)=false:=by simp;omega
  have t11:(kind ==11)=true:=by simp[hq]
  clear hk hq hea;go_enter Tryz.func110,Tryz.ntmps110
  go_wp2_with fail;go_ret;rw[hR.out]
  exact⟨rfl,B1.out⟩
 by_cases hq:kind=14
 ·
  have hR:Hid (alw md kind lst=false):=by show _=_;unfold alw;rw[if_pos (by omega)];exact hea
  have t5:(kind ==5)=false:=by simp;omega
  have t11:(kind ==11)=false:=by simp;omega
  have t14:(kind ==14)=true:=by simp[hq]
  clear hk hq hea;go_enter Tryz.func110,Tryz.ntmps110
  go_wp2_with fail;go_ret;rw[hR.out]
  exact⟨rfl,B1.out⟩
 by_cases hq:kind=22
 ·
  have hR:Hid (alw md kind lst=false):=by show _=_;unfold alw;rw[if_pos (by omega)];exact hea
  have t5:(kind ==5)=false:=by simp;omega
  have t11:(kind ==11)=false:=by simp;omega
  have t14:(kind ==14)=false:=by simp;omega
  have t22:(kind ==22)=true:=by simp[hq]
  clear hk hq hea;go_enter Tryz.func110,Tryz.ntmps110
  go_wp2_with fail;go_ret;rw[hR.out]
  exact⟨rfl,B1.out⟩
 by_cases hq:kind=23
 ·
  have hR:Hid (alw md kind lst=false):=by show _=_;unfold alw;rw[if_pos (by omega)];exact hea
  have t5:(kind ==5)=false:=by simp;omega
  have t11:(kind ==11)=false:=by simp;omega
  have t14:(kind ==14)=false:=by simp;omega
  have t22:(kind ==22)=false:=by simp;omega
  have t23:(kind ==23)=true:=by simp[hq]
  clear hk hq hea;go_enter Tryz.func110,Tryz.ntmps110
  go_wp2_with fail;go_ret;rw[hR.out]
  exact⟨rfl,B1.out⟩
 by_cases hq:kind=24
 ·
  have hR:Hid (alw md kind lst=false):=by show _=_;unfold alw;rw[if_pos (by omega)];exact hea
  have t5:(kind ==5)=false:=by simp;omega
  have t11:(kind ==11)=false:=by simp;omega
  have t14:(kind ==14)=false:=by simp;omega
  have t22:(kind ==22)=false:=by simp;omega
  have t23:(kind ==23)=false:=by simp;omega
  have t24:(kind ==24)=true:=by simp[hq]
  clear hk hq hea;go_enter Tryz.func110,Tryz.ntmps110
  go_wp2_with fail;go_ret;rw[hR.out]
  exact⟨rfl,B1.out⟩
 by_cases hq:kind=18
 ·
  obtain⟨e1,e2⟩:=hk (by omega)
  have hR0:alw md kind lst=(!md.fn&&!(false || md.hears)):=by unfold alw;rw[if_neg (by omega),if_pos (by omega),hea]
  have t5:(kind ==5)=false:=by simp;omega
  have t11:(kind ==11)=false:=by simp;omega
  have t14:(kind ==14)=false:=by simp;omega
  have t22:(kind ==22)=false:=by simp;omega
  have t23:(kind ==23)=false:=by simp;omega
  have t24:(kind ==24)=false:=by simp;omega
  have t18:(kind ==18)=true:=by simp[hq]
  rcases md with ⟨m1,m2,m3,m4⟩
  simp only at e1 e2 hR0 hea
  clear hk hq;subst e2 hea
  cases m4<;>cases hr
  all_goals
   simp only[if_true,if_false,Bool.false_eq_true] at e1
   subst e1
   have hR:=Hid.mk' hR0
   clear hR0;go_enter Tryz.func110,Tryz.ntmps110
   go_wp2_with fail;go_ret;rw[hR.out]
   exact⟨rfl,B1.out⟩
 by_cases hq:kind=20
 ·
  obtain⟨e1,e2⟩:=hk (by omega)
  have hR0:alw md kind lst=(!md.fn&&!(false || md.hears)):=by unfold alw;rw[if_neg (by omega),if_pos (by omega),hea]
  have t5:(kind ==5)=false:=by simp;omega
  have t11:(kind ==11)=false:=by simp;omega
  have t14:(kind ==14)=false:=by simp;omega
  have t22:(kind ==22)=false:=by simp;omega
  have t23:(kind ==23)=false:=by simp;omega
  have t24:(kind ==24)=false:=by simp;omega
  have t18:(kind ==18)=false:=by simp;omega
  have t20:(kind ==20)=true:=by simp[hq]
  rcases md with ⟨m1,m2,m3,m4⟩
  simp only at e1 e2 hR0 hea
  clear hk hq;subst e2 hea
  cases m4<;>cases hr
  all_goals
   simp only[if_true,if_false,Bool.false_eq_true] at e1
   subst e1
   have hR:=Hid.mk' hR0
   clear hR0;go_enter Tryz.func110,Tryz.ntmps110
   go_wp2_with fail;go_ret;rw[hR.out]
   exact⟨rfl,B1.out⟩
 by_cases hq:kind=26
 ·
  have hR:Hid (alw md kind lst=lst):=by show _=_;unfold alw;rw[if_neg (by omega),if_neg (by omega),if_pos hq]
  have t5:(kind ==5)=false:=by simp;omega
  have t11:(kind ==11)=false:=by simp;omega
  have t14:(kind ==14)=false:=by simp;omega
  have t22:(kind ==22)=false:=by simp;omega
  have t23:(kind ==23)=false:=by simp;omega
  have t24:(kind ==24)=false:=by simp;omega
  have t18:(kind ==18)=false:=by simp;omega
  have t20:(kind ==20)=false:=by simp;omega
  have t26:(kind ==26)=true:=by simp[hq]
  clear hk hq hea;go_enter Tryz.func110,Tryz.ntmps110
  go_wp2_with fail;go_ret;rw[hR.out]
  exact⟨rfl,B1.out⟩
 have hR:Hid (alw md kind lst=true):=by show _=_;unfold alw;rw[if_neg (by omega),if_neg (by omega),if_neg (by omega)]
 have t5:(kind ==5)=false:=by simp;omega
 have t11:(kind ==11)=false:=by simp;omega
 have t14:(kind ==14)=false:=by simp;omega
 have t22:(kind ==22)=false:=by simp;omega
 have t23:(kind ==23)=false:=by simp;omega
 have t24:(kind ==24)=false:=by simp;omega
 have t18:(kind ==18)=false:=by simp;omega
 have t20:(kind ==20)=false:=by simp;omega
 have t26:(kind ==26)=false:=by simp;omega
 clear hk hea;go_enter Tryz.func110,Tryz.ntmps110
 go_wp2_with fail;go_ret;rw[hR.out]
 exact⟨rfl,B1.out⟩
theorem jcl {ba:Nat} (hea:md.each=true) (kind:Int) (hk:kind=18\/kind=20->tk=(if md.fn=true then 33 else 34)/\hr=md.hears) :
  Calls Tryz.prog 110 #[.agg #[addF km,j09 km ko,.int .i64 tk,.bool lst,.bool hr,.map (some ba)],.int .i64 kind] w λe w'=>e=.returned (.bool (alw md kind lst))/\Below w.heap.size w w':=by
 have B1:Hid (Below w.heap.size w (w.alloc (.cells #[addF km,j09 km ko,.int .i64 tk,.bool lst,.bool hr,.map (some ba)] 139))):=j00 (Below.refl _ _) _
 have kp:=Blk.new w #[addF km,j09 km ko,.int .i64 tk,.bool lst,.bool hr,.map (some ba)] 139
 have p1:_=some (Value.int .i64 tk):=(kp.cell 2).trans rfl
 have p2:_=some (Value.bool lst):=(kp.cell 3).trans rfl
 have p3:_=some (Value.bool hr):=(kp.cell 4).trans rfl
 have p4:_=some (Value.map (some ba)):=(kp.cell 5).trans rfl
 have hne:=jju ba
 have heq:=jjx ba
 clear kp;by_cases hq:kind=5
 ·
  have hR:Hid (alw md kind lst=true):=by show _=_;unfold alw;rw[if_pos (by omega)];exact hea
  have t5:(kind ==5)=true:=by simp[hq]
  clear hk hq hea;go_enter Tryz.func110,Tryz.ntmps110
  go_wp2_with fail;go_ret;rw[hR.out]
  exact⟨rfl,B1.out⟩
 by_cases hq:kind=11
 ·
  have hR:Hid (alw md kind lst=true):=by show _=_;unfold alw;rw[if_pos (by omega)];exact hea
  have t5:(kind ==5)=false:=by simp;omega
  have t11:(kind ==11)=true:=by simp[hq]
  clear hk hq hea;go_enter Tryz.func110,Tryz.ntmps110
  go_wp2_with fail;go_ret;rw[hR.out]
  exact⟨rfl,B1.out⟩
 by_cases hq:kind=14
 ·
  have hR:Hid (alw md kind lst=true):=by show _=_;unfold alw;rw[if_pos (by omega)];exact hea
  have t5:(kind ==5)=false:=by simp;omega
  have t11:(kind ==11)=false:=by simp;omega
  have t14:(kind ==14)=true:=by simp[hq]
  clear hk hq hea;go_enter Tryz.func110,Tryz.ntmps110
  go_wp2_with fail;go_ret;rw[hR.out]
  exact⟨rfl,B1.out⟩
 by_cases hq:kind=22
 ·
  have hR:Hid (alw md kind lst=true):=by show _=_;unfold alw;rw[if_pos (by omega)];exact hea
  have t5:(kind ==5)=false:=by simp;omega
  have t11:(kind ==11)=false:=by simp;omega
  have t14:(kind ==14)=false:=by simp;omega
  have t22:(kind ==22)=true:=by simp[hq]
  clear hk hq hea;go_enter Tryz.func110,Tryz.ntmps110
  go_wp2_with fail;go_ret;rw[hR.out]
  exact⟨rfl,B1.out⟩
 by_cases hq:kind=23
 ·
  have hR:Hid (alw md kind lst=true):=by show _=_;unfold alw;rw[if_pos (by omega)];exact hea
  have t5:(kind ==5)=false:=by simp;omega
  have t11:(kind ==11)=false:=by simp;omega
  have t14:(kind ==14)=false:=by simp;omega
  have t22:(kind ==22)=false:=by simp;omega
  have t23:(kind ==23)=true:=by simp[hq]
  clear hk hq hea;go_enter Tryz.func110,Tryz.ntmps110
  go_wp2_with fail;go_ret;rw[hR.out]
  exact⟨rfl,B1.out⟩
 by_cases hq:kind=24
 ·
  have hR:Hid (alw md kind lst=true):=by show _=_;unfold alw;rw[if_pos (by omega)];exact hea
  have t5:(kind ==5)=false:=by simp;omega
  have t11:(kind ==11)=false:=by simp;omega
  have t14:(kind ==14)=false:=by simp;omega
  have t22:(kind ==22)=false:=by simp;omega
  have t23:(kind ==23)=false:=by simp;omega
  have t24:(kind ==24)=true:=by simp[hq]
  clear hk hq hea;go_enter Tryz.func110,Tryz.ntmps110
  go_wp2_with fail;go_ret;rw[hR.out]
  exact⟨rfl,B1.out⟩
 by_cases hq:kind=18
 ·
  obtain⟨e1,e2⟩:=hk (by omega)
  have hR0:alw md kind lst=(!md.fn&&!(true || md.hears)):=by unfold alw;rw[if_neg (by omega),if_pos (by omega),hea]
  have t5:(kind ==5)=false:=by simp;omega
  have t11:(kind ==11)=false:=by simp;omega
  have t14:(kind ==14)=false:=by simp;omega
  have t22:(kind ==22)=false:=by simp;omega
  have t23:(kind ==23)=false:=by simp;omega
  have t24:(kind ==24)=false:=by simp;omega
  have t18:(kind ==18)=true:=by simp[hq]
  rcases md with ⟨m1,m2,m3,m4⟩
  simp only at e1 e2 hR0 hea
  clear hk hq;subst e2 hea
  cases m4<;>cases hr
  all_goals
   simp only[if_true,if_false,Bool.false_eq_true] at e1
   subst e1
   have hR:=Hid.mk' hR0
   clear hR0;go_enter Tryz.func110,Tryz.ntmps110
   go_wp2_with fail;go_ret;rw[hR.out]
   exact⟨rfl,B1.out⟩
 by_cases hq:kind=20
 ·
  obtain⟨e1,e2⟩:=hk (by omega)
  have hR0:alw md kind lst=(!md.fn&&!(true || md.hears)):=by unfold alw;rw[if_neg (by omega),if_pos (by omega),hea]
  have t5:(kind ==5)=false:=by simp;omega
  have t11:(kind ==11)=false:=by simp;omega
  have t14:(kind ==14)=false:=by simp;omega
  have t22:(kind ==22)=false:=by simp;omega
  have t23:(kind ==23)=false:=by simp;omega
  have t24:(kind ==24)=false:=by simp;omega
  have t18:(kind ==18)=false:=by simp;omega
  have t20:(kind ==20)=true:=by simp[hq]
  rcases md with ⟨m1,m2,m3,m4⟩
  simp only at e1 e2 hR0 hea
  clear hk hq;subst e2 hea
  cases m4<;>cases hr
  all_goals
   simp only[if_true,if_false,Bool.false_eq_true] at e1
   subst e1
   have hR:=Hid.mk' hR0
   clear hR0;go_enter Tryz.func110,Tryz.ntmps110
   go_wp2_with fail;go_ret;rw[hR.out]
   exact⟨rfl,B1.out⟩
 by_cases hq:kind=26
 ·
  have hR:Hid (alw md kind lst=lst):=by show _=_;unfold alw;rw[if_neg (by omega),if_neg (by omega),if_pos hq]
  have t5:(kind ==5)=false:=by simp;omega
  have t11:(kind ==11)=false:=by simp;omega
  have t14:(kind ==14)=false:=by simp;omega
  have t22:(kind ==22)=false:=by simp;omega
  have t23:(kind ==23)=false:=by simp;omega
  have t24:(kind ==24)=false:=by simp;omega
  have t18:(kind ==18)=false:=by simp;omega
  have t20:(kind ==20)=false:=by simp;omega
  have t26:(kind ==26)=true:=by simp[hq]
  clear hk hq hea;go_enter Tryz.func110,Tryz.ntmps110
  go_wp2_with fail;go_ret;rw[hR.out]
  exact⟨rfl,B1.out⟩
 have hR:Hid (alw md kind lst=true):=by show _=_;unfold alw;rw[if_neg (by omega),if_neg (by omega),if_neg (by omega)]
 have t5:(kind ==5)=false:=by simp;omega
 have t11:(kind ==11)=false:=by simp;omega
 have t14:(kind ==14)=false:=by simp;omega
 have t22:(kind ==22)=false:=by simp;omega
 have t23:(kind ==23)=false:=by simp;omega
 have t24:(kind ==24)=false:=by simp;omega
 have t18:(kind ==18)=false:=by simp;omega
 have t20:(kind ==20)=false:=by simp;omega
 have t26:(kind ==26)=false:=by simp;omega
 clear hk hea;go_enter Tryz.func110,Tryz.ntmps110
 go_wp2_with fail;go_ret;rw[hR.out]
 exact⟨rfl,B1.out⟩
theorem j7w (hp:AskM G w md av) (kind:Int) (hk:kind=18\/kind=20->tk=(if md.fn=true then 33 else 34)/\hr=md.hears) :
  Calls Tryz.prog 110 #[.agg #[addF km,j09 km ko,.int .i64 tk,.bool lst,.bool hr,av],.int .i64 kind] w λe w'=>e=.returned (.bool (alw md kind lst))/\Below w.heap.size w w':=by
 rcases hp with ⟨h1,rfl,_⟩|⟨h1,ba,na,fa,rfl,_⟩
 ·
  exact je2 h1 kind hk
 exact jcl h1 kind hk
end
end
section
open Go.RowKit Go.Maps Go.WideMaps
def pkR (D:Int->ByteArray->Int) (T:Tre) (ah:List Int) (md:Md) (env:Env) (f:Nat) (n:Nd) (K:KM) (i:Int):Ck (Int×KM):=match ckE D T ah md env f K (kid n 0) with
 | .error e=> .error e
 | .ok (k,K1)=>if k=1 then (match j1i D T md n.kids.tail none with | .error e=> .error e | .ok k=> .ok (k,upd K1 i k)) else .error (4,i)
theorem j9p (t:TypeId) (ht:Tryz.prog.underlying t=some (.slice (Tryz.prog.elem t))) (e1:∀W,(Go.sizeOf (Tryz.prog.elem t)).run Tryz.prog W=.ok 1 W) (b o n c L:Nat) (hL:n=L+1) (h2:2<=n) (hc:n<=c) :
  ∀W,(Instr.slice t (.slice (some ⟨b,o,none⟩) n c) (some (.int .i64 1)) none none).run Tryz.prog W=.ok (.slice (some ⟨b,o+1,none⟩) L (c-1)) W:=by
 intro W
 rw[run_slice_l (P:=Tryz.prog) W t (some ⟨b,o,none⟩) n c ht .i64 (1:Int) (by omega) (by omega),e1 W]
 subst hL
 unfold sliced
 have:¬c=1:=by omega
 simp[Result.andThen,Addr.add,this]
def pkN (D:Int->ByteArray->Int) (T:Tre) (md:Md) (ms:List Int) (m:Int) (o:Option Int) (r:Except Int Int):Ck Int:=match r with
 | .error c=> .error (c,m)
 | .ok k=>match o with
  | none=>j1i D T md ms (some k)
  | some k0=>if k=k0 then j1i D T md ms (some k0) else .error (4,m)
theorem jau (D:Int->ByteArray->Int) (T:Tre) (md:Md) (ms:List Int) (m:Int) (o:Option Int):j1i D T md (m :: ms) o=pkN D T md ms m o (j2b D md (nd T m).text):=by
 rw[j1i];unfold pkN
 cases j2b D md (nd T m).text with
 | error c=>rfl
 | ok k=>cases o<;>rfl
section
variable {G:Pd} {w w':World} {ah:List Int} {Kp Kp' K:KM} {km ko mb nn:Nat} {gg:Nm} {bs:List Nat} {md:Md} {av:Value} {env:Env} {nx:Nat} {lst hr:Bool} {tk:Int}
theorem jf1 (hG:G.Ok) {f:Nat} (hE:ExpP G ah f) {i:Nat} {n:Nd} (hv:VN G.T i n) (hfit:FitL (j0e G.T) (okN G.T) n.kids nx i) (hif:i<=f) (hkd:n.kind=11) (h:Pv G w ah Kp) (hp:Px G w km ko gg bs md av env Kp nx) (hkr:KR G.T Kp K) :
  Calls Tryz.prog 111 #[.pointer (some ⟨G.c,0,none⟩),.int .i64 (i:Int),.agg #[addF km,j09 km ko,.int .i64 tk,.bool lst,.bool hr,av]] w λe w'=>j44 G w ah nx Kp (pkR (Dp G) G.T ah md env f n K (i:Int)) e w':=by
 obtain⟨nb,no,s9,c9,en1,hnb,e0,e1,e2,e3,ekids,hcap⟩:=Pd.node hG hv.at_
 have hiN:i<G.T.nodes.length:=(List.getElem?_eq_some_iff.1 hv.at_).1
 have iI:(i:Int)<(G.T.nodes.length:Int):=by omega
 have hn4:G.T.nodes.length<=4000:=hG.tr.1
 have hkl:n.kids.length<=1048576:=(hG.k.1.2 n (List.mem_of_getElem? hv.at_)).2
 have hle:=hfit.le
 have h2:2<=n.kids.length:=by have h1:=hv.len;rw[hkd] at h1;have h2:=jbm n.kids.length;omega
 obtain⟨L,hL⟩:∃L,Hid (n.kids.length=L+1):=⟨n.kids.length-1,by show _=_;omega⟩
 have hL1:1<=L:=by have:=hL.out;omega
 obtain⟨a,an,ba,hx0,hai,hva,hca,hfa,hnba⟩:=hv.kidAt hfit (j:=0) (c:=1) (by rw[hkd];simp[shp])
 have hae:=j1q hca
 have haN:a<G.T.nodes.length:=by omega
 have aI:(a:Int)<(G.T.nodes.length:Int):=by omega
 obtain⟨fb,fo,rfl,_,hfb,pp⟩:=j05 ekids hx0
 have hsl:=j9p 26 Tryz.htI2 j6w fb fo n.kids.length c9 L hL.out h2 hcap
 have hK0:Hid (kid n 0=(a:Int)):=by show _=_;simp[kid,hx0]
 have b1:Below w.heap.size w (w.alloc (.cells #[addF km,j09 km ko,.int .i64 tk,.bool lst,.bool hr,av] 139)):=j00 (Below.refl _ _) _
 have x1:(w.alloc (.cells #[addF km,j09 km ko,.int .i64 tk,.bool lst,.bool hr,av] 139)).cell? ⟨G.c,1,none⟩=some (.slice (some ⟨nb,no,none⟩) G.T.nodes.length G.d1):=by rw[<-en1];exact((h.later b1).bx.cell 1).trans rfl
 have q3:=((h.later b1).bl.cell (p:=⟨nb,no+i*4+3,none⟩) hnb).trans e3
 have bp:=Blk.new w #[addF km,j09 km ko,.int .i64 tk,.bool lst,.bool hr,av] 139
 have BP:=Hid.mk' bp
 have H1:=Hid.mk' (h.later b1)
 have X1:=Hid.mk' (hp.later b1)
 have T1:Hid (Tw G.kb G.kb w (w.alloc (.cells #[addF km,j09 km ko,.int .i64 tk,.bool lst,.bool hr,av] 139))):=Tw.of b1
 have l0I:(0:Int)<(n.kids.length:Int):=by omega
 have l0N:0<n.kids.length:=by omega
 have hwk:¬w.heap.size=G.kb:=by have:=h.kl;omega
 have hfk:¬fb=G.kb:=by have:=hG.kb;omega
 have hnk:¬nb=G.kb:=by have:=hG.kb;omega
 have hck:¬G.c=G.kb:=λe=>hG.n1 e.symm
 have EK:=Hid.mk' ekids
 have HV:=Hid.mk' hv
 have HKD:=Hid.mk' hkd
 have HKR:=Hid.mk' hkr
 have HVA:=Hid.mk' hva
 have HFA:Hid (FitL (j0e G.T) (okN G.T) an.kids ba a):=hfa
 have HFIT:Hid (FitL (j0e G.T) (okN G.T) n.kids nx i):=hfit
 clear h hp b1 bp e0 e1 e2 e3 ekids hfit hv hkr hx0 hva hfa hkd hca hcap;go_enter Tryz.func111,Tryz.ntmps111
 go_wp2_with fail;clear x1 q3;generalize (w.alloc (.cells #[addF km,j09 km ko,.int .i64 tk,.bool lst,.bool hr,av] 139))=wr at BP H1 X1 T1 ⊢
 have hwr:w.heap.size<wr.heap.size:=BP.out.lt
 have hcall:=Hid.mk' (hE md env km ko gg bs av lst hr tk a ba an Kp K wr.drew (by omega) HVA.out HFA.out hae (H1.out.later (j02 (Below.refl _ _))) ((X1.out.later (j02 (Below.refl _ _))).mono hnba) HKR.out)
 have hS:Hid (∀X,Tw G.kb G.kb (wr) X->X.cell? ⟨fb,fo,none⟩=some (.int .i64 (a:Int))/\X.cell? ⟨w.heap.size,0,none⟩=some (addF km)/\X.cell? ⟨w.heap.size,1,none⟩=some (j09 km ko)/\X.cell? ⟨w.heap.size,2,none⟩=some (.int .i64 tk)/\X.cell? ⟨w.heap.size,3,none⟩=some (.bool lst)/\X.cell? ⟨w.heap.size,4,none⟩=some (.bool hr)/\X.cell? ⟨w.heap.size,5,none⟩=some (av)):=λX hX=>⟨(hX.cell (Nat.lt_of_lt_of_le hfb H1.out.bl.size) hfk hfk).trans ((H1.out.bl.cell (p:=⟨fb,fo,none⟩) hfb).trans (by simpa using pp)),(hX.cell hwr hwk hwk).trans ((BP.out.cell 0).trans rfl),(hX.cell hwr hwk hwk).trans ((BP.out.cell 1).trans rfl),(hX.cell hwr hwk hwk).trans ((BP.out.cell 2).trans rfl),(hX.cell hwr hwk hwk).trans ((BP.out.cell 3).trans rfl),(hX.cell hwr hwk hwk).trans ((BP.out.cell 4).trans rfl),(hX.cell hwr hwk hwk).trans ((BP.out.cell 5).trans rfl)⟩
 refine wp_region_held_drew (S:=λX=>X.cell? ⟨fb,fo,none⟩=some (.int .i64 (a:Int))/\X.cell? ⟨w.heap.size,0,none⟩=some (addF km)/\X.cell? ⟨w.heap.size,1,none⟩=some (j09 km ko)/\X.cell? ⟨w.heap.size,2,none⟩=some (.int .i64 tk)/\X.cell? ⟨w.heap.size,3,none⟩=some (.bool lst)/\X.cell? ⟨w.heap.size,4,none⟩=some (.bool hr)/\X.cell? ⟨w.heap.size,5,none⟩=some (av)) (by kernel_rfl) ?_ (λhHeld=>?_)
 ·
  exact hS.out _ (Tw.of (j02 (Below.refl _ _)))
 refine wpr 0 21 ?_;simp only[zs];refine wpr 1 22 ?_;simp only[zs];refine wpr 2 23 ?_;simp only[zs];refine wpr 3 24 ?_;simp only[zs];refine wpr 4 25 ?_;simp only[zs];refine wpAnyH_ready (rs:=[5]) (by kernel_rfl) (by simp) ?_
 refine AllReadyH.cons rfl (λKQ hK=>?_) AllReadyH.nil
 go_simp;refine hcall.out.mono ?_
 rintro e w2 hSy
 clear hcall;cases hr0:ckE (Dp G) G.T ah md env f K (a:Int) with
 | error q =>
  obtain⟨c,nq⟩:=q
  rw[hr0] at hSy
  obtain⟨rfl,ht⟩:=hSy
  have hR:Hid (pkR (Dp G) G.T ah md env f n K (i:Int)=.error (c,nq)):=by show _=_;unfold pkR;rw[hK0.out,hr0]
  have T2:Hid (Tw G.kb G.kb wr w2):=Tw.trans (Tw.of (j02 (Below.refl _ _))) ht
  clear ht hr0;refine hK.out _ _ (hS.out _ T2.out) (λhHeld=>?_)
  clear hK KQ;try simp only[zs]
  refine wpr 6 8 ?_;simp only[zs];refine wpAnyH_done (by kernel_rfl) ?_ _
  clear hHeld hS;go_wp2_with fail;go_ret;exact j44.bad hR.out (T1.out.trans T2.out)
 | ok q =>
  obtain⟨v,K1⟩:=q
  rw[hr0] at hSy
  obtain⟨rfl,ht,Kp1,hp1,hk1,hlo⟩:=hSy
  have T2:Hid (Tw G.kb G.kb wr w2):=Tw.trans (Tw.of (j02 (Below.refl _ _))) ht
  have hva1:Kp1 a=v:=(hk1 a haN (by rw[j0j HVA.out.at_];exact hae)).trans (j4i (Dp G) G.T ah md env f ba a K v K1 HVA.out.ok (by rw[j0t HVA.out.at_];exact HFA.out) hr0).1
  have HP0:Hid (pkR (Dp G) G.T ah md env f n K (i:Int)=if v=1 then (match j1i (Dp G) G.T md n.kids.tail none with | .error e=> .error e | .ok k=> .ok (k,upd K1 (i:Int) k)) else .error (4,(i:Int))):=by show _=_;unfold pkR;rw[hK0.out,hr0]
  have P2:=Hid.mk' hp1
  have K2:=Hid.mk' hk1
  have LO2:=Hid.mk' hlo
  have BP2:=Hid.mk' (BP.out.tw T2.out hwk hwk)
  have X2:=Hid.mk' (X1.out.tw T2.out λj hj=>hlo j (by omega))
  have T3:=Hid.mk' (T1.out.trans T2.out)
  clear ht hr0 hp1 hk1 hlo;refine hK.out _ _ (hS.out _ T2.out) (λhHeld=>?_)
  clear hK KQ;try simp only[zs]
  refine wpr 6 8 ?_;simp only[zs];refine wpAnyH_done (by kernel_rfl) ?_ _
  clear hHeld hS;have y2:w2.cell? ⟨G.c,2,none⟩=some (.slice (some ⟨G.kb,0,none⟩) G.T.nodes.length G.T.nodes.length):=(P2.out.bx.cell 2).trans rfl
  have ya:w2.cell? ⟨fb,fo,none⟩=some (.int .i64 (a:Int)):=(P2.out.bl.cell (p:=⟨fb,fo,none⟩) hfb).trans (by simpa using pp)
  have yk:w2.cell? ⟨G.kb,a,none⟩=some (.int .i64 v):=by rw[<-hva1];exact P2.out.kc a haN
  clear T2 X1 H1 BP T1 hva1 pp;by_cases hv1:v=1
  rotate_left 1
  ·
   have tv:(v != 1)=true:=by simp[hv1]
   have hR:Hid (pkR (Dp G) G.T ah md env f n K (i:Int)=.error (4,(i:Int))):=by show _=_;rw[HP0.out,if_neg hv1]
   clear hv1;go_wp2_with fail;go_quiet (fail)
   go_wp2_with fail;go_ret;exact j44.bad hR.out (T3.out.trans (Tw.of (j06 (Below.refl _ _) _)))
  have tv:(v != 1)=false:=by simp[hv1]
  have HP1:Hid (pkR (Dp G) G.T ah md env f n K (i:Int)=match j1i (Dp G) G.T md n.kids.tail none with | .error e=> .error e | .ok k=> .ok (k,upd K1 (i:Int) k)):=by show _=_;rw[HP0.out,if_pos hv1]
  clear hv1 HP0;go_wp2_with fail;go_quiet (fail)
  have T4:=Hid.mk' (T3.out.trans (Tw.of (j06 (Below.refl _ _) nq):Tw G.kb G.kb w2 (w2.drewN nq)))
  have P4:=Hid.mk' (P2.out.later (j06 (Below.refl _ _) nq))
  have X4:=Hid.mk' (X2.out.later (j06 (Below.refl _ _) nq))
  have BP4:=Hid.mk' (BP2.out.later (j06 (Below.refl _ _) nq))
  generalize w2.drewN nq=X at T4 P4 X4 BP4 ⊢
  clear T3 P2 X2 BP2 y2 ya yk tv;go_wp2_with fail;go_loopw [46] (λiv wr=>∃m:Nat,m<=L/\iv=.int .i64 m/\Hid (∃ok Kpm,j1i (Dp G) G.T md n.kids.tail none=j1i (Dp G) G.T md (n.kids.drop (m+1)) ok/\(m=0->ok=none/\Kpm=Kp1)/\(0<m->∃k0,ok=some k0/\Kpm=upd Kp1 (i:Int) k0)/\Pv G wr ah Kpm/\Px G wr km ko gg bs md av env Kpm nx/\Tw G.kb G.kb w wr)/\Hid (Blk wr w.heap.size #[addF km,j09 km ko,.int .i64 tk,.bool lst,.bool hr,av] 139)) (λiv _=>L-(intOf iv).toNat)
  case atStart=>exact⟨0,Nat.zero_le _,rfl,⟨none,Kp1,by rw[List.drop_one],λ_=>⟨rfl,rfl⟩,λq=>absurd q (Nat.lt_irrefl _),P4.out,X4.out,T4.out⟩,BP4.out⟩
  obtain⟨m,hm,rfl,hLD,BPM⟩:=hrel
  clear T4 P4 X4 BP4;obtain⟨ok,Kpm,hck,hz,hnz,hpm,hxm,htm⟩:=hLD.out
  have CK:=Hid.mk' hck
  have HZ:=Hid.mk' hz
  have HNZ:=Hid.mk' hnz
  have PM:=Hid.mk' hpm
  have XM:=Hid.mk' hxm
  have TM:=Hid.mk' htm
  clear hLD hck hz hnz hpm hxm htm;by_cases hlt:m<L
  rotate_left 1
  ·
   have hme:m=L:=by omega
   subst hme
   obtain⟨k0,e1,e2⟩:=HNZ.out (by omega)
   have hR:Hid (pkR (Dp G) G.T ah md env f n K (i:Int)=.ok (k0,upd K1 (i:Int) k0)):=by
    show _=_
    rw[HP1.out,CK.out,<-hL.out,List.drop_length,e1];rfl
   go_wp2_with fail;go_ret;subst e2
   exact j44.good hR.out TM.out PM.out (K2.out.put _ _) λj hj=>(j5n (by omega) _ j hj).trans (LO2.out j (by omega))
  have hmk:m+1<n.kids.length:=by have:=hL.out;omega
  obtain⟨qn,mq,bq,hxq,hqi,hvq,_,_,_⟩:=HV.out.kidAt HFIT.out (j:=m+1) (c:=6) (by
   rw[HKD.out];simp only[shp]
   rcases m with _|m
   ·
    simp
   simp[List.getElem?_replicate];omega)
  obtain⟨nb2,no2,t9,d9,en2,hnb2,f0,f1,f2,f3,_,_⟩:=Pd.node hG hvq.at_
  have enn:nb=nb2/\no=no2:=by rw[en1] at en2;simpa using en2
  obtain⟨rfl,rfl⟩:=enn
  obtain⟨fb2,fo2,ef,_,_,p00⟩:=j05 EK.out hxq
  obtain⟨rfl,rfl⟩:fb2=fb/\fo2=fo:=by cases ef;exact⟨rfl,rfl⟩
  have qI:(qn:Int)<(G.T.nodes.length:Int):=by omega
  have hts:mq.text.size<=maxLen:=by have:=(hG.k.1.2 mq (List.mem_of_getElem? hvq.at_)).1;unfold maxLen;omega
  have v1:wr.cell? ⟨fb2,fo2+1+m,none⟩=some (.int .i64 (qn:Int)):=by rw[show fo2+1+m=fo2+(m+1) by omega];exact(PM.out.bl.cell (p:=⟨fb2,fo2+(m+1),none⟩) hfb).trans p00
  have mI:(m:Int)<(L:Int):=by omega
  have HD:Hid (n.kids.drop (m+1)=(qn:Int) :: n.kids.drop (m+1+1)):=by
   show _=_
   rw[List.drop_eq_getElem_cons hmk];congr 1;exact(List.getElem?_eq_some_iff.1 hxq).2
  have HQ:Hid (nd G.T (qn:Int)=mq):=j0j hvq.at_
  clear hxq p00 en2 ef f0 f2 f3 hvq;go_wp2_with fail;have has:=Hid.mk' (ja3 (lst:=lst) (hr:=hr) (tk:=tk) hG (PM.out.later (j02 (Below.refl _ _))) (XM.out.later (j02 (Below.refl _ _))) mq.text hts)
  have hwr2:w.heap.size<wr.heap.size:=BPM.out.lt
  have hS:Hid (∀X,Tw G.kb G.kb (wr) X->X.cell? ⟨G.c,1,none⟩=some (.slice (some ⟨nb,no,none⟩) G.T.nodes.length G.d1)/\X.cell? ⟨nb,no+qn*4+1,none⟩=some (.string mq.text)/\X.cell? ⟨w.heap.size,0,none⟩=some (addF km)/\X.cell? ⟨w.heap.size,1,none⟩=some (j09 km ko)/\X.cell? ⟨w.heap.size,2,none⟩=some (.int .i64 tk)/\X.cell? ⟨w.heap.size,3,none⟩=some (.bool lst)/\X.cell? ⟨w.heap.size,4,none⟩=some (.bool hr)/\X.cell? ⟨w.heap.size,5,none⟩=some (av)):=λX hX=>⟨(hX.cell PM.out.bx.lt hck hck).trans (by rw[<-en1];exact(PM.out.bx.cell 1).trans rfl),(hX.cell (Nat.lt_of_lt_of_le hnb PM.out.bl.size) hnk hnk).trans ((PM.out.bl.cell (p:=⟨nb,no+qn*4+1,none⟩) hnb).trans f1),(hX.cell hwr2 hwk hwk).trans ((BPM.out.cell 0).trans rfl),(hX.cell hwr2 hwk hwk).trans ((BPM.out.cell 1).trans rfl),(hX.cell hwr2 hwk hwk).trans ((BPM.out.cell 2).trans rfl),(hX.cell hwr2 hwk hwk).trans ((BPM.out.cell 3).trans rfl),(hX.cell hwr2 hwk hwk).trans ((BPM.out.cell 4).trans rfl),(hX.cell hwr2 hwk hwk).trans ((BPM.out.cell 5).trans rfl)⟩
  refine wp_region_held_drew (S:=λX=>X.cell? ⟨G.c,1,none⟩=some (.slice (some ⟨nb,no,none⟩) G.T.nodes.length G.d1)/\X.cell? ⟨nb,no+qn*4+1,none⟩=some (.string mq.text)/\X.cell? ⟨w.heap.size,0,none⟩=some (addF km)/\X.cell? ⟨w.heap.size,1,none⟩=some (j09 km ko)/\X.cell? ⟨w.heap.size,2,none⟩=some (.int .i64 tk)/\X.cell? ⟨w.heap.size,3,none⟩=some (.bool lst)/\X.cell? ⟨w.heap.size,4,none⟩=some (.bool hr)/\X.cell? ⟨w.heap.size,5,none⟩=some (av)) (by kernel_rfl) ?_ (λhHeld=>?_)
  ·
   exact hS.out _ (Tw.of (j02 (Below.refl _ _)))
  refine wpr 0 52 ?_;simp only[zs];refine wpr 1 53 ?_;simp only[zs];refine wpr 2 54 ?_;simp only[zs];refine wpr 3 55 ?_;simp only[zs];refine wpr 4 56 ?_;simp only[zs];refine wpr 5 57 ?_;simp only[zs];refine wpr 6 58 ?_;simp only[zs];refine wpr 7 59 ?_;simp only[zs];refine wpr 8 60 ?_;simp only[zs];refine wpr 9 61 ?_;simp only[zs];refine wpAnyH_ready (rs:=[10]) (by kernel_rfl) (by simp) ?_
  refine AllReadyH.cons rfl (λKQ hK=>?_) AllReadyH.nil
  go_simp;refine has.out.mono ?_
  rintro e w5 ⟨rfl,hb5⟩
  clear has;have T5:Hid (Tw G.kb G.kb wr w5):=Tw.trans (Tw.of (j02 (Below.refl _ _))) (Tw.of hb5)
  have hbb:Below wr.heap.size wr w5:=j01 (j02 (Below.refl _ _)) hb5
  have P5:=Hid.mk' (PM.out.later hbb)
  have X5:=Hid.mk' (XM.out.later hbb)
  have BP5:=Hid.mk' (BPM.out.later hbb)
  have T6:=Hid.mk' (TM.out.trans T5.out)
  obtain⟨rc,hrc⟩:∃r,Hid (j2b (Dp G) md mq.text=r):=⟨_,rfl⟩
  rw[hrc.out]
  have CK2:Hid (j1i (Dp G) G.T md n.kids.tail none=pkN (Dp G) G.T md (n.kids.drop (m+1+1)) (qn:Int) ok rc):=by
   show _=_
   rw[CK.out,HD.out,jau,HQ.out,hrc.out]
  clear hb5 hbb CK;refine hK.out _ _ (hS.out _ T5.out) (λhHeld=>?_)
  clear hK KQ;try simp only[zs]
  refine wpr 11 51 ?_;simp only[zs];refine wpr 12 63 ?_;simp only[zs];refine wpr 13 64 ?_;simp only[zs];refine wpr 14 11 ?_;simp only[zs];refine wpr 15 12 ?_;simp only[zs];refine wpAnyH_done (by kernel_rfl) ?_ _
  clear hHeld hS;clear T5 PM XM BPM TM;cases rc with
  | error c =>
   have hc0:=j78 hrc.out
   have e1:prE (.error c)=(0,c):=rfl
   rw[e1]
   have tc:(c != 0)=true:=by simp;omega
   have hR:Hid (pkR (Dp G) G.T ah md env f n K (i:Int)=.error (c,(qn:Int))):=by show _=_;rw[HP1.out,CK2.out];rfl
   clear hc0;go_wp2_with fail;go_ret;exact j44.bad hR.out T6.out
  | ok k =>
   have e1:prE (.ok k)=(k,0):=rfl
   rw[e1]
   have y2:w5.cell? ⟨G.c,2,none⟩=some (.slice (some ⟨G.kb,0,none⟩) G.T.nodes.length G.T.nodes.length):=(P5.out.bx.cell 2).trans rfl
   by_cases hm0:m=0
   ·
    have t0:((m:Int) ==0)=true:=by simp[hm0]
    obtain⟨eo,ekp⟩:=HZ.out hm0
    subst eo ekp
    have yk:=P5.out.kc i hiN
    have yf:=P5.out.kf i
    have P6:=Hid.mk' (P5.out.put hG hiN k)
    have T7:=Hid.mk' (T6.out.trans (Tw.set G.kb G.kb w5 i (.int .i64 k)))
    have X7:=Hid.mk' (X5.out.tw (Tw.set G.kb G.kb w5 i (.int .i64 k)) (j5n (i:=i) hle k))
    have BP7:=Hid.mk' (BP5.out.tw (Tw.set G.kb G.kb w5 i (.int .i64 k)) hwk hwk)
    have y3:(w5.setCell ⟨G.kb,i,none⟩ (.int .i64 k)).cell? ⟨G.c,2,none⟩=some (.slice (some ⟨G.kb,0,none⟩) G.T.nodes.length G.T.nodes.length):=(P6.out.bx.cell 2).trans rfl
    have y4:(w5.setCell ⟨G.kb,i,none⟩ (.int .i64 k)).cell? ⟨G.kb,i,none⟩=some (.int .i64 k):=(P6.out.kc i hiN).trans (by simp[upd])
    have CK3:Hid (j1i (Dp G) G.T md n.kids.tail none=j1i (Dp G) G.T md (n.kids.drop (m+1+1)) (some k)):=by show _=_;rw[CK2.out];rfl
    have tk_:(k != k)=false:=by simp
    have HM0:=Hid.mk' hm0
    clear hm0;go_wp2_with fail;go_roundw
    case rel=>exact⟨m+1,by omega,by go_num,⟨some k,_,CK3.out,λq=>absurd q (Nat.succ_ne_zero _),λ_=>⟨k,rfl,rfl⟩,P6.out,X7.out,T7.out⟩,BP7.out⟩
    case measure=>simp[intOf];omega
   have t0:((m:Int) ==0)=false:=by simp[hm0]
   obtain⟨k0,eo,ekp⟩:=HNZ.out (by omega)
   subst eo ekp
   have y4:w5.cell? ⟨G.kb,i,none⟩=some (.int .i64 k0):=(P5.out.kc i hiN).trans (by simp[upd])
   by_cases hkk:k=k0
   ·
    have tk_:(k != k0)=false:=by simp[hkk]
    have CK3:Hid (j1i (Dp G) G.T md n.kids.tail none=j1i (Dp G) G.T md (n.kids.drop (m+1+1)) (some k0)):=by show _=_;rw[CK2.out];simp only[pkN];rw[if_pos hkk]
    clear hkk hm0;go_wp2_with fail;go_roundw
    case rel=>exact⟨m+1,by omega,by go_num,⟨some k0,_,CK3.out,λq=>absurd q (Nat.succ_ne_zero _),λ_=>⟨k0,rfl,rfl⟩,P5.out,X5.out,T6.out⟩,BP5.out⟩
    case measure=>simp[intOf];omega
   have tk_:(k != k0)=true:=by simp[hkk]
   have hR:Hid (pkR (Dp G) G.T ah md env f n K (i:Int)=.error (4,(qn:Int))):=by show _=_;rw[HP1.out,CK2.out];simp only[pkN];rw[if_neg hkk]
   clear hkk hm0;go_wp2_with fail;go_ret;exact j44.bad hR.out T6.out
end
end
section
open Go.RowKit Go.Maps Go.WideMaps
section
variable {D:Int->ByteArray->Int} {T:Tre} {ah:List Int} {md:Md} {env:Env} {f:Nat} {K:KM} {i:Int}
theorem jfw (hk:(nd T i).kind=11) (he:md.each=true):ckE D T ah md env (f+1) K i=pkR D T ah md env f (nd T i) K i:=by
 rw[ckE,if_pos hk,if_pos he]
 unfold pkR
 cases ckE D T ah md env f K (kid (nd T i) 0) with
 | error q=>rfl
 | ok q =>
  obtain⟨k,K1⟩:=q
  simp only
  split
  ·
   cases j1i D T md (nd T i).kids.tail none<;>rfl
  rfl
theorem jlc (hk:(nd T i).kind=11\/(nd T i).kind=5) (he:md.each=false):ckE D T ah md env (f+1) K i=.error (5,i):=by
 rw[ckE]
 by_cases h:(nd T i).kind=11
 ·
  rw[if_pos h,if_neg (by rw[he];simp)]
 rw[if_neg h,if_pos ⟨by omega,he⟩]
theorem jf8 {n:Nd} {ks:List Int} {c:Int} (h:rowE D T ah md env n ks=.error c):¬c=0:=by
 have hd:∀k:Int,kdOr k=.error c->¬c=0:=by
  intro k hk
  unfold kdOr at hk
  split at hk
  ·
   injection hk with hk;omega
  cases hk
 unfold rowE at h
 split at h
 ·
  cases h
 split at h
 ·
  cases h
 split at h
 ·
  cases h
 split at h
 ·
  split at h
  ·
   injection h with h;omega
  cases h
 split at h
 ·
  have:=j78 h;omega
 split at h
 ·
  split at h
  ·
   injection h with h;omega
  cases h
 split at h
 ·
  unfold j2m at h
  split at h
  ·
   injection h with h;omega
  split at h
  ·
   split at h
   ·
    cases h
   injection h with h;omega
  injection h with h;omega
 split at h
 ·
  exact hd _ h
 split at h
 ·
  exact hd _ h
 exact hd _ h
theorem jek (hk:¬(nd T i).kind=11) (h5:¬((nd T i).kind=5/\md.each=false)) (h10:(nd T i).kind<=10):ckE D T ah md env (f+1) K i=match plR D T ah md env f (nd T i) K i with | .error q=> .error q | .ok (v,K1)=> .ok (v,upd K1 i v):=by
 rw[ckE,if_neg hk,if_neg h5]
 unfold plR
 cases ckL (ckE D T ah md env f) (nd T i).kids K with
 | error q=>rfl
 | ok q =>
  obtain⟨ks,K1⟩:=q
  simp only
  have hr:rowP D T ah md env (nd T i) ks=prE (rowE D T ah md env (nd T i) ks):=by unfold rowP;rw[if_pos h10]
  rw[hr]
  cases he:rowE D T ah md env (nd T i) ks with
  | error c =>
   have h2:¬(prE (.error c:Except Int Int)).2=0:=jf8 he
   rw[if_neg h2];rfl
  | ok k=>simp[prE]
end
section
variable {G:Pd} {w w':World} {ah:List Int} {Kp Kp' K:KM} {km ko mb nn:Nat} {gg:Nm} {bs:List Nat} {md:Md} {av:Value} {env:Env} {nx:Nat} {lst hr:Bool} {tk:Int}
theorem jf7 (hG:G.Ok) (ha:AhOk G.T ah) {f:Nat} (hE:ExpP G ah f):ExpP G ah (f+1):=by
 intro md env km ko gg bs av lst hr tk i nx n Kp K w hi hv hfit hk h hp hkr
 obtain⟨nb,no,s9,c9,en1,hnb,e0,e1,e2,e3,ekids,hcap⟩:=Pd.node hG hv.at_
 have hiN:i<G.T.nodes.length:=(List.getElem?_eq_some_iff.1 hv.at_).1
 have iI:(i:Int)<(G.T.nodes.length:Int):=by omega
 have hn4:G.T.nodes.length<=4000:=hG.tr.1
 have hle:=hfit.le
 have hs:n.text.size<=maxLen:=by have:=(hG.k.1.2 n (List.mem_of_getElem? hv.at_)).1;unfold maxLen;omega
 have b1:Below w.heap.size w (w.alloc (.cells #[addF km,j09 km ko,.int .i64 tk,.bool lst,.bool hr,av] 139)):=j00 (Below.refl _ _) _
 have x1:(w.alloc (.cells #[addF km,j09 km ko,.int .i64 tk,.bool lst,.bool hr,av] 139)).cell? ⟨G.c,1,none⟩=some (.slice (some ⟨nb,no,none⟩) G.T.nodes.length G.d1):=by rw[<-en1];exact((h.later b1).bx.cell 1).trans rfl
 have q0:=((h.later b1).bl.cell (p:=⟨nb,no+i*4,none⟩) hnb).trans e0
 have bp:=Blk.new w #[addF km,j09 km ko,.int .i64 tk,.bool lst,.bool hr,av] 139
 have p0:_=some (addF km):=(bp.cell 0).trans rfl
 have p1:_=some (j09 km ko):=(bp.cell 1).trans rfl
 have p2:_=some (Value.int .i64 tk):=(bp.cell 2).trans rfl
 have p3:_=some (Value.bool lst):=(bp.cell 3).trans rfl
 have p4:_=some (Value.bool hr):=(bp.cell 4).trans rfl
 have p5:_=some (av):=(bp.cell 5).trans rfl
 have BP:=Hid.mk' bp
 have hal:=j7w (km:=km) (ko:=ko) (tk:=tk) (lst:=lst) (hr:=hr) (hp.later b1).am n.kind (λq=>absurd hk (by unfold isE;omega))
 have HND:Hid (nd G.T (i:Int)=n):=j0j hv.at_
 obtain⟨kd,hkd⟩:∃k,Hid (n.kind=k):=⟨_,rfl⟩
 rw[hkd.out] at q0 hal
 have hk:Hid (1<=kd/\kd<=11):=by have h1:=hk;unfold isE at h1;rw[hkd.out] at h1;exact h1
 have H1:=Hid.mk' (h.later b1)
 have X1:=Hid.mk' (hp.later b1)
 have T1:Hid (Tw G.kb G.kb w (w.alloc (.cells #[addF km,j09 km ko,.int .i64 tk,.bool lst,.bool hr,av] 139))):=Tw.of b1
 have HV:=Hid.mk' hv
 have HF:Hid (FitL (j0e G.T) (okN G.T) n.kids nx i):=hfit
 have HKR:=Hid.mk' hkr
 clear h hp b1 bp e0 e1 e2 e3 ekids hv hfit hkr en1 hnb hcap;go_enter Tryz.func85,Tryz.ntmps85
 go_wp2_with fail;refine hal.mono ?_
 rintro e w2 ⟨rfl,hb2⟩
 clear hal x1 q0 p0 p1 p2 p3 p4 p5;have H2:=Hid.mk' (H1.out.later hb2)
 have X2:=Hid.mk' (X1.out.later hb2)
 have T2:Hid (Tw G.kb G.kb w w2):=T1.out.trans (Tw.of hb2)
 have BP2:=Hid.mk' (BP.out.later hb2)
 clear H1 X1 T1 BP hb2;obtain⟨al,hal⟩:∃b,Hid (alw md kd lst=b):=⟨_,rfl⟩
 rw[hal.out]
 cases al
 ·
  have hR:Hid (ckE (Dp G) G.T ah md env (f+1) K (i:Int)=.error (5,(i:Int))):=by
   have h1:=hal.out
   have h2:=hk.out
   unfold alw at h1
   by_cases h5:kd=5\/kd=11\/kd=14\/kd=22\/kd=23\/kd=24
   ·
    rw[if_pos h5] at h1
    exact jlc (by rw[HND.out,hkd.out];omega) h1
   rw[if_neg h5,if_neg (by omega),if_neg (by omega)] at h1;cases h1
  go_wp2_with fail;go_ret;exact j44.bad hR.out T2.out
 have hea:Hid (kd=5\/kd=11->md.each=true):=by
  intro q
  have h1:=hal.out
  unfold alw at h1
  rw[if_pos (by omega)] at h1
  exact h1
 have p0:_=some (addF km):=(BP2.out.cell 0).trans rfl
 have p1:_=some (j09 km ko):=(BP2.out.cell 1).trans rfl
 have p2:_=some (Value.int .i64 tk):=(BP2.out.cell 2).trans rfl
 have p3:_=some (Value.bool lst):=(BP2.out.cell 3).trans rfl
 have p4:_=some (Value.bool hr):=(BP2.out.cell 4).trans rfl
 have p5:_=some (av):=(BP2.out.cell 5).trans rfl
 by_cases h11:kd=11
 ·
  have t11:(kd ==11)=true:=by simp[h11]
  have hR:Hid (ckE (Dp G) G.T ah md env (f+1) K (i:Int)=pkR (Dp G) G.T ah md env f n K (i:Int)):=by
   show _=_
   rw[jfw (by rw[HND.out,hkd.out];exact h11) (hea.out (Or.inr h11)),HND.out]
  have hpk:=jf1 (lst:=lst) (hr:=hr) (tk:=tk) hG hE HV.out HF.out (by omega) (by rw[hkd.out];exact h11) H2.out X2.out HKR.out
  clear h11;go_wp2_with fail;refine hpk.mono ?_
  intro e w3 hS
  rw[<-hR.out] at hS
  clear hpk hR;cases hr0:ckE (Dp G) G.T ah md env (f+1) K (i:Int) with
  | error q =>
   obtain⟨c,nq⟩:=q
   rw[hr0] at hS
   obtain⟨rfl,ht⟩:=hS
   have T3:=Hid.mk' (T2.out.trans ht)
   have HR0:=Hid.mk' hr0
   clear ht hr0;go_wp2_with fail;go_ret;exact j44.bad HR0.out T3.out
  | ok q =>
   obtain⟨v,K1⟩:=q
   rw[hr0] at hS
   obtain⟨rfl,ht,Kp1,hp1,hk1,hlo⟩:=hS
   have T3:=Hid.mk' (T2.out.trans ht)
   have P3:=Hid.mk' hp1
   have K3:=Hid.mk' hk1
   have LO:=Hid.mk' hlo
   have HR0:=Hid.mk' hr0
   clear ht hr0 hp1 hk1 hlo;go_wp2_with fail;go_ret;exact j44.good HR0.out T3.out P3.out K3.out LO.out
 have t11:(kd ==11)=false:=by simp[h11]
 have t16:(kd ==16)=false:=by have:=hk.out;simp;omega
 have t17:(kd ==17)=false:=by have:=hk.out;simp;omega
 have t18:(kd ==18)=false:=by have:=hk.out;simp;omega
 have t20:(kd ==20)=false:=by have:=hk.out;simp;omega
 have t21:(kd ==21)=false:=by have:=hk.out;simp;omega
 have hR:Hid (ckE (Dp G) G.T ah md env (f+1) K (i:Int)=match plR (Dp G) G.T ah md env f n K (i:Int) with | .error q=> .error q | .ok (v,K1)=> .ok (v,upd K1 (i:Int) v)):=by
  have h2:=hk.out
  show _=_
  rw[jek (by rw[HND.out,hkd.out];exact h11) (λq=>by have:=hea.out (Or.inl (by rw[<-hkd.out,<-HND.out];exact q.1));rw[q.2] at this;cases this) (by rw[HND.out,hkd.out];omega),HND.out]
 have hpl:=j95 (lst:=lst) (hr:=hr) (tk:=tk) hG ha hE HV.out HF.out (by omega) (by have:=hk.out;rw[hkd.out];unfold isP;omega) (by have:=hk.out;rw[hkd.out];omega) hs H2.out X2.out HKR.out
 clear h11;go_wp2_with fail;refine hpl.mono ?_
 intro e w3 hS
 clear hpl;cases hr0:plR (Dp G) G.T ah md env f n K (i:Int) with
 | error q =>
  obtain⟨c,nq⟩:=q
  rw[hr0] at hS
  obtain⟨rfl,ht⟩:=hS
  have hR2:Hid (ckE (Dp G) G.T ah md env (f+1) K (i:Int)=.error (c,nq)):=by show _=_;rw[hR.out,hr0]
  have T3:=Hid.mk' (T2.out.trans ht)
  clear ht hr0;go_wp2_with fail;go_ret;exact j44.bad hR2.out T3.out
 | ok q =>
  obtain⟨v,K1⟩:=q
  rw[hr0] at hS
  obtain⟨rfl,ht,Kp1,hp1,hk1,hlo⟩:=hS
  have hR2:Hid (ckE (Dp G) G.T ah md env (f+1) K (i:Int)=.ok (v,upd K1 (i:Int) v)):=by show _=_;rw[hR.out,hr0]
  have T3:=Hid.mk' (T2.out.trans ht)
  have P3:=Hid.mk' hp1
  have K3:=Hid.mk' (hk1.put (i:Int) v)
  have LO:Hid (∀j,j<nx->upd Kp1 (i:Int) v j=Kp j):=λj hj=>(j5n hle v j hj).trans (hlo j hj)
  clear ht hr0 hp1 hk1 hlo;go_wp2_with fail;go_ret;exact j44.good hR2.out T3.out P3.out K3.out LO.out
theorem jbo (hG:G.Ok) (ha:AhOk G.T ah):∀f,ExpP G ah f
 | 0=>λ_ _ _ _ _ _ _ _ _ _ _ _ _ _ _ _ hi=>absurd hi (Nat.not_lt_zero _)
 | f+1=>jf7 hG ha (jbo hG ha f)
end
end
section
open Go.RowKit Go.Maps Go.WideMaps
section
variable {G:Pd} {w w':World} {ah:List Int} {Kp Kp' K:KM} {km ko mb nn:Nat} {gg:Nm} {bs:List Nat} {md:Md} {av:Value} {env:Env} {nx:Nat} {lst hr:Bool} {tk:Int}
theorem Lx.tw (hl:Lx G w km ko mb nn gg bs av) (ha:∀b∈bs,¬b=G.kb) (ht:Tw G.kb G.kb w w'):Lx G w' km ko mb nn gg bs av:=by
 obtain⟨f,g,v,br,h1,h2,h3,h4,h5,h6,h7⟩:=hl.ex
 have hm:∀b∈bs,b<w.heap.size->w'.heap[b]?=w.heap[b]?:=λb hb hlt=>ht.block b hlt (ha b hb) (ha b hb)
 subst h6
 refine⟨⟨f,g,v,br,?_,h2.same (hm mb (by simp) h2.lt),?_,h4.same λb hb=>hm b (by simp[hb]) (h4.lt b hb),h5,rfl,h7⟩,hl.ge,hl.nc,hl.nt,hl.nk,hl.am⟩
 ·
  exact h1.tw ht (ha km (by simp)) (ha km (by simp))
 exact h3.tw ht (ha ko (by simp)) (ha ko (by simp))
theorem Lx.lt (hl:Lx G w km ko mb nn gg bs av):mb<w.heap.size:=by
 obtain⟨f,g,v,br,h1,h2,_⟩:=hl.ex
 exact h2.lt
theorem j6p.tw {s:ByteArray} {i:Nat} {k:Int} {e:Ending} (h:j6p G w ah km ko mb nn bs md av env Kp s i k e w'):Tw G.kb mb w w':=by
 unfold j6p at h
 split at h
 ·
  exact Tw.of h.2
 exact h.2.1
theorem jf6 (hG:G.Ok) {f:Nat} (hE:ExpP G ah f) {i:Nat} {n:Nd} (hv:VN G.T i n) (hfit:FitL (j0e G.T) (okN G.T) n.kids nx i) (hif:i<=f) (h12:n.kind=12) (hnn:nn<maxLen) (hs:n.text.size<=maxLen) (h:Pv G w ah Kp) (hp:Px G w km ko gg bs md av env Kp nx) (hlx:Lx G w km ko mb nn gg bs av) (hkr:KR G.T Kp K) :
  Calls Tryz.prog 116 #[.pointer (some ⟨G.c,0,none⟩),.int .i64 (i:Int),.agg #[addF km,j09 km ko,.int .i64 tk,.bool lst,.bool hr,av]] w λe w'=>j4h G w ah km ko mb nn bs md av env nx i Kp n.text (ckL (ckE (Dp G) G.T ah md env f) n.kids K) e w':=by
 have hke:=j8e hv (by unfold isP;omega)
 obtain⟨nb,no,s9,c9,en1,hnb,e0,e1,e2,e3,ekids,hcap⟩:=Pd.node hG hv.at_
 have hiN:i<G.T.nodes.length:=(List.getElem?_eq_some_iff.1 hv.at_).1
 have iI:(i:Int)<(G.T.nodes.length:Int):=by omega
 have hn4:G.T.nodes.length<=4000:=hG.tr.1
 have hkl:n.kids.length<=1048576:=(hG.k.1.2 n (List.mem_of_getElem? hv.at_)).2
 have hle:=hfit.le
 have b1:Below w.heap.size w (w.alloc (.cells #[addF km,j09 km ko,.int .i64 tk,.bool lst,.bool hr,av] 139)):=j00 (Below.refl _ _) _
 have b2:Below w.heap.size w ((w.alloc (.cells #[addF km,j09 km ko,.int .i64 tk,.bool lst,.bool hr,av] 139)).alloc (.cells #[.int .i64 n.kind,.string n.text,.int .i64 n.num,.slice s9 n.kids.length c9] 73)):=j00 b1 _
 have x1:(w.alloc (.cells #[addF km,j09 km ko,.int .i64 tk,.bool lst,.bool hr,av] 139)).cell? ⟨G.c,1,none⟩=some (.slice (some ⟨nb,no,none⟩) G.T.nodes.length G.d1):=by rw[<-en1];exact((h.later b1).bx.cell 1).trans rfl
 have q0:=((h.later b1).bl.cell (p:=⟨nb,no+i*4,none⟩) hnb).trans e0
 have q1:=((h.later b1).bl.cell (p:=⟨nb,no+i*4+1,none⟩) hnb).trans e1
 have q2:=((h.later b1).bl.cell (p:=⟨nb,no+i*4+2,none⟩) hnb).trans e2
 have q3:=((h.later b1).bl.cell (p:=⟨nb,no+i*4+3,none⟩) hnb).trans e3
 have bp:Blk ((w.alloc (.cells #[addF km,j09 km ko,.int .i64 tk,.bool lst,.bool hr,av] 139)).alloc (.cells #[.int .i64 n.kind,.string n.text,.int .i64 n.num,.slice s9 n.kids.length c9] 73)) w.heap.size #[addF km,j09 km ko,.int .i64 tk,.bool lst,.bool hr,av] 139:=Blk.alloc (Blk.new w #[addF km,j09 km ko,.int .i64 tk,.bool lst,.bool hr,av] 139) _
 have bn:Blk ((w.alloc (.cells #[addF km,j09 km ko,.int .i64 tk,.bool lst,.bool hr,av] 139)).alloc (.cells #[.int .i64 n.kind,.string n.text,.int .i64 n.num,.slice s9 n.kids.length c9] 73)) (w.heap.size+1) #[.int .i64 n.kind,.string n.text,.int .i64 n.num,.slice s9 n.kids.length c9] 73:=Blk.new' (w.alloc (.cells #[addF km,j09 km ko,.int .i64 tk,.bool lst,.bool hr,av] 139)) #[.int .i64 n.kind,.string n.text,.int .i64 n.num,.slice s9 n.kids.length c9] 73 (by simp)
 have BP:=Hid.mk' bp
 have BN:=Hid.mk' bn
 obtain⟨z0,z1,z2,z3,z4⟩:=Blk.four' bn
 have hwk:¬w.heap.size=G.kb:=by have:=h.kl;omega
 have hwn:¬w.heap.size+1=G.kb:=by have:=h.kl;omega
 have L0:Hid (LdE G w ((w.alloc (.cells #[addF km,j09 km ko,.int .i64 tk,.bool lst,.bool hr,av] 139)).alloc (.cells #[.int .i64 n.kind,.string n.text,.int .i64 n.num,.slice s9 n.kids.length c9] 73)) ah km ko gg bs md av env nx f Kp K (n.kids.take 0) [] Kp K):=⟨by simp[ckL],h.later b2,hp.later b2,hkr,λ_ _=>rfl,Tw.of b2⟩
 have EK:=Hid.mk' ekids
 have HF:Hid (FitL (j0e G.T) (okN G.T) n.kids nx i):=hfit
 have HV:=Hid.mk' hv
 have HKE:=Hid.mk' hke
 have HP:=Hid.mk' hp
 have HI:=Hid.mk' hiN
 have HLEQ:=Hid.mk' hle
 have t12:(n.kind ==12)=true:=by simp[h12]
 have hlen1:Hid (n.kids.length=1):=by have h1:=hv.len;rw[h12] at h1;simp[shp] at h1;exact h1.symm
 have HLX:=Hid.mk' hlx
 have HMB:Hid (mb<w.heap.size):=hlx.lt
 clear h12 hlx;clear h hp b1 b2 bp bn e0 e1 e2 e3 ekids hfit hv hkr hke;go_enter Tryz.func116,Tryz.ntmps116
 go_wp2_with fail;clear x1 q0 q1 q2 q3 z0 z1 z2 z3 z4;go_loopw [23] (λiv wr=>∃m:Nat,m<=n.kids.length/\iv=.int .i64 m/\Hid (∃vs Kpm Km,LdE G w wr ah km ko gg bs md av env nx f Kp K (n.kids.take m) vs Kpm Km)/\Hid (Blk wr w.heap.size #[addF km,j09 km ko,.int .i64 tk,.bool lst,.bool hr,av] 139)/\Hid (Blk wr (w.heap.size+1) #[.int .i64 n.kind,.string n.text,.int .i64 n.num,.slice s9 n.kids.length c9] 73)) (λiv _=>n.kids.length-(intOf iv).toNat)
 case atStart=>exact⟨0,Nat.zero_le _,rfl,⟨_,_,_,L0.out⟩,BP.out,BN.out⟩
 obtain⟨m,hm,rfl,hL,hbp,hbn⟩:=hrel
 obtain⟨vs,Kpm,Km,hl⟩:=hL.out
 have LL:=Hid.mk' hl
 obtain⟨z0,z1,z2,z3,z4⟩:=Blk.four' hbn.out
 have p0:_=some (addF km):=(hbp.out.cell 0).trans rfl
 have p1:_=some (j09 km ko):=(hbp.out.cell 1).trans rfl
 have p2:_=some (Value.int .i64 tk):=(hbp.out.cell 2).trans rfl
 have p3:_=some (Value.bool lst):=(hbp.out.cell 3).trans rfl
 have p4:_=some (Value.bool hr):=(hbp.out.cell 4).trans rfl
 have p5:_=some av:=(hbp.out.cell 5).trans rfl
 clear hL hl;by_cases hlt:m<n.kids.length
 ·
  obtain⟨x,hx⟩:=j0q hlt
  obtain⟨k,b,rfl,hok,hfk,hab,hki⟩:=HF.out.at_ hx
  have hok2:=hok
  obtain⟨mm,hmm,_⟩:=hok2
  rw[j0t hmm] at hfk
  have hvk:VN G.T k mm:=⟨hmm,hok,b,hfk⟩
  have hke:=HKE.out _ (List.mem_of_getElem? hx)
  rw[j0j hmm] at hke
  obtain⟨fb,fo,rfl,_,hfb,pp⟩:=j05 EK.out hx
  have v1:=(LL.out.p.bl.cell (p:=⟨fb,fo+m,none⟩) hfb).trans pp
  have mI:(m:Int)<(n.kids.length:Int):=by omega
  have hcall:=Hid.mk' (hE md env km ko gg bs av lst hr tk k b mm Kpm Km wr (by omega) hvk hfk hke LL.out.p (LL.out.x.mono hab) LL.out.kr)
  have HX:=Hid.mk' hx
  clear hx pp hfk hvk hok hmm hke;go_wp2_with fail;refine hcall.out.mono ?_
  rintro e w2 hS
  clear hcall;cases hr:ckE (Dp G) G.T ah md env f Km (k:Int) with
  | error q =>
   obtain⟨c,nq⟩:=q
   rw[hr] at hS
   obtain⟨rfl,ht⟩:=hS
   have hR:Hid (ckL (ckE (Dp G) G.T ah md env f) n.kids K=.error (c,nq)):=j5x LL.out.ck HX.out hr
   have HB:=Hid.mk' (LL.out.tw.trans ht)
   clear hr ht;go_wp2_with fail;go_ret;exact j4h.bad hR.out HB.out
  | ok q =>
   obtain⟨v,K1⟩:=q
   rw[hr] at hS
   obtain⟨rfl,ht,Kp1,hp1,hk1,hlo⟩:=hS
   have HN:Hid (LdE G w w2 ah km ko gg bs md av env nx f Kp K (n.kids.take (m+1)) (vs++[v]) Kp1 K1):=⟨j72 LL.out.ck HX.out hr,hp1,LL.out.x.tw ht λj hj=>hlo j (by omega),hk1,λj hj=>(hlo j (by omega)).trans (LL.out.lo j hj),LL.out.tw.trans ht⟩
   have nbp:=Hid.mk' (hbp.out.tw ht hwk hwk)
   have nbn:=Hid.mk' (hbn.out.tw ht hwn hwn)
   clear hr ht hp1 hk1 hlo;go_wp2_with fail;go_roundw
   case rel=>exact⟨m+1,by omega,by go_num,⟨_,_,_,HN.out⟩,nbp.out,nbn.out⟩
   case measure=>simp[intOf];omega
 have hme:m=n.kids.length:=by omega
 subst hme
 have hck:Hid (ckL (ckE (Dp G) G.T ah md env f) n.kids K=.ok (vs,Km)):=by have:=LL.out.ck;rw[List.take_length] at this;exact this
 have hkk:=j83 HF.out HKE.out (by have:=HI.out;omega) hck.out LL.out.kr
 have hl0:0<n.kids.length:=by have:=hlen1.out;omega
 have l0I:(0:Int)<(n.kids.length:Int):=by omega
 obtain⟨x0,hx0⟩:=j0q hl0
 obtain⟨a,am,rfl,hai,hva⟩:=HV.out.kid (List.mem_of_getElem? hx0)
 obtain⟨fb,fo,rfl,_,hfb,pp⟩:=j05 EK.out hx0
 have haN:a<G.T.nodes.length:=by have:=HI.out;omega
 have aI:(a:Int)<(G.T.nodes.length:Int):=by omega
 obtain⟨ka,hka⟩:∃k,Hid (Kpm a=k):=⟨_,rfl⟩
 have hvs:Hid (vs[0]?.getD 0=ka):=by show _=_;rw[<-hkk,<-hka.out];simp[hx0]
 have hwa:¬w.heap.size=mb:=by have:=HMB.out;omega
 have hwb:¬w.heap.size+1=mb:=by have:=HMB.out;omega
 have hs2:w.heap.size+1<wr.heap.size:=hbn.out.lt
 have PP:Hid (G.w0.cell? ⟨fb,fo,none⟩=some (.int .i64 (a:Int))):=by show _=_;simpa using pp
 have HAN:=Hid.mk' haN
 have HFB:=Hid.mk' hfb
 clear hx0 pp hkk;go_wp2_with fail;have hS:Hid (∀X KX,Pv G X ah KX->KX a=ka->Blk X w.heap.size #[addF km,j09 km ko,.int .i64 tk,.bool lst,.bool hr,av] 139->Blk X (w.heap.size+1) #[.int .i64 n.kind,.string n.text,.int .i64 n.num,.slice (some ⟨fb,fo,none⟩) n.kids.length c9] 73->X.cell? ⟨G.c,2,none⟩=some (.slice (some ⟨G.kb,0,none⟩) G.T.nodes.length G.T.nodes.length)/\X.cell? ⟨w.heap.size+1,3,none⟩=some (.slice (some ⟨fb,fo,none⟩) n.kids.length c9)/\X.cell? ⟨fb,fo,none⟩=some (.int .i64 (a:Int))/\X.cell? ⟨G.kb,a,none⟩=some (.int .i64 ka)/\X.cell? ⟨w.heap.size,0,none⟩=some (addF km)/\X.cell? ⟨w.heap.size,1,none⟩=some (j09 km ko)/\X.cell? ⟨w.heap.size,2,none⟩=some (.int .i64 tk)/\X.cell? ⟨w.heap.size,3,none⟩=some (.bool lst)/\X.cell? ⟨w.heap.size,4,none⟩=some (.bool hr)/\X.cell? ⟨w.heap.size,5,none⟩=some av):=λX KX pX eX b1 b2=>⟨(pX.bx.cell 2).trans rfl,(b2.cell 3).trans rfl,(pX.bl.cell (p:=⟨fb,fo,none⟩) HFB.out).trans PP.out,by rw[<-eX];exact pX.kc a HAN.out,(b1.cell 0).trans rfl,(b1.cell 1).trans rfl,(b1.cell 2).trans rfl,(b1.cell 3).trans rfl,(b1.cell 4).trans rfl,(b1.cell 5).trans rfl⟩
 have PD:=Hid.mk' (LL.out.p.later (j02 (Below.refl _ _)))
 have XD:=Hid.mk' (LL.out.x.later (j02 (Below.refl _ _)))
 have LD:=Hid.mk' ((HLX.out.tw HP.out.ap (LL.out.tw.trans (Tw.of (j02 (Below.refl _ _))))))
 have TD:Hid (Tw G.kb G.kb w wr.drew):=LL.out.tw.trans (Tw.of (j02 (Below.refl _ _)))
 have BPD:=Hid.mk' (hbp.out.later (j02 (Below.refl _ _)))
 have BND:=Hid.mk' (hbn.out.later (j02 (Below.refl _ _)))
 refine wp_region_held_drew (S:=λX=>X.cell? ⟨G.c,2,none⟩=some (.slice (some ⟨G.kb,0,none⟩) G.T.nodes.length G.T.nodes.length)/\X.cell? ⟨w.heap.size+1,3,none⟩=some (.slice (some ⟨fb,fo,none⟩) n.kids.length c9)/\X.cell? ⟨fb,fo,none⟩=some (.int .i64 (a:Int))/\X.cell? ⟨G.kb,a,none⟩=some (.int .i64 ka)/\X.cell? ⟨w.heap.size,0,none⟩=some (addF km)/\X.cell? ⟨w.heap.size,1,none⟩=some (j09 km ko)/\X.cell? ⟨w.heap.size,2,none⟩=some (.int .i64 tk)/\X.cell? ⟨w.heap.size,3,none⟩=some (.bool lst)/\X.cell? ⟨w.heap.size,4,none⟩=some (.bool hr)/\X.cell? ⟨w.heap.size,5,none⟩=some av) (by kernel_rfl) ?_ (λhHeld=>?_)
 ·
  exact hS.out _ Kpm PD.out hka.out BPD.out BND.out
 refine wpr 0 38 ?_;simp only[zs];refine wpr 1 39 ?_;simp only[zs];refine wpr 2 40 ?_;simp only[zs];refine wpr 3 41 ?_;simp only[zs];refine wpr 4 42 ?_;simp only[zs];refine wpr 5 43 ?_;simp only[zs];refine wpr 6 44 ?_;simp only[zs];refine wpr 7 45 ?_;simp only[zs];refine wpr 8 46 ?_;simp only[zs];refine wpr 9 47 ?_;simp only[zs];refine wpr 10 48 ?_;simp only[zs];refine wpr 11 49 ?_
 simp only[zs];refine wpr 12 50 ?_;simp only[zs];clear z0 z1 z2 z3 z4 p0 p1 p2 p3 p4 p5;refine wpAnyH_ready (rs:=[13]) (by kernel_rfl) (by simp) ?_
 refine AllReadyH.cons rfl (λKQ hK=>?_) AllReadyH.nil
 go_simp;refine(j6x (lst:=lst) (hr:=hr) (tk:=tk) hG PD.out XD.out LD.out hnn HV.out.at_ (by have:=HLEQ.out;omega) ka hs).mono ?_
 intro e w2 hSL
 have ht2:=hSL.tw
 have HR:Hid (j4h G w ah km ko mb nn bs md av env nx i Kp n.text (ckL (ckE (Dp G) G.T ah md env f) n.kids K) e w2):=by
  show j4h _ _ _ _ _ _ _ _ _ _ _ _ _ _ _ _ _ _
  unfold j4h
  rw[hck.out]
  exact⟨_,Kpm,TD.out,PD.out,LL.out.kr,LL.out.lo,by rw[hvs.out];exact hSL⟩
 have BP2:=Hid.mk' (BPD.out.tw ht2 hwk hwa)
 have BN2:=Hid.mk' (BND.out.tw ht2 hwn hwb)
 unfold j6p at hSL
 split at hSL
 ·
  obtain⟨rfl,hbl⟩:=hSL
  have P2:=Hid.mk' (PD.out.later hbl)
  clear hbl ht2;refine hK.out _ _ (hS.out _ Kpm P2.out hka.out BP2.out BN2.out) (λhHeld=>?_)
  clear hK KQ;try simp only[zs]
  refine wpr 14 6 ?_;simp only[zs];refine wpAnyH_done (by kernel_rfl) ?_ _
  clear hHeld hS;go_wp2_with fail;go_ret;exact HR.out
 obtain⟨rfl,_,hp2,_⟩:=hSL
 have P2:=Hid.mk' hp2
 have hka2:Hid (upd Kpm (i:Int) ka a=ka):=by show _=_;unfold upd;rw[if_neg (by omega)];exact hka.out
 clear hp2 ht2;refine hK.out _ _ (hS.out _ _ P2.out hka2.out BP2.out BN2.out) (λhHeld=>?_)
 clear hK KQ;try simp only[zs]
 refine wpr 14 6 ?_;simp only[zs];refine wpAnyH_done (by kernel_rfl) ?_ _
 clear hHeld hS;go_wp2_with fail;go_ret;exact HR.out
end
end
section
open Go.RowKit
section
variable {D:Int->ByteArray->Int} {T:Tre} {ah:List Int} {md:Md} {env:Env} {N f:Nat} {K:KM} {i:Int} {lst:Bool}
theorem je5 {g:KM->Int->Ck (Int×KM)} {ks:List Int} {K:KM} {n:Nd} (hk:ks=n.kids) (h1:n.kids.length=1):ckL g ks K=match g K (kid n 0) with | .error q=> .error q | .ok (k,K1)=> .ok ([k],K1):=by
 subst hk
 match hm:n.kids,h1 with
 | [x],_ =>
  have:kid n 0=x:=by simp[kid,hm]
  rw[this]
  simp only[ckL]
  cases g K x with
  | error q=>rfl
  | ok q=>obtain⟨k,K1⟩:=q;rfl
theorem jia (hk:(nd T i).kind=12) (h1:(nd T i).kids.length=1) (hs:stands md (nd T i).kind lst=true):ckS D T ah N (f+1) md env K i lst=match ckL (ckE D T ah md env N) (nd T i).kids K with | .error q=> .error q | .ok (ks,K1)=>if (look env (nd T i).text).isSome=true then .error (2,i) else .ok (env++[((nd T i).text,ks[0]?.getD 0)],K1):=by
 rw[hk] at hs
 rw[je5 rfl h1,ckS]
 simp only[hs,hk]
 simp
 cases ckE D T ah md env N K (kid (nd T i) 0) with
 | error q=>rfl
 | ok q=>obtain⟨k,K1⟩:=q;simp
theorem je3 (hk:(nd T i).kind=13\/(nd T i).kind=14\/(nd T i).kind=15\/(nd T i).kind=19\/(nd T i).kind=23\/(nd T i).kind=25\/(nd T i).kind=26) (h1:(nd T i).kids.length=1) (hs:stands md (nd T i).kind lst=true):ckS D T ah N (f+1) md env K i lst=match plR D T ah md env N (nd T i) K i with | .error q=> .error q | .ok (_,K1)=> .ok (env,K1):=by
 unfold plR
 rw[je5 rfl h1,ckS]
 cases hE:ckE D T ah md env N K (kid (nd T i) 0) with
 | error q=>rcases hk with hk|hk|hk|hk|hk|hk|hk<;>(rw[hk] at hs;simp[hk,hs])
 | ok q =>
  obtain⟨k,K1⟩:=q
  simp only
  rcases hk with hk|hk|hk|hk|hk|hk|hk
  ·
   rw[hk] at hs
   have hrow:rowP D T ah md env (nd T i) [k]=(0,j0o (j0v D md env (nd T i)) k):=by unfold rowP;simp[hk]
   cases hl:look env (nd T i).text with
   | none =>
    have hc:j0o (j0v D md env (nd T i)) k=3:=by unfold j0v;simp[hk,hl,j0o]
    rw[hrow,hc];simp[hk,hl,hs]
   | some k' =>
    by_cases e:k'=k
    ·
     have hc:j0o (j0v D md env (nd T i)) k=0:=by unfold j0v;simp[hk,hl,j0o,e]
     rw[hrow,hc];simp[hk,hl,e,hs]
    have e2:¬k=k':=λq=>e q.symm
    have hc:j0o (j0v D md env (nd T i)) k=4:=by unfold j0v;simp[hk,hl,j0o,e2]
    rw[hrow,hc];simp[hk,hl,e,hs]
  ·
   rw[hk] at hs
   have hrow:rowP D T ah md env (nd T i) [k]=(0,j0o (j0v D md env (nd T i)) k):=by unfold rowP;simp[hk]
   by_cases h0:D 1 (nd T i).text=0
   ·
    have hc:j0o (j0v D md env (nd T i)) k=3:=by unfold j0v;unfold j2b;simp[hk,h0,j0o]
    rw[hrow,hc];simp[hk,h0,hs,ckTo]
   cases hi:inL (nd T i).text md.wth with
   | false =>
    have hc:j0o (j0v D md env (nd T i)) k=5:=by unfold j0v;unfold j2b;simp[hk,h0,hi,j0o]
    rw[hrow,hc];simp[hk,h0,hi,hs,ckTo]
   | true =>
    by_cases e:D 1 (nd T i).text=k
    ·
     have hk0:¬k=0:=λq=>h0 (e.trans q)
     have hc:j0o (j0v D md env (nd T i)) k=0:=by unfold j0v;unfold j2b;simp[hk,hi,j0o,e,hk0]
     rw[hrow,hc];simp[hk,hi,hs,ckTo,e,hk0]
    have e2:¬k=D 1 (nd T i).text:=λq=>e q.symm
    have hc:j0o (j0v D md env (nd T i)) k=4:=by unfold j0v;unfold j2b;simp[hk,h0,hi,j0o,e2]
    rw[hrow,hc];simp[hk,h0,hi,hs,ckTo,e]
  ·
   rw[hk] at hs
   have hrow:rowP D T ah md env (nd T i) [k]=(0,j0o (j0v D md env (nd T i)) k):=by unfold rowP;simp[hk]
   by_cases h0:D 2 (nd T i).text=0
   ·
    have hc:j0o (j0v D md env (nd T i)) k=3:=by unfold j0v;simp[hk,h0,j0o]
    rw[hrow,hc];simp[hk,h0,hs,ckTo]
   by_cases e:D 2 (nd T i).text=k
   ·
    have hk0:¬k=0:=λq=>h0 (e.trans q)
    have hc:j0o (j0v D md env (nd T i)) k=0:=by unfold j0v;simp[hk,j0o,e,hk0]
    rw[hrow,hc];simp[hk,hs,ckTo,e,hk0]
   have e2:¬k=D 2 (nd T i).text:=λq=>e q.symm
   have hc:j0o (j0v D md env (nd T i)) k=4:=by unfold j0v;simp[hk,h0,j0o,e2]
   rw[hrow,hc];simp[hk,h0,hs,ckTo,e]
  ·
   rw[hk] at hs
   have hrow:rowP D T ah md env (nd T i) [k]=(0,j0o (j0v D md env (nd T i)) k):=by unfold rowP;simp[hk]
   by_cases h0:D 3 (nd T i).text=0
   ·
    have hc:j0o (j0v D md env (nd T i)) k=3:=by unfold j0v;simp[hk,h0,j0o]
    rw[hrow,hc];simp[hk,h0,hs,ckTo]
   by_cases e:D 3 (nd T i).text=k
   ·
    have hk0:¬k=0:=λq=>h0 (e.trans q)
    have hc:j0o (j0v D md env (nd T i)) k=0:=by unfold j0v;simp[hk,j0o,e,hk0]
    rw[hrow,hc];simp[hk,hs,ckTo,e,hk0]
   have e2:¬k=D 3 (nd T i).text:=λq=>e q.symm
   have hc:j0o (j0v D md env (nd T i)) k=4:=by unfold j0v;simp[hk,h0,j0o,e2]
   rw[hrow,hc];simp[hk,h0,hs,ckTo,e]
  ·
   rw[hk] at hs
   have hrow:rowP D T ah md env (nd T i) [k]=(0,j0o (j0v D md env (nd T i)) k):=by unfold rowP;simp[hk]
   by_cases h0:D 1 (nd T i).text=0
   ·
    have hc:j0o (j0v D md env (nd T i)) k=3:=by unfold j0v;simp[hk,h0,j0o]
    rw[hrow,hc];simp[hk,h0,hs,ckTo]
   by_cases e:D 1 (nd T i).text=k
   ·
    have hk0:¬k=0:=λq=>h0 (e.trans q)
    have hc:j0o (j0v D md env (nd T i)) k=0:=by unfold j0v;simp[hk,j0o,e,hk0]
    rw[hrow,hc];simp[hk,hs,ckTo,e,hk0]
   have e2:¬k=D 1 (nd T i).text:=λq=>e q.symm
   have hc:j0o (j0v D md env (nd T i)) k=4:=by unfold j0v;simp[hk,h0,j0o,e2]
   rw[hrow,hc];simp[hk,h0,hs,ckTo,e]
  ·
   rw[hk] at hs
   have hrow:rowP D T ah md env (nd T i) [k]=(0,0):=by unfold rowP;simp[hk]
   rw[hrow];simp[hk,hs]
  rw[hk] at hs
  have hrow:rowP D T ah md env (nd T i) [k]=(0,0):=by unfold rowP;simp[hk]
  rw[hrow];simp[hk,hs]
theorem jfl (hk:(nd T i).kind=22\/(nd T i).kind=24) (h1:(nd T i).kids.length=0) (hs:stands md (nd T i).kind lst=true):ckS D T ah N (f+1) md env K i lst=match plR D T ah md env N (nd T i) K i with | .error q=> .error q | .ok (_,K1)=> .ok (env,K1):=by
 have h0:(nd T i).kids=[]:=List.length_eq_zero_iff.1 h1
 unfold plR
 rw[h0,ckS]
 simp only[ckL]
 rcases hk with hk|hk
 ·
  rw[hk] at hs
  have hr:rowP D T ah md env (nd T i) []=(0,0):=by unfold rowP;simp[hk]
  rw[hr]
  simp[hk,hs]
 rw[hk] at hs
 have hrow:rowP D T ah md env (nd T i) []=(0,(prE (j0v D md env (nd T i))).2):=by unfold rowP;simp[hk]
 by_cases h0:D 1 (nd T i).text=0
 ·
  have hc:(prE (j0v D md env (nd T i))).2=3:=by unfold j0v;simp[hk,h0,prE]
  rw[hrow,hc];simp[hk,h0,hs]
 have hc:(prE (j0v D md env (nd T i))).2=0:=by unfold j0v;simp[hk,h0,prE]
 rw[hrow,hc];simp[hk,h0,hs]
end
section
variable {G:Pd} {w w' w'':World} {ah:List Int} {Kp Kp' K:KM} {km ko mb nn:Nat} {gg:Nm} {bs:List Nat} {md:Md} {av:Value} {env:Env} {nx i:Nat} {lst hr:Bool} {tk:Int}
def j13 (G:Pd) (w:World) (ah:List Int) (nx:Nat) (Kp:KM) (r:Ck KM) (e:Ending) (w':World):Prop:=match r with
 | .error (c,n)=>e=.returned (errV c n)/\Tw G.kb G.kb w w'
 | .ok K1=>e=.returned .nilIface/\Tw G.kb G.kb w w'/\∃Kp1,Pv G w' ah Kp1/\KR G.T Kp1 K1/\∀j,j<nx->Kp1 j=Kp j
theorem j13.bad {c n:Int} {r:Ck KM} (hr:r=.error (c,n)) (ht:Tw G.kb G.kb w w'):j13 G w ah nx Kp r (.returned (errV c n)) w':=by subst hr;exact⟨rfl,ht⟩
theorem j13.good {K1 Kp1:KM} {r:Ck KM} (hr:r=.ok K1) (ht:Tw G.kb G.kb w w') (h1:Pv G w' ah Kp1) (h2:KR G.T Kp1 K1) (h3:∀j,j<nx->Kp1 j=Kp j):j13 G w ah nx Kp r (.returned .nilIface) w':=by subst hr;exact⟨rfl,ht,Kp1,h1,h2,h3⟩
theorem j13.tw {r:Ck KM} {e:Ending} (h:j13 G w ah nx Kp r e w'):Tw G.kb G.kb w w':=by
 unfold j13 at h
 split at h
 ·
  exact h.2
 exact h.2.1
def j21 (G:Pd) (w:World) (ah:List Int) (km ko mb:Nat) (bs:List Nat) (md:Md) (av:Value) (nx i:Nat) (Kp:KM) (r:Ck (Env×KM)) (e:Ending) (w':World):Prop:=match r with
 | .error (c,n)=>e=.returned (errV c n)/\Tw G.kb mb w w'
 | .ok (env',K1)=>e=.returned .nilIface/\Tw G.kb mb w w'/\∃Kp1 gg' n',Pv G w' ah Kp1/\KR G.T Kp1 K1/\(∀j,j<nx->Kp1 j=Kp j)/\Px G w' km ko gg' bs md av env' Kp1 (i+1)/\Lx G w' km ko mb n' gg' bs av/\n'<=i+1
theorem j21.bad {c n:Int} {r:Ck (Env×KM)} (hr:r=.error (c,n)) (ht:Tw G.kb mb w w'):j21 G w ah km ko mb bs md av nx i Kp r (.returned (errV c n)) w':=by subst hr;exact⟨rfl,ht⟩
theorem j21.tw {r:Ck (Env×KM)} {e:Ending} (h:j21 G w ah km ko mb bs md av nx i Kp r e w'):Tw G.kb mb w w':=by
 unfold j21 at h
 split at h
 ·
  exact h.2
 exact h.2.1
theorem j13.stm {r:Ck KM} {e:Ending} (h:j13 G w ah nx Kp r e w') (hp:Px G w km ko gg bs md av env Kp nx) (hl:Lx G w km ko mb nn gg bs av) (hn:nn<=nx) (hi:nx<=i):j21 G w ah km ko mb bs md av nx i Kp (j2f env r) e w':=by
 unfold j13 at h
 unfold j21 j2f
 cases r with
 | error q=>exact⟨h.1,h.2.more mb⟩
 | ok K1 =>
  obtain⟨h1,h2,Kp1,h3,h4,h5⟩:=h
  exact⟨h1,h2.more mb,Kp1,gg,nn,h3,h4,h5,(hp.tw h2 h5).mono (by omega),hl.tw hp.ap h2,by omega⟩
def StP (G:Pd) (ah:List Int) (f:Nat):Prop :=
 ∀(md:Md) (env:Env) (km ko mb nn:Nat) (gg:Nm) (bs:List Nat) (av:Value) (lst hr:Bool) (tk:Int) (i nx:Nat) (n:Nd) (Kp K:KM) (w:World),i<f->VN G.T i n->FitL (j0e G.T) (okN G.T) n.kids nx i->(12<=n.kind/\n.kind<=26)->nn<=nx->Hid (tk=(if md.fn=true then 33 else 34)/\hr=md.hears)->Pv G w ah Kp->Px G w km ko gg bs md av env Kp nx->Lx G w km ko mb nn gg bs av->KR G.T Kp K->
  Calls Tryz.prog 85 #[.pointer (some ⟨G.c,0,none⟩),.int .i64 (i:Int),.agg #[addF km,j09 km ko,.int .i64 tk,.bool lst,.bool hr,av]] w λe w'=>j21 G w ah km ko mb bs md av nx i Kp (ckS (Dp G) G.T ah G.T.nodes.length f md env K (i:Int) lst) e w'
theorem nest {v:Value} {g:Nm} (h:Pv G w ah Kp) (hs:Sc w v g bs) (hap:∀b∈bs,¬b=G.kb) (her:∀s,je4 (look env s) (g s) Kp nx) (ham:AskM G w md av) (hN:j56 w w' v km mb ko) :
  Px G w' km ko (orN (λ_=>none) g) (km :: mb :: ko :: bs) md av env Kp nx/\Lx G w' km ko mb 0 (orN (λ_=>none) g) (km :: mb :: ko :: bs) av:=by
 have hkl:=h.kl
 have hbl:=h.bl.size
 have o1:=hN.o1
 have o2:=hN.o2
 have o3:=hN.o3
 have hsc:=hs.later hN.bl
 have hlt:=hs.lt
 have hkm:¬km=mb:=by
  intro e
  have h1:=hN.k1
  obtain⟨D,⟨es,cl,hb,_⟩,_⟩:=hN.k2
  unfold Blk at h1
  rw[e,hb] at h1
  simp at h1
 have hko:¬ko=mb:=by
  intro e
  have h1:=hN.k3
  obtain⟨D,⟨es,cl,hb,_⟩,_⟩:=hN.k2
  unfold Blk at h1
  rw[e,hb] at h1
  simp at h1
 have hgg:∀s,orN (λ_=>none) g s=g s:=λs=>rfl
 refine⟨⟨Sc.cons km mb 0 ko v _ g bs hN.k1 hN.k2 hN.k3 hsc,?_,λs=>by rw[hgg];exact her s,?_⟩,⟨⟨_,g,v,bs,hN.k1,hN.k2,hN.k3,hsc,rfl,rfl,⟨hkm,hko⟩,λb hb=>by have:=hlt b hb;omega⟩,by omega,?_,?_,by omega,?_⟩⟩
 ·
  intro b hb
  simp only[List.mem_cons] at hb
  rcases hb with rfl|rfl|rfl|hb
  ·
   omega
  ·
   omega
  ·
   omega
  exact hap b hb
 ·
  exact ham.same λb hb _=>hN.bl.block b hb
 ·
  have:=h.bx.lt;omega
 ·
  obtain⟨m,_,h2⟩:=h.tp
  have:=h2.lt;omega
 intro ba hba
 rcases ham with ⟨_,h2,_⟩|⟨_,ba',na,fa,h2,h3,_⟩
 ·
  rw[h2] at hba;cases hba
 rw[h2] at hba
 cases hba
 have:=h3.lt;omega
end
end
end Go.Proofs.YtjbbagcpcepkoaaGreatDoor
