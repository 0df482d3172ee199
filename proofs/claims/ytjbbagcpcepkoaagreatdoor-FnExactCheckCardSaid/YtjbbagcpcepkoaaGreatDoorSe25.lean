import Derived.Test.YtjbbagcpcepkoaaGreatDoorSe05
import Derived.Shelf.Strings.Trim
import Derived.Shelf.Strings.BuilderK
import Derived.Shelf.Strings.Prefix
namespace Go.Proofs
open Go.Shelf
shelf_lay Lays.n160 Nm 160 at Tryz as Tryz.laysTrim
shelf_lay Lays.n161 Nm 161 at Tryz as Tryz.laysTrimLeft
shelf_lay Lays.n99 Nm 99 at Tryz as Tryz.laysHasPre
shelf_lay Lays.n169 Nm 169 at Tryz as Tryz.laysBString
theorem Tryz.extraS:Builder.Extra Tryz.prog Tryz.laysBString_ren where
  sizeBuilder:=by kernel_rfl
  liesBuilder:=by kernel_rfl
  t5:=Tryz.underlying5
  a5:=Tryz.isAgg5
  z5:=Tryz.sizeOf5
  v5:=Tryz.zeroValue5
  infoByte:=by kernel_rfl
  cellsByte:=by kernel_rfl
  sizeByte:=by kernel_rfl
  neB5:=by decide
end Go.Proofs
namespace Go.Proofs.YtjbbagcpcepkoaaGreatDoor
set_option maxRecDepth 100000
set_option maxHeartbeats 64000000
set_option linter.unusedVariables false
set_option linter.unusedSimpArgs false
section
open Go.RowKit
theorem j96 (B b:Nat) (bs:List Value) (w:World) (h:Lib.IsBuilderF 165 5 B b bs w) :
  Calls Tryz.prog 109 #[.pointer (some ⟨b,0,none⟩)] w λe w'=>e=.returned (.tuple #[])/\Lib.BuilderAtF 165 5 B b (.pointer (some ⟨b,0,none⟩)) bs w'/\Below B w w':=by
 have HH:Hid (Lib.IsBuilderF 165 5 B b bs w):=h
 rcases h with h|h
 ·
  have HA:Hid (Lib.BuilderAtF 165 5 B b (.pointer none) bs w):=h
  have c0:=h.cell0
  have sh:=h.shape
  have fz:=h.frozen0
  obtain⟨j,hj,hjs⟩:=Option.map_eq_some_iff.1 Tryz.extraS.toX72.sizeBuilder
  clear h;go_enter Tryz.func109,Tryz.ntmps109
  go_wp2_with fail;rw[Lib.run_to_unsafe w ⟨b,0,none⟩ Tryz.underlying162 Tryz.underlying95 hj (by rw[hjs];decide) sh (Nat.zero_lt_succ 1)]
  simp only[Result.andThen]
  rw[Oper.upon_value]
  go_wp2_with fail;rw[run_callFunc_extern Tryz.func129 (by kernel_rfl) (by kernel_rfl) (by kernel_rfl) (e:=Extern.AbiNoEscape.same) (by kernel_rfl),Lib.run_noEscape]
  simp only[Result.andThen]
  rw[Oper.upon_value]
  go_wp2_with fail;rw[Lib.run_from_unsafe w ⟨b,0,none⟩ Tryz.underlying95 Tryz.underlying162 hj sh Tryz.extraS.toX72.liesBuilder]
  simp only[Result.andThen]
  rw[Oper.upon_value]
  go_wp2_with fail;refine bodyPost_end (results_none (fn:=Tryz.f109) (by kernel_rfl) _ _ _) (by rfl) ?_
  exact⟨rfl,HA.out.used _,(Below.refl B w).setCell (p:=⟨b,0,none⟩) HA.out.1 _⟩
 have HA:Hid (Lib.BuilderAtF 165 5 B b (.pointer (some ⟨b,0,none⟩)) bs w):=h
 have c0:=h.cell0
 obtain⟨j,hj,_⟩:=Option.map_eq_some_iff.1 Tryz.extraS.toX72.sizeBuilder
 clear h;go_enter Tryz.func109,Tryz.ntmps109
 go_wp2_with fail;rw[Lib.run_neq_ptr_same w _ Tryz.underlying162 hj]
 go_wp2_with fail;go_end0
 exact⟨rfl,HA.out,Below.refl B _⟩
theorem Tryz.infoU8:(Tryz.prog.info? 5).map (λi=>(i.zero,i.size,i.bytes))=some (some (.int .u8 0),1,1):=by kernel_rfl
theorem ja4 (B b:Nat) (bs:List Value) (c:Int) (w:World) (h:Lib.IsBuilderF 165 5 B b bs w) (hlen:bs.length+1<=140737488355328) (hBw:B<=w.heap.size) :
  Calls Tryz.prog 81 #[.pointer (some ⟨b,0,none⟩),.int .u8 c] w λe w'=>e=.returned .nilIface/\Lib.BuilderAtF 165 5 B b (.pointer (some ⟨b,0,none⟩)) (bs++[.int .u8 c]) w'/\Below B w w':=by
 have HH:Hid (Lib.IsBuilderF 165 5 B b bs w):=h
 clear h;obtain⟨i0,hi,hz0,hz1,hz2⟩:=info_parts Tryz.infoU8
 go_enter Tryz.func81,Tryz.ntmps81
 go_wp2_with fail;refine(j96 B b bs _ HH.out).mono ?_
 rintro e w1 ⟨rfl,hA,hb1⟩
 obtain⟨hB,v,hbk,hown,hne⟩:=hA
 have sz1:=hb1.size
 have c0:w1.cell? ⟨b,0,none⟩=some (.pointer (some ⟨b,0,none⟩)):=by rw[Lib.cell_of_heap hbk];rfl
 have c1:w1.cell? ⟨b,1,none⟩=some v:=by rw[Lib.cell_of_heap hbk];rfl
 go_wp2_with (at_builtin;refine wpList_append_ownF _ rfl _ _ 163 rfl B 5 i0 (.int .u8 0) 1 1 Tryz.underlying163 hi hz0 hz1 hz2 rfl (by decide) _ _ _ rfl (hown.alloc _) ⟨w1.heap.size,0,none⟩ 1 1 [.int .u8 c] rfl rfl ?a1 ?a2 ?a3 ?a4 ?a5 ?_)
 case a1 =>
  intro j u hj
  cases j with
  | zero=>simp at hj;subst hj;simp[Addr.add]
  | succ j=>simp at hj
 case a2=>intro u hu;simp at hu;subst hu;rfl
 case a3=>unfold maxLen;omega
 case a4=>omega
 case a5=>simp;omega
 intro v' w2 hown' hgrow _
 have hlt:b<w1.heap.size:=(Array.getElem?_eq_some_iff.1 hbk).1
 have hb2:w2.heap[b]?=some (.cells #[.pointer (some ⟨b,0,none⟩),v] 165 (0,0)):=by
  rw[hgrow.block b (by simp;omega) (λe=>hne e.symm),Lib.alloc_old w1 _ b hlt]
  exact hbk
 have d0:w2.cell? ⟨b,0,none⟩=some (.pointer (some ⟨b,0,none⟩)):=by rw[Lib.cell_of_heap hb2];rfl
 have d1:w2.cell? ⟨b,1,none⟩=some v:=by rw[Lib.cell_of_heap hb2];rfl
 have d2:w2.frozen? ⟨b,1,none⟩=false:=Lib.frozen_of_heap hb2 1
 have HG:Hid (Below B w w2):=(hb1.alloc (by omega) _).grown hgrow (by simp;omega) (λk hk=>(hown.lt k hk).1)
 obtain⟨g,cap,rfl⟩:∃g cap,v'=.slice (some ⟨g,0,none⟩) (bs.length+1) cap:=by
  rcases hown'.2 with ⟨_,h0⟩|⟨g,cap,cur,fz,hv,_⟩
  ·
   omega
  exact⟨g,cap,hv⟩
 have HP:=Lib.BuilderAtF.put (T:=165) (e:=5) hB hb2 (bs':=bs++[.int .u8 c]) (by simpa using hown') (by decide)
 clear hown hown' hgrow hb1 hbk c0 c1;go_wp2_with fail;go_ret;exact⟨rfl,HP,HG.out.setCell (p:=⟨b,1,none⟩) hB _⟩
theorem j40 {p:UInt8->Bool}:∀{l:List UInt8},l.dropWhile p=[] ↔∀b∈l,p b=true
 | []=>by simp
 | a :: l=>by
  rw[List.dropWhile_cons]
  cases h:p a
  ·
   simp[h]
  simp[h,j40 (l:=l)]
theorem ja3 {l:List UInt8} {c:UInt8}:Lib.trimB l c=[] ↔∀b∈l,b=c:=by
 unfold Lib.trimB Lib.trimLeftB Lib.trimRightB
 rw[j40]
 constructor
 ·
  intro h b hb
  have hb2:b∈l.reverse:=List.mem_reverse.2 hb
  rw[<-List.takeWhile_append_dropWhile (p:=(· ==c)) (l:=l.reverse)] at hb2
  rcases List.mem_append.1 hb2 with h1|h1
  ·
   have:=List.all_takeWhile (p:=(· ==c)) (l:=l.reverse)
   rw[List.all_eq_true] at this
   simpa using this b h1
  simpa using h b (List.mem_reverse.2 h1)
 intro h b hb
 have h1:=List.mem_reverse.1 hb
 have h2:b∈l.reverse:=(List.dropWhile_sublist _).subset h1
 simp[h b (List.mem_reverse.1 h2)]
theorem j0r {l:List UInt8} (h:¬l=[]):¬(⟨l.toArray⟩:ByteArray)=⟨#[]⟩:=by
 intro e
 have:=congrArg ByteArray.data e
 simp at this
 exact h this
theorem jcb (k:Int) (w:World):Calls Tryz.prog 30 #[.int .i64 k] w λe w'=>e=.returned (.int .u8 ((rl k).toNat:Int))/\w'=w:=by
 by_cases hs:27<=k/\k<=34
 ·
  have h5:k=27\/k=28\/k=29\/k=30\/k=31\/k=32\/k=33\/k=34:=by omega
  clear hs;rcases h5 with rfl|rfl|rfl|rfl|rfl|rfl|rfl|rfl <;>
  ·
   go_enter Tryz.func30,Tryz.ntmps30
   go_wp2_with fail;go_ret;exact⟨rfl,rfl⟩
 have e1:(k ==27)=false:=by simp;omega
 have e2:(k ==28)=false:=by simp;omega
 have e3:(k ==29)=false:=by simp;omega
 have e4:(k ==30)=false:=by simp;omega
 have e5:(k ==31)=false:=by simp;omega
 have e6:(k ==32)=false:=by simp;omega
 have e7:(k ==33)=false:=by simp;omega
 have e8:(k ==34)=false:=by simp;omega
 have HR:Hid (rl k=if 1<=k/\k<=11 then 101 else if 12<=k/\k<=26 then 115 else 63):=by
  show _=_
  unfold rl
  rw[if_neg (by omega),if_neg (by omega),if_neg (by omega),if_neg (by omega),if_neg (by omega),if_neg (by omega),if_neg (by omega)]
 clear hs;by_cases h1:1<=k
 ·
  by_cases h2:k<=11
  ·
   have HE:Hid (rl k=101):=by show _=_;rw[HR.out,if_pos ⟨h1,h2⟩]
   go_enter Tryz.func30,Tryz.ntmps30
   go_wp2_with fail;go_ret;exact⟨by rw[HE.out];rfl,rfl⟩
  have h3:12<=k:=by omega
  by_cases h4:k<=26
  ·
   have HE:Hid (rl k=115):=by show _=_;rw[HR.out,if_neg (by omega),if_pos ⟨h3,h4⟩]
   go_enter Tryz.func30,Tryz.ntmps30
   go_wp2_with fail;go_ret;exact⟨by rw[HE.out];rfl,rfl⟩
  have HE:Hid (rl k=63):=by show _=_;rw[HR.out,if_neg (by omega),if_neg (by omega)]
  go_enter Tryz.func30,Tryz.ntmps30
  go_wp2_with fail;go_ret;exact⟨by rw[HE.out];rfl,rfl⟩
 have h3:¬12<=k:=by omega
 have HE:Hid (rl k=63):=by show _=_;rw[HR.out,if_neg (by omega),if_neg (by omega)]
 go_enter Tryz.func30,Tryz.ntmps30
 go_wp2_with fail;go_ret;exact⟨by rw[HE.out];rfl,rfl⟩
theorem j42 (l:List UInt8) (c:UInt8) (hc:c.toNat<128) (hl:l.length<=1048576) (w:World) :
  Calls Tryz.prog 63 #[.string ⟨l.toArray⟩,.string ⟨#[c]⟩] w λe w'=>e=.returned (.bool (decide (∀b∈l,b=c)))/\Below w.heap.size w w':=by
 have hT:=Any.strings_Trim_one Tryz.laysTrim ⟨l.toArray⟩ c hc w (by show l.toArray.size<=_;simp;omega)
 go_enter Tryz.func63,Tryz.ntmps63
 go_wp2_with fail;refine hT.mono ?_
 rintro e w1 ⟨rfl,hb⟩
 have hb1:Below w.heap.size w w1:=by
  rcases hb with rfl|rfl
  ·
   exact Below.refl _ _
  exact j02 (Below.refl _ _)
 clear hb;by_cases h:∀b∈l,b=c
 ·
  have h1:=ja3.2 h
  have HE:Hid (decide (∀b∈l,b=c)=true):=decide_eq_true h
  rw[h1]
  clear h h1 hT;go_wp2_with fail;go_ret;exact⟨j03 HE.out.symm,hb1⟩
 have h1:=j0r (λg=>h (ja3.1 g))
 have q9:=j0c h1
 have HE:Hid (decide (∀b∈l,b=c)=false):=decide_eq_false h
 have H1:Hid (¬(⟨(Lib.trimB l c).toArray⟩:ByteArray)=⟨#[]⟩):=h1
 generalize (⟨(Lib.trimB l c).toArray⟩:ByteArray)=r at h1 q9 H1 ⊢
 clear h h1 hT;go_wp2_with fail;go_ret;refine⟨j03 ?_,hb1⟩
 rw[HE.out]
 have:=j0c H1.out
 simpa using this
theorem j0a (t:Tre) (s s1:Option Addr) (c c1:Nat) (L:List Int) (B C:Nat) (w:World) (hL:Els 1 cInt w B s L) (hN:Els 4 j1d w C s1 t.nodes) (hv:∀x∈L,∃m:Nat,x=m/\m<t.nodes.length) (hl:L.length<=1048576) (hn:t.nodes.length<=1048576) :
  Calls Tryz.prog 64 #[.slice s L.length c,.slice s1 t.nodes.length c1] w λe w'=>e=.returned (.string ⟨((L.map (kkAt t)).map rl).toArray⟩)/\Below w.heap.size w w':=by
 have HV:Hid (∀x∈L,∃m:Nat,x=m/\m<t.nodes.length):=hv
 have HL:Hid (Els 1 cInt w B s L):=hL
 have HN:Hid (Els 4 j1d w C s1 t.nodes):=hN
 clear hv hL hN;have HI:Hid (Lib.IsBuilderF 165 5 w.heap.size w.heap.size (Lib.byteCells []) (w.alloc (.cells #[.pointer none,.slice none 0 0] 165))):=Lib.IsBuilderF.of (Lib.fresh_isBuilder 165 5 w)
 go_enter Tryz.func64,Tryz.ntmps64
 go_wp2_with fail;go_loopw [10] (λi wr=>∃(j:Nat) (acc:List UInt8),j<=L.length/\i=.int .i64 j/\Hid (acc=((L.take j).map (kkAt t)).map rl)/\Hid (Lib.IsBuilderF 165 5 w.heap.size w.heap.size (Lib.byteCells acc) wr)/\Hid (Below w.heap.size w wr)) (λi _=>L.length-(intOf i).toNat)
 case atStart=>exact⟨0,[],Nat.zero_le _,rfl,rfl,HI,j00 (Below.refl _ _) _⟩
 obtain⟨j,acc,hj,rfl,hacc,hI,hbw⟩:=hrel
 have hsz:w.heap.size<=wr.heap.size:=hbw.out.size
 by_cases hlt:j<L.length
 ·
  obtain⟨x,hxj⟩:=j0p hlt
  obtain⟨kb,ko,rfl,_,hkb,p00⟩:=j05 HL.out hxj
  have p0:=(hbw.out.cell (p:=⟨kb,ko+j,none⟩) hkb).trans p00
  obtain⟨m,rfl,hm⟩:=HV.out x (List.mem_of_getElem? hxj)
  obtain⟨nd,hnd⟩:=j0p hm
  obtain⟨b,o,rfl,_,hb,s9,c9,e0,_,_,_,_⟩:=j14 HN.out hnd
  have p1:=(hbw.out.cell (p:=⟨b,o+m*4,none⟩) hb).trans e0
  have HK:Hid (kkAt t (m:Int)=nd.kind):=by show _=_;simp[kkAt,hnd]
  have HX:Hid (L[j]?=some (m:Int)):=hxj
  have hmI:(m:Int)<(t.nodes.length:Int):=by omega
  have la:acc.length<=1048576:=by rw[hacc.out];simp;omega
  clear hxj hnd e0 p00;go_wp2_with (first|(go_at_call 30;refine(jcb _ _).mono ?_;rintro e w' ⟨rfl,hw'⟩;have hw2:=hw'.symm;clear hw';subst hw2)|(go_at_call 81;refine(ja4 w.heap.size w.heap.size _ _ _ hI.out (by rw[Lib.byteCells_length];omega) hsz).mono ?_;rintro e W1 ⟨rfl,h1,b1⟩))
  go_roundw
  case rel =>
   refine⟨j+1,acc++[rl nd.kind],by omega,by go_num,?_,?_,Below.trans hbw.out b1⟩
   ·
    show _=_
    rw[List.take_add_one,HX.out,hacc.out]
    simp[HK.out]
   rw[Lib.byteCells_append]
   exact Or.inr h1
  case measure=>simp[intOf];omega
 go_wp2_with (go_at_call 82;refine(Any.Builder_String_any_k Tryz.laysBString Tryz.extraS w.heap.size w.heap.size acc _ hI.out hsz).mono ?_;rintro e W1 ⟨rfl,_,b1,_⟩)
 go_ret;refine⟨?_,Below.trans hbw.out b1⟩
 rw[hacc.out,show j=L.length by omega,List.take_length]
 all_goals rfl
end
section
open Go.RowKit
noncomputable def kidB (kind:Int) (ks:List Int):Bool:=@decide (j38 kind ks) (Classical.propDecidable _)
theorem j97 {kind:Int} {ks:List Int} (h:j38 kind ks):kidB kind ks=true:=@decide_eq_true _ (Classical.propDecidable _) h
theorem j86 {kind:Int} {ks:List Int} (h:¬j38 kind ks):kidB kind ks=false:=@decide_eq_false _ (Classical.propDecidable _) h
theorem j0u {kind:Int} {ks:List Int} {p:Prop} [Decidable p] (h:j38 kind ks ↔ p):kidB kind ks=decide p:=by
 by_cases g:p
 ·
  rw[j97 (h.2 g),decide_eq_true g]
 rw[j86 (λq=>g (h.1 q)),decide_eq_false g]
def j10 (t:Tre) (kind:Int) (kids:List Int) (w:World) (e:Ending) (w':World):Prop:=e=.returned (.bool (kidB kind (kids.map (kkAt t))))/\Below w.heap.size w w'
theorem j1o {R L:List UInt8} (h:¬R=L):(R ==L)=false:=by simpa using h
theorem jll (t:Tre) (tx:ByteArray) (q:Int) (s s1:Option Addr) (c c1:Nat) (kids:List Int) (B C:Nat) (w:World) (hL:Els 1 cInt w B s kids) (hN:Els 4 j1d w C s1 t.nodes) (hv:∀x∈kids,∃m:Nat,x=m/\m<t.nodes.length) (hl:kids.length<=1048576) (hn:t.nodes.length<=1048576) :
  Calls Tryz.prog 62 #[.agg #[.int .i64 1,.string tx,.int .i64 q,.slice s kids.length c],.slice s1 t.nodes.length c1] w (j10 t 1 kids w):=by
 have k0:=Blk.new w #[.int .i64 1,.string tx,.int .i64 q,.slice s kids.length c] 73
 have L0:=j00 (Below.refl _ w) (.cells #[.int .i64 1,.string tx,.int .i64 q,.slice s kids.length c] 73)
 obtain⟨x0,x1,x2,x3,x4⟩:=k0.four'
 have hr:=j0a t s s1 c c1 kids B C _ (hL.later j07 L0) (hN.later j08 L0) hv hl hn
 go_enter Tryz.func62,Tryz.ntmps62
 go_wp2_with fail;refine hr.mono ?_
 rintro e w1 ⟨rfl,hb1⟩
 have L1:=j01 L0 hb1
 obtain⟨y0,y1,y2,y3,y4⟩:=(k0.later hb1).four'
 have hrl:(((kids.map (kkAt t)).map rl)).length<=1048576:=by simp;exact hl
 have HI:Hid (kidB 1 (kids.map (kkAt t))=decide ((kids.map (kkAt t)).map rl=[])):=j0u (j0s [] (λn=>by simp[shp]) (by decide))
 generalize hR:(kids.map (kkAt t)).map rl=R at hrl HI ⊢
 clear hr x0 x1 x2 x3 x4;by_cases h1:R=[]
 ·
  subst h1
  go_wp2_with fail;go_ret;exact⟨j03 (by rw[HI.out];rfl),L1⟩
 have q1:=j0c (j0r h1)
 have H1:Hid (¬R=[]):=h1
 clear h1;go_wp2_with fail;go_ret;exact⟨j03 (by rw[HI.out,decide_eq_false H1.out];have h9:=j0c (j0r H1.out);simpa using h9),L1⟩
theorem jm1 (t:Tre) (tx:ByteArray) (q:Int) (s s1:Option Addr) (c c1:Nat) (kids:List Int) (B C:Nat) (w:World) (hL:Els 1 cInt w B s kids) (hN:Els 4 j1d w C s1 t.nodes) (hv:∀x∈kids,∃m:Nat,x=m/\m<t.nodes.length) (hl:kids.length<=1048576) (hn:t.nodes.length<=1048576) :
  Calls Tryz.prog 62 #[.agg #[.int .i64 2,.string tx,.int .i64 q,.slice s kids.length c],.slice s1 t.nodes.length c1] w (j10 t 2 kids w):=by
 have k0:=Blk.new w #[.int .i64 2,.string tx,.int .i64 q,.slice s kids.length c] 73
 have L0:=j00 (Below.refl _ w) (.cells #[.int .i64 2,.string tx,.int .i64 q,.slice s kids.length c] 73)
 obtain⟨x0,x1,x2,x3,x4⟩:=k0.four'
 have hr:=j0a t s s1 c c1 kids B C _ (hL.later j07 L0) (hN.later j08 L0) hv hl hn
 go_enter Tryz.func62,Tryz.ntmps62
 go_wp2_with fail;refine hr.mono ?_
 rintro e w1 ⟨rfl,hb1⟩
 have L1:=j01 L0 hb1
 obtain⟨y0,y1,y2,y3,y4⟩:=(k0.later hb1).four'
 have hrl:(((kids.map (kkAt t)).map rl)).length<=1048576:=by simp;exact hl
 have HI:Hid (kidB 2 (kids.map (kkAt t))=decide ((kids.map (kkAt t)).map rl=[])):=j0u (j0s [] (λn=>by simp[shp]) (by decide))
 generalize hR:(kids.map (kkAt t)).map rl=R at hrl HI ⊢
 clear hr x0 x1 x2 x3 x4;by_cases h1:R=[]
 ·
  subst h1
  go_wp2_with fail;go_ret;exact⟨j03 (by rw[HI.out];rfl),L1⟩
 have q1:=j0c (j0r h1)
 have H1:Hid (¬R=[]):=h1
 clear h1;go_wp2_with fail;go_ret;exact⟨j03 (by rw[HI.out,decide_eq_false H1.out];have h9:=j0c (j0r H1.out);simpa using h9),L1⟩
theorem jlm (t:Tre) (tx:ByteArray) (q:Int) (s s1:Option Addr) (c c1:Nat) (kids:List Int) (B C:Nat) (w:World) (hL:Els 1 cInt w B s kids) (hN:Els 4 j1d w C s1 t.nodes) (hv:∀x∈kids,∃m:Nat,x=m/\m<t.nodes.length) (hl:kids.length<=1048576) (hn:t.nodes.length<=1048576) :
  Calls Tryz.prog 62 #[.agg #[.int .i64 3,.string tx,.int .i64 q,.slice s kids.length c],.slice s1 t.nodes.length c1] w (j10 t 3 kids w):=by
 have k0:=Blk.new w #[.int .i64 3,.string tx,.int .i64 q,.slice s kids.length c] 73
 have L0:=j00 (Below.refl _ w) (.cells #[.int .i64 3,.string tx,.int .i64 q,.slice s kids.length c] 73)
 obtain⟨x0,x1,x2,x3,x4⟩:=k0.four'
 have hr:=j0a t s s1 c c1 kids B C _ (hL.later j07 L0) (hN.later j08 L0) hv hl hn
 go_enter Tryz.func62,Tryz.ntmps62
 go_wp2_with fail;refine hr.mono ?_
 rintro e w1 ⟨rfl,hb1⟩
 have L1:=j01 L0 hb1
 obtain⟨y0,y1,y2,y3,y4⟩:=(k0.later hb1).four'
 have hrl:(((kids.map (kkAt t)).map rl)).length<=1048576:=by simp;exact hl
 have HI:Hid (kidB 3 (kids.map (kkAt t))=decide ((kids.map (kkAt t)).map rl=[])):=j0u (j0s [] (λn=>by simp[shp]) (by decide))
 generalize hR:(kids.map (kkAt t)).map rl=R at hrl HI ⊢
 clear hr x0 x1 x2 x3 x4;by_cases h1:R=[]
 ·
  subst h1
  go_wp2_with fail;go_ret;exact⟨j03 (by rw[HI.out];rfl),L1⟩
 have q1:=j0c (j0r h1)
 have H1:Hid (¬R=[]):=h1
 clear h1;go_wp2_with fail;go_ret;exact⟨j03 (by rw[HI.out,decide_eq_false H1.out];have h9:=j0c (j0r H1.out);simpa using h9),L1⟩
theorem jl8 (t:Tre) (tx:ByteArray) (q:Int) (s s1:Option Addr) (c c1:Nat) (kids:List Int) (B C:Nat) (w:World) (hL:Els 1 cInt w B s kids) (hN:Els 4 j1d w C s1 t.nodes) (hv:∀x∈kids,∃m:Nat,x=m/\m<t.nodes.length) (hl:kids.length<=1048576) (hn:t.nodes.length<=1048576) :
  Calls Tryz.prog 62 #[.agg #[.int .i64 4,.string tx,.int .i64 q,.slice s kids.length c],.slice s1 t.nodes.length c1] w (j10 t 4 kids w):=by
 have k0:=Blk.new w #[.int .i64 4,.string tx,.int .i64 q,.slice s kids.length c] 73
 have L0:=j00 (Below.refl _ w) (.cells #[.int .i64 4,.string tx,.int .i64 q,.slice s kids.length c] 73)
 obtain⟨x0,x1,x2,x3,x4⟩:=k0.four'
 have hr:=j0a t s s1 c c1 kids B C _ (hL.later j07 L0) (hN.later j08 L0) hv hl hn
 go_enter Tryz.func62,Tryz.ntmps62
 go_wp2_with fail;refine hr.mono ?_
 rintro e w1 ⟨rfl,hb1⟩
 have L1:=j01 L0 hb1
 obtain⟨y0,y1,y2,y3,y4⟩:=(k0.later hb1).four'
 have hrl:(((kids.map (kkAt t)).map rl)).length<=1048576:=by simp;exact hl
 have HI:Hid (kidB 4 (kids.map (kkAt t))=decide ((kids.map (kkAt t)).map rl=[])):=j0u (j0s [] (λn=>by simp[shp]) (by decide))
 generalize hR:(kids.map (kkAt t)).map rl=R at hrl HI ⊢
 clear hr x0 x1 x2 x3 x4;by_cases h1:R=[]
 ·
  subst h1
  go_wp2_with fail;go_ret;exact⟨j03 (by rw[HI.out];rfl),L1⟩
 have q1:=j0c (j0r h1)
 have H1:Hid (¬R=[]):=h1
 clear h1;go_wp2_with fail;go_ret;exact⟨j03 (by rw[HI.out,decide_eq_false H1.out];have h9:=j0c (j0r H1.out);simpa using h9),L1⟩
theorem jkh (t:Tre) (tx:ByteArray) (q:Int) (s s1:Option Addr) (c c1:Nat) (kids:List Int) (B C:Nat) (w:World) (hL:Els 1 cInt w B s kids) (hN:Els 4 j1d w C s1 t.nodes) (hv:∀x∈kids,∃m:Nat,x=m/\m<t.nodes.length) (hl:kids.length<=1048576) (hn:t.nodes.length<=1048576) :
  Calls Tryz.prog 62 #[.agg #[.int .i64 5,.string tx,.int .i64 q,.slice s kids.length c],.slice s1 t.nodes.length c1] w (j10 t 5 kids w):=by
 have k0:=Blk.new w #[.int .i64 5,.string tx,.int .i64 q,.slice s kids.length c] 73
 have L0:=j00 (Below.refl _ w) (.cells #[.int .i64 5,.string tx,.int .i64 q,.slice s kids.length c] 73)
 obtain⟨x0,x1,x2,x3,x4⟩:=k0.four'
 have hr:=j0a t s s1 c c1 kids B C _ (hL.later j07 L0) (hN.later j08 L0) hv hl hn
 go_enter Tryz.func62,Tryz.ntmps62
 go_wp2_with fail;refine hr.mono ?_
 rintro e w1 ⟨rfl,hb1⟩
 have L1:=j01 L0 hb1
 obtain⟨y0,y1,y2,y3,y4⟩:=(k0.later hb1).four'
 have hrl:(((kids.map (kkAt t)).map rl)).length<=1048576:=by simp;exact hl
 have HI:Hid (kidB 5 (kids.map (kkAt t))=decide ((kids.map (kkAt t)).map rl=[])):=j0u (j0s [] (λn=>by simp[shp]) (by decide))
 generalize hR:(kids.map (kkAt t)).map rl=R at hrl HI ⊢
 clear hr x0 x1 x2 x3 x4;by_cases h1:R=[]
 ·
  subst h1
  go_wp2_with fail;go_ret;exact⟨j03 (by rw[HI.out];rfl),L1⟩
 have q1:=j0c (j0r h1)
 have H1:Hid (¬R=[]):=h1
 clear h1;go_wp2_with fail;go_ret;exact⟨j03 (by rw[HI.out,decide_eq_false H1.out];have h9:=j0c (j0r H1.out);simpa using h9),L1⟩
theorem jkz (t:Tre) (tx:ByteArray) (q:Int) (s s1:Option Addr) (c c1:Nat) (kids:List Int) (B C:Nat) (w:World) (hL:Els 1 cInt w B s kids) (hN:Els 4 j1d w C s1 t.nodes) (hv:∀x∈kids,∃m:Nat,x=m/\m<t.nodes.length) (hl:kids.length<=1048576) (hn:t.nodes.length<=1048576) :
  Calls Tryz.prog 62 #[.agg #[.int .i64 6,.string tx,.int .i64 q,.slice s kids.length c],.slice s1 t.nodes.length c1] w (j10 t 6 kids w):=by
 have k0:=Blk.new w #[.int .i64 6,.string tx,.int .i64 q,.slice s kids.length c] 73
 have L0:=j00 (Below.refl _ w) (.cells #[.int .i64 6,.string tx,.int .i64 q,.slice s kids.length c] 73)
 obtain⟨x0,x1,x2,x3,x4⟩:=k0.four'
 have hr:=j0a t s s1 c c1 kids B C _ (hL.later j07 L0) (hN.later j08 L0) hv hl hn
 go_enter Tryz.func62,Tryz.ntmps62
 go_wp2_with fail;refine hr.mono ?_
 rintro e w1 ⟨rfl,hb1⟩
 have L1:=j01 L0 hb1
 obtain⟨y0,y1,y2,y3,y4⟩:=(k0.later hb1).four'
 have hrl:(((kids.map (kkAt t)).map rl)).length<=1048576:=by simp;exact hl
 have HI:Hid (kidB 6 (kids.map (kkAt t))=decide ((kids.map (kkAt t)).map rl=[])):=j0u (j0s [] (λn=>by simp[shp]) (by decide))
 generalize hR:(kids.map (kkAt t)).map rl=R at hrl HI ⊢
 clear hr x0 x1 x2 x3 x4;by_cases h1:R=[]
 ·
  subst h1
  go_wp2_with fail;go_ret;exact⟨j03 (by rw[HI.out];rfl),L1⟩
 have q1:=j0c (j0r h1)
 have H1:Hid (¬R=[]):=h1
 clear h1;go_wp2_with fail;go_ret;exact⟨j03 (by rw[HI.out,decide_eq_false H1.out];have h9:=j0c (j0r H1.out);simpa using h9),L1⟩
theorem jly (t:Tre) (tx:ByteArray) (q:Int) (s s1:Option Addr) (c c1:Nat) (kids:List Int) (B C:Nat) (w:World) (hL:Els 1 cInt w B s kids) (hN:Els 4 j1d w C s1 t.nodes) (hv:∀x∈kids,∃m:Nat,x=m/\m<t.nodes.length) (hl:kids.length<=1048576) (hn:t.nodes.length<=1048576) :
  Calls Tryz.prog 62 #[.agg #[.int .i64 7,.string tx,.int .i64 q,.slice s kids.length c],.slice s1 t.nodes.length c1] w (j10 t 7 kids w):=by
 have k0:=Blk.new w #[.int .i64 7,.string tx,.int .i64 q,.slice s kids.length c] 73
 have L0:=j00 (Below.refl _ w) (.cells #[.int .i64 7,.string tx,.int .i64 q,.slice s kids.length c] 73)
 obtain⟨x0,x1,x2,x3,x4⟩:=k0.four'
 have hr:=j0a t s s1 c c1 kids B C _ (hL.later j07 L0) (hN.later j08 L0) hv hl hn
 go_enter Tryz.func62,Tryz.ntmps62
 go_wp2_with fail;refine hr.mono ?_
 rintro e w1 ⟨rfl,hb1⟩
 have L1:=j01 L0 hb1
 obtain⟨y0,y1,y2,y3,y4⟩:=(k0.later hb1).four'
 have hrl:(((kids.map (kkAt t)).map rl)).length<=1048576:=by simp;exact hl
 have HI:Hid (kidB 7 (kids.map (kkAt t))=decide (∀b∈(kids.map (kkAt t)).map rl,b=101)):=j0u (j69 (c:=1) (λn=>by simp[shp]) (by decide))
 generalize hR:(kids.map (kkAt t)).map rl=R at hrl HI ⊢
 clear hr x0 x1 x2 x3 x4;go_wp2_with (go_at_call 63;refine(j42 _ 101 (by decide) hrl _).mono ?_;rintro e w2 ⟨rfl,hb2⟩)
 go_ret;exact⟨j03 (by rw[HI.out]),j01 L1 hb2⟩
theorem jlp (t:Tre) (tx:ByteArray) (q:Int) (s s1:Option Addr) (c c1:Nat) (kids:List Int) (B C:Nat) (w:World) (hL:Els 1 cInt w B s kids) (hN:Els 4 j1d w C s1 t.nodes) (hv:∀x∈kids,∃m:Nat,x=m/\m<t.nodes.length) (hl:kids.length<=1048576) (hn:t.nodes.length<=1048576) :
  Calls Tryz.prog 62 #[.agg #[.int .i64 8,.string tx,.int .i64 q,.slice s kids.length c],.slice s1 t.nodes.length c1] w (j10 t 8 kids w):=by
 have k0:=Blk.new w #[.int .i64 8,.string tx,.int .i64 q,.slice s kids.length c] 73
 have L0:=j00 (Below.refl _ w) (.cells #[.int .i64 8,.string tx,.int .i64 q,.slice s kids.length c] 73)
 obtain⟨x0,x1,x2,x3,x4⟩:=k0.four'
 have hr:=j0a t s s1 c c1 kids B C _ (hL.later j07 L0) (hN.later j08 L0) hv hl hn
 go_enter Tryz.func62,Tryz.ntmps62
 go_wp2_with fail;refine hr.mono ?_
 rintro e w1 ⟨rfl,hb1⟩
 have L1:=j01 L0 hb1
 obtain⟨y0,y1,y2,y3,y4⟩:=(k0.later hb1).four'
 have hrl:(((kids.map (kkAt t)).map rl)).length<=1048576:=by simp;exact hl
 have HI:Hid (kidB 8 (kids.map (kkAt t))=decide ((kids.map (kkAt t)).map rl=[101,101])):=j0u (j0s [1,1] (λn=>by simp[shp]) (by decide))
 generalize hR:(kids.map (kkAt t)).map rl=R at hrl HI ⊢
 clear hr x0 x1 x2 x3 x4;by_cases h1:R=[101,101]
 ·
  subst h1
  go_wp2_with fail;go_ret;exact⟨j03 (by rw[HI.out];rfl),L1⟩
 have q1:=j1o h1
 have H1:Hid (¬R=[101,101]):=h1
 clear h1;go_wp2_with fail;go_ret;exact⟨j03 (by rw[HI.out,decide_eq_false H1.out]),L1⟩
theorem jke (t:Tre) (tx:ByteArray) (q:Int) (s s1:Option Addr) (c c1:Nat) (kids:List Int) (B C:Nat) (w:World) (hL:Els 1 cInt w B s kids) (hN:Els 4 j1d w C s1 t.nodes) (hv:∀x∈kids,∃m:Nat,x=m/\m<t.nodes.length) (hl:kids.length<=1048576) (hn:t.nodes.length<=1048576) :
  Calls Tryz.prog 62 #[.agg #[.int .i64 9,.string tx,.int .i64 q,.slice s kids.length c],.slice s1 t.nodes.length c1] w (j10 t 9 kids w):=by
 have k0:=Blk.new w #[.int .i64 9,.string tx,.int .i64 q,.slice s kids.length c] 73
 have L0:=j00 (Below.refl _ w) (.cells #[.int .i64 9,.string tx,.int .i64 q,.slice s kids.length c] 73)
 obtain⟨x0,x1,x2,x3,x4⟩:=k0.four'
 have hr:=j0a t s s1 c c1 kids B C _ (hL.later j07 L0) (hN.later j08 L0) hv hl hn
 go_enter Tryz.func62,Tryz.ntmps62
 go_wp2_with fail;refine hr.mono ?_
 rintro e w1 ⟨rfl,hb1⟩
 have L1:=j01 L0 hb1
 obtain⟨y0,y1,y2,y3,y4⟩:=(k0.later hb1).four'
 have hrl:(((kids.map (kkAt t)).map rl)).length<=1048576:=by simp;exact hl
 have HI:Hid (kidB 9 (kids.map (kkAt t))=decide ((kids.map (kkAt t)).map rl=[101])):=j0u (j0s [1] (λn=>by simp[shp]) (by decide))
 generalize hR:(kids.map (kkAt t)).map rl=R at hrl HI ⊢
 clear hr x0 x1 x2 x3 x4;by_cases h1:R=[101]
 ·
  subst h1
  go_wp2_with fail;go_ret;exact⟨j03 (by rw[HI.out];rfl),L1⟩
 have q1:=j1o h1
 have H1:Hid (¬R=[101]):=h1
 clear h1;go_wp2_with fail;go_ret;exact⟨j03 (by rw[HI.out,decide_eq_false H1.out]),L1⟩
theorem jjd (t:Tre) (tx:ByteArray) (q:Int) (s s1:Option Addr) (c c1:Nat) (kids:List Int) (B C:Nat) (w:World) (hL:Els 1 cInt w B s kids) (hN:Els 4 j1d w C s1 t.nodes) (hv:∀x∈kids,∃m:Nat,x=m/\m<t.nodes.length) (hl:kids.length<=1048576) (hn:t.nodes.length<=1048576) :
  Calls Tryz.prog 62 #[.agg #[.int .i64 10,.string tx,.int .i64 q,.slice s kids.length c],.slice s1 t.nodes.length c1] w (j10 t 10 kids w):=by
 have k0:=Blk.new w #[.int .i64 10,.string tx,.int .i64 q,.slice s kids.length c] 73
 have L0:=j00 (Below.refl _ w) (.cells #[.int .i64 10,.string tx,.int .i64 q,.slice s kids.length c] 73)
 obtain⟨x0,x1,x2,x3,x4⟩:=k0.four'
 have hr:=j0a t s s1 c c1 kids B C _ (hL.later j07 L0) (hN.later j08 L0) hv hl hn
 go_enter Tryz.func62,Tryz.ntmps62
 go_wp2_with fail;refine hr.mono ?_
 rintro e w1 ⟨rfl,hb1⟩
 have L1:=j01 L0 hb1
 obtain⟨y0,y1,y2,y3,y4⟩:=(k0.later hb1).four'
 have hrl:(((kids.map (kkAt t)).map rl)).length<=1048576:=by simp;exact hl
 have HI:Hid (kidB 10 (kids.map (kkAt t))=decide ((kids.map (kkAt t)).map rl=[101,101])):=j0u (j0s [1,1] (λn=>by simp[shp]) (by decide))
 generalize hR:(kids.map (kkAt t)).map rl=R at hrl HI ⊢
 clear hr x0 x1 x2 x3 x4;by_cases h1:R=[101,101]
 ·
  subst h1
  go_wp2_with fail;go_ret;exact⟨j03 (by rw[HI.out];rfl),L1⟩
 have q1:=j1o h1
 have H1:Hid (¬R=[101,101]):=h1
 clear h1;go_wp2_with fail;go_ret;exact⟨j03 (by rw[HI.out,decide_eq_false H1.out]),L1⟩
theorem jiv (t:Tre) (tx:ByteArray) (q:Int) (s s1:Option Addr) (c c1:Nat) (kids:List Int) (B C:Nat) (w:World) (hL:Els 1 cInt w B s kids) (hN:Els 4 j1d w C s1 t.nodes) (hv:∀x∈kids,∃m:Nat,x=m/\m<t.nodes.length) (hl:kids.length<=1048576) (hn:t.nodes.length<=1048576) :
  Calls Tryz.prog 62 #[.agg #[.int .i64 11,.string tx,.int .i64 q,.slice s kids.length c],.slice s1 t.nodes.length c1] w (j10 t 11 kids w):=by
 have k0:=Blk.new w #[.int .i64 11,.string tx,.int .i64 q,.slice s kids.length c] 73
 have L0:=j00 (Below.refl _ w) (.cells #[.int .i64 11,.string tx,.int .i64 q,.slice s kids.length c] 73)
 obtain⟨x0,x1,x2,x3,x4⟩:=k0.four'
 have hr:=j0a t s s1 c c1 kids B C _ (hL.later j07 L0) (hN.later j08 L0) hv hl hn
 go_enter Tryz.func62,Tryz.ntmps62
 go_wp2_with fail;refine hr.mono ?_
 rintro e w1 ⟨rfl,hb1⟩
 have L1:=j01 L0 hb1
 obtain⟨y0,y1,y2,y3,y4⟩:=(k0.later hb1).four'
 have hrl:(((kids.map (kkAt t)).map rl)).length<=1048576:=by simp;exact hl
 have HI:Hid (kidB 11 (kids.map (kkAt t))=@decide (∃r,(kids.map (kkAt t)).map rl=101 :: 110 :: r/\∀b∈r,b=110) (Classical.propDecidable _)):=by classical exact j0u jdv
 generalize hR:(kids.map (kkAt t)).map rl=R at hrl HI ⊢
 clear hr x0 x1 x2 x3 x4;by_cases h1:∃r,R=101 :: 110 :: r
 ·
  obtain⟨r,rfl⟩:=h1
  have hp:Lib.hasPrefix (101 :: 110 :: r) [101,110]=true:=by simp[Lib.hasPrefix]
  have hle:(110 :: r).length<=1048576:=by simp at hrl ⊢;omega
  have he:(⟨(101 :: 110 :: r).toArray⟩:ByteArray).extract 1 (r.length+1+1)=⟨(110 :: r).toArray⟩:=by apply ByteArray.ext;simp
  go_wp2_with (go_at_call 78;refine(Any.strings_HasPrefix Tryz.laysHasPre _ _ _).mono ?_;rintro e w2 ⟨rfl,rfl⟩;rw[hp])
  refine(j42 (110 :: r) 110 (by decide) hle _).mono ?_
  rintro e w3 ⟨rfl,hb3⟩
  go_wp2_with fail;go_ret;refine⟨j03 ?_,j01 L1 hb3⟩
  rw[HI.out]
  rw[decide_eq_decide]
  constructor
  ·
   intro h
   exact⟨r,rfl,λb hb=>h b (by simp[hb])⟩
  rintro⟨r',e,h⟩ b hb
  simp at e
  subst e
  exact h b hb
 have hp:Lib.hasPrefix R [101,110]=false:=by
  cases hh:Lib.hasPrefix R [101,110] with
  | false=>rfl
  | true =>
   exfalso
   apply h1
   unfold Lib.hasPrefix at hh
   rw[List.isPrefixOf_iff_prefix] at hh
   obtain⟨r,hr⟩:=hh
   exact⟨r,by rw[<-hr];rfl⟩
 have H1:Hid (¬∃r,R=101 :: 110 :: r):=h1
 clear h1;go_wp2_with (go_at_call 78;refine(Any.strings_HasPrefix Tryz.laysHasPre _ _ _).mono ?_;rintro e w2 ⟨rfl,rfl⟩;rw[hp])
 go_ret;exact⟨j03 (by rw[HI.out];symm;exact @decide_eq_false _ (Classical.propDecidable _) (λ⟨r,h,_⟩=>H1.out ⟨r,h⟩)),L1⟩
theorem jj0 (t:Tre) (tx:ByteArray) (q:Int) (s s1:Option Addr) (c c1:Nat) (kids:List Int) (B C:Nat) (w:World) (hL:Els 1 cInt w B s kids) (hN:Els 4 j1d w C s1 t.nodes) (hv:∀x∈kids,∃m:Nat,x=m/\m<t.nodes.length) (hl:kids.length<=1048576) (hn:t.nodes.length<=1048576) :
  Calls Tryz.prog 62 #[.agg #[.int .i64 12,.string tx,.int .i64 q,.slice s kids.length c],.slice s1 t.nodes.length c1] w (j10 t 12 kids w):=by
 have k0:=Blk.new w #[.int .i64 12,.string tx,.int .i64 q,.slice s kids.length c] 73
 have L0:=j00 (Below.refl _ w) (.cells #[.int .i64 12,.string tx,.int .i64 q,.slice s kids.length c] 73)
 obtain⟨x0,x1,x2,x3,x4⟩:=k0.four'
 have hr:=j0a t s s1 c c1 kids B C _ (hL.later j07 L0) (hN.later j08 L0) hv hl hn
 go_enter Tryz.func62,Tryz.ntmps62
 go_wp2_with fail;refine hr.mono ?_
 rintro e w1 ⟨rfl,hb1⟩
 have L1:=j01 L0 hb1
 obtain⟨y0,y1,y2,y3,y4⟩:=(k0.later hb1).four'
 have hrl:(((kids.map (kkAt t)).map rl)).length<=1048576:=by simp;exact hl
 have HI:Hid (kidB 12 (kids.map (kkAt t))=decide ((kids.map (kkAt t)).map rl=[101])):=j0u (j0s [1] (λn=>by simp[shp]) (by decide))
 generalize hR:(kids.map (kkAt t)).map rl=R at hrl HI ⊢
 clear hr x0 x1 x2 x3 x4;by_cases h1:R=[101]
 ·
  subst h1
  go_wp2_with fail;go_ret;exact⟨j03 (by rw[HI.out];rfl),L1⟩
 have q1:=j1o h1
 have H1:Hid (¬R=[101]):=h1
 clear h1;go_wp2_with fail;go_ret;exact⟨j03 (by rw[HI.out,decide_eq_false H1.out]),L1⟩
theorem jk2 (t:Tre) (tx:ByteArray) (q:Int) (s s1:Option Addr) (c c1:Nat) (kids:List Int) (B C:Nat) (w:World) (hL:Els 1 cInt w B s kids) (hN:Els 4 j1d w C s1 t.nodes) (hv:∀x∈kids,∃m:Nat,x=m/\m<t.nodes.length) (hl:kids.length<=1048576) (hn:t.nodes.length<=1048576) :
  Calls Tryz.prog 62 #[.agg #[.int .i64 13,.string tx,.int .i64 q,.slice s kids.length c],.slice s1 t.nodes.length c1] w (j10 t 13 kids w):=by
 have k0:=Blk.new w #[.int .i64 13,.string tx,.int .i64 q,.slice s kids.length c] 73
 have L0:=j00 (Below.refl _ w) (.cells #[.int .i64 13,.string tx,.int .i64 q,.slice s kids.length c] 73)
 obtain⟨x0,x1,x2,x3,x4⟩:=k0.four'
 have hr:=j0a t s s1 c c1 kids B C _ (hL.later j07 L0) (hN.later j08 L0) hv hl hn
 go_enter Tryz.func62,Tryz.ntmps62
 go_wp2_with fail;refine hr.mono ?_
 rintro e w1 ⟨rfl,hb1⟩
 have L1:=j01 L0 hb1
 obtain⟨y0,y1,y2,y3,y4⟩:=(k0.later hb1).four'
 have hrl:(((kids.map (kkAt t)).map rl)).length<=1048576:=by simp;exact hl
 have HI:Hid (kidB 13 (kids.map (kkAt t))=decide ((kids.map (kkAt t)).map rl=[101])):=j0u (j0s [1] (λn=>by simp[shp]) (by decide))
 generalize hR:(kids.map (kkAt t)).map rl=R at hrl HI ⊢
 clear hr x0 x1 x2 x3 x4;by_cases h1:R=[101]
 ·
  subst h1
  go_wp2_with fail;go_ret;exact⟨j03 (by rw[HI.out];rfl),L1⟩
 have q1:=j1o h1
 have H1:Hid (¬R=[101]):=h1
 clear h1;go_wp2_with fail;go_ret;exact⟨j03 (by rw[HI.out,decide_eq_false H1.out]),L1⟩
theorem jid (t:Tre) (tx:ByteArray) (q:Int) (s s1:Option Addr) (c c1:Nat) (kids:List Int) (B C:Nat) (w:World) (hL:Els 1 cInt w B s kids) (hN:Els 4 j1d w C s1 t.nodes) (hv:∀x∈kids,∃m:Nat,x=m/\m<t.nodes.length) (hl:kids.length<=1048576) (hn:t.nodes.length<=1048576) :
  Calls Tryz.prog 62 #[.agg #[.int .i64 14,.string tx,.int .i64 q,.slice s kids.length c],.slice s1 t.nodes.length c1] w (j10 t 14 kids w):=by
 have k0:=Blk.new w #[.int .i64 14,.string tx,.int .i64 q,.slice s kids.length c] 73
 have L0:=j00 (Below.refl _ w) (.cells #[.int .i64 14,.string tx,.int .i64 q,.slice s kids.length c] 73)
 obtain⟨x0,x1,x2,x3,x4⟩:=k0.four'
 have hr:=j0a t s s1 c c1 kids B C _ (hL.later j07 L0) (hN.later j08 L0) hv hl hn
 go_enter Tryz.func62,Tryz.ntmps62
 go_wp2_with fail;refine hr.mono ?_
 rintro e w1 ⟨rfl,hb1⟩
 have L1:=j01 L0 hb1
 obtain⟨y0,y1,y2,y3,y4⟩:=(k0.later hb1).four'
 have hrl:(((kids.map (kkAt t)).map rl)).length<=1048576:=by simp;exact hl
 have HI:Hid (kidB 14 (kids.map (kkAt t))=decide ((kids.map (kkAt t)).map rl=[101])):=j0u (j0s [1] (λn=>by simp[shp]) (by decide))
 generalize hR:(kids.map (kkAt t)).map rl=R at hrl HI ⊢
 clear hr x0 x1 x2 x3 x4;by_cases h1:R=[101]
 ·
  subst h1
  go_wp2_with fail;go_ret;exact⟨j03 (by rw[HI.out];rfl),L1⟩
 have q1:=j1o h1
 have H1:Hid (¬R=[101]):=h1
 clear h1;go_wp2_with fail;go_ret;exact⟨j03 (by rw[HI.out,decide_eq_false H1.out]),L1⟩
theorem jj8 (t:Tre) (tx:ByteArray) (q:Int) (s s1:Option Addr) (c c1:Nat) (kids:List Int) (B C:Nat) (w:World) (hL:Els 1 cInt w B s kids) (hN:Els 4 j1d w C s1 t.nodes) (hv:∀x∈kids,∃m:Nat,x=m/\m<t.nodes.length) (hl:kids.length<=1048576) (hn:t.nodes.length<=1048576) :
  Calls Tryz.prog 62 #[.agg #[.int .i64 15,.string tx,.int .i64 q,.slice s kids.length c],.slice s1 t.nodes.length c1] w (j10 t 15 kids w):=by
 have k0:=Blk.new w #[.int .i64 15,.string tx,.int .i64 q,.slice s kids.length c] 73
 have L0:=j00 (Below.refl _ w) (.cells #[.int .i64 15,.string tx,.int .i64 q,.slice s kids.length c] 73)
 obtain⟨x0,x1,x2,x3,x4⟩:=k0.four'
 have hr:=j0a t s s1 c c1 kids B C _ (hL.later j07 L0) (hN.later j08 L0) hv hl hn
 go_enter Tryz.func62,Tryz.ntmps62
 go_wp2_with fail;refine hr.mono ?_
 rintro e w1 ⟨rfl,hb1⟩
 have L1:=j01 L0 hb1
 obtain⟨y0,y1,y2,y3,y4⟩:=(k0.later hb1).four'
 have hrl:(((kids.map (kkAt t)).map rl)).length<=1048576:=by simp;exact hl
 have HI:Hid (kidB 15 (kids.map (kkAt t))=decide ((kids.map (kkAt t)).map rl=[101])):=j0u (j0s [1] (λn=>by simp[shp]) (by decide))
 generalize hR:(kids.map (kkAt t)).map rl=R at hrl HI ⊢
 clear hr x0 x1 x2 x3 x4;by_cases h1:R=[101]
 ·
  subst h1
  go_wp2_with fail;go_ret;exact⟨j03 (by rw[HI.out];rfl),L1⟩
 have q1:=j1o h1
 have H1:Hid (¬R=[101]):=h1
 clear h1;go_wp2_with fail;go_ret;exact⟨j03 (by rw[HI.out,decide_eq_false H1.out]),L1⟩
theorem jip (t:Tre) (tx:ByteArray) (q:Int) (s s1:Option Addr) (c c1:Nat) (kids:List Int) (B C:Nat) (w:World) (hL:Els 1 cInt w B s kids) (hN:Els 4 j1d w C s1 t.nodes) (hv:∀x∈kids,∃m:Nat,x=m/\m<t.nodes.length) (hl:kids.length<=1048576) (hn:t.nodes.length<=1048576) :
  Calls Tryz.prog 62 #[.agg #[.int .i64 16,.string tx,.int .i64 q,.slice s kids.length c],.slice s1 t.nodes.length c1] w (j10 t 16 kids w):=by
 have k0:=Blk.new w #[.int .i64 16,.string tx,.int .i64 q,.slice s kids.length c] 73
 have L0:=j00 (Below.refl _ w) (.cells #[.int .i64 16,.string tx,.int .i64 q,.slice s kids.length c] 73)
 obtain⟨x0,x1,x2,x3,x4⟩:=k0.four'
 have hr:=j0a t s s1 c c1 kids B C _ (hL.later j07 L0) (hN.later j08 L0) hv hl hn
 go_enter Tryz.func62,Tryz.ntmps62
 go_wp2_with fail;refine hr.mono ?_
 rintro e w1 ⟨rfl,hb1⟩
 have L1:=j01 L0 hb1
 obtain⟨y0,y1,y2,y3,y4⟩:=(k0.later hb1).four'
 have hrl:(((kids.map (kkAt t)).map rl)).length<=1048576:=by simp;exact hl
 have HI:Hid (kidB 16 (kids.map (kkAt t))=decide ((kids.map (kkAt t)).map rl=[101,98]\/(kids.map (kkAt t)).map rl=[101,98,98])):=j0u jiu
 generalize hR:(kids.map (kkAt t)).map rl=R at hrl HI ⊢
 clear hr x0 x1 x2 x3 x4;by_cases h1:R=[101,98]
 ·
  subst h1
  go_wp2_with fail;go_ret;exact⟨j03 (by rw[HI.out];rfl),L1⟩
 have q1:=j1o h1
 have H1:Hid (¬R=[101,98]):=h1
 clear h1;by_cases h2:R=[101,98,98]
 ·
  subst h2
  go_wp2_with fail;go_ret;exact⟨j03 (by rw[HI.out];rfl),L1⟩
 have q2:=j1o h2
 have H2:Hid (¬R=[101,98,98]):=h2
 clear h2;go_wp2_with fail;go_ret;exact⟨j03 (by rw[HI.out,decide_eq_false (λg=>g.elim H1.out H2.out)]),L1⟩
theorem jiq (t:Tre) (tx:ByteArray) (q:Int) (s s1:Option Addr) (c c1:Nat) (kids:List Int) (B C:Nat) (w:World) (hL:Els 1 cInt w B s kids) (hN:Els 4 j1d w C s1 t.nodes) (hv:∀x∈kids,∃m:Nat,x=m/\m<t.nodes.length) (hl:kids.length<=1048576) (hn:t.nodes.length<=1048576) :
  Calls Tryz.prog 62 #[.agg #[.int .i64 17,.string tx,.int .i64 q,.slice s kids.length c],.slice s1 t.nodes.length c1] w (j10 t 17 kids w):=by
 have k0:=Blk.new w #[.int .i64 17,.string tx,.int .i64 q,.slice s kids.length c] 73
 have L0:=j00 (Below.refl _ w) (.cells #[.int .i64 17,.string tx,.int .i64 q,.slice s kids.length c] 73)
 obtain⟨x0,x1,x2,x3,x4⟩:=k0.four'
 have hr:=j0a t s s1 c c1 kids B C _ (hL.later j07 L0) (hN.later j08 L0) hv hl hn
 go_enter Tryz.func62,Tryz.ntmps62
 go_wp2_with fail;refine hr.mono ?_
 rintro e w1 ⟨rfl,hb1⟩
 have L1:=j01 L0 hb1
 obtain⟨y0,y1,y2,y3,y4⟩:=(k0.later hb1).four'
 have hrl:(((kids.map (kkAt t)).map rl)).length<=1048576:=by simp;exact hl
 have HI:Hid (kidB 17 (kids.map (kkAt t))=decide ((kids.map (kkAt t)).map rl=[101,98])):=j0u (j0s [1,3] (λn=>by simp[shp]) (by decide))
 generalize hR:(kids.map (kkAt t)).map rl=R at hrl HI ⊢
 clear hr x0 x1 x2 x3 x4;by_cases h1:R=[101,98]
 ·
  subst h1
  go_wp2_with fail;go_ret;exact⟨j03 (by rw[HI.out];rfl),L1⟩
 have q1:=j1o h1
 have H1:Hid (¬R=[101,98]):=h1
 clear h1;go_wp2_with fail;go_ret;exact⟨j03 (by rw[HI.out,decide_eq_false H1.out]),L1⟩
theorem jjr (t:Tre) (tx:ByteArray) (q:Int) (s s1:Option Addr) (c c1:Nat) (kids:List Int) (B C:Nat) (w:World) (hL:Els 1 cInt w B s kids) (hN:Els 4 j1d w C s1 t.nodes) (hv:∀x∈kids,∃m:Nat,x=m/\m<t.nodes.length) (hl:kids.length<=1048576) (hn:t.nodes.length<=1048576) :
  Calls Tryz.prog 62 #[.agg #[.int .i64 18,.string tx,.int .i64 q,.slice s kids.length c],.slice s1 t.nodes.length c1] w (j10 t 18 kids w):=by
 have k0:=Blk.new w #[.int .i64 18,.string tx,.int .i64 q,.slice s kids.length c] 73
 have L0:=j00 (Below.refl _ w) (.cells #[.int .i64 18,.string tx,.int .i64 q,.slice s kids.length c] 73)
 obtain⟨x0,x1,x2,x3,x4⟩:=k0.four'
 have hr:=j0a t s s1 c c1 kids B C _ (hL.later j07 L0) (hN.later j08 L0) hv hl hn
 go_enter Tryz.func62,Tryz.ntmps62
 go_wp2_with fail;refine hr.mono ?_
 rintro e w1 ⟨rfl,hb1⟩
 have L1:=j01 L0 hb1
 obtain⟨y0,y1,y2,y3,y4⟩:=(k0.later hb1).four'
 have hrl:(((kids.map (kkAt t)).map rl)).length<=1048576:=by simp;exact hl
 have HI:Hid (kidB 18 (kids.map (kkAt t))=decide ((kids.map (kkAt t)).map rl=[119,111,98])):=j0u (j0s [4,5,3] (λn=>by simp[shp]) (by decide))
 generalize hR:(kids.map (kkAt t)).map rl=R at hrl HI ⊢
 clear hr x0 x1 x2 x3 x4;by_cases h1:R=[119,111,98]
 ·
  subst h1
  go_wp2_with fail;go_ret;exact⟨j03 (by rw[HI.out];rfl),L1⟩
 have q1:=j1o h1
 have H1:Hid (¬R=[119,111,98]):=h1
 clear h1;go_wp2_with fail;go_ret;exact⟨j03 (by rw[HI.out,decide_eq_false H1.out]),L1⟩
theorem jih (t:Tre) (tx:ByteArray) (q:Int) (s s1:Option Addr) (c c1:Nat) (kids:List Int) (B C:Nat) (w:World) (hL:Els 1 cInt w B s kids) (hN:Els 4 j1d w C s1 t.nodes) (hv:∀x∈kids,∃m:Nat,x=m/\m<t.nodes.length) (hl:kids.length<=1048576) (hn:t.nodes.length<=1048576) :
  Calls Tryz.prog 62 #[.agg #[.int .i64 19,.string tx,.int .i64 q,.slice s kids.length c],.slice s1 t.nodes.length c1] w (j10 t 19 kids w):=by
 have k0:=Blk.new w #[.int .i64 19,.string tx,.int .i64 q,.slice s kids.length c] 73
 have L0:=j00 (Below.refl _ w) (.cells #[.int .i64 19,.string tx,.int .i64 q,.slice s kids.length c] 73)
 obtain⟨x0,x1,x2,x3,x4⟩:=k0.four'
 have hr:=j0a t s s1 c c1 kids B C _ (hL.later j07 L0) (hN.later j08 L0) hv hl hn
 go_enter Tryz.func62,Tryz.ntmps62
 go_wp2_with fail;refine hr.mono ?_
 rintro e w1 ⟨rfl,hb1⟩
 have L1:=j01 L0 hb1
 obtain⟨y0,y1,y2,y3,y4⟩:=(k0.later hb1).four'
 have hrl:(((kids.map (kkAt t)).map rl)).length<=1048576:=by simp;exact hl
 have HI:Hid (kidB 19 (kids.map (kkAt t))=decide ((kids.map (kkAt t)).map rl=[101])):=j0u (j0s [1] (λn=>by simp[shp]) (by decide))
 generalize hR:(kids.map (kkAt t)).map rl=R at hrl HI ⊢
 clear hr x0 x1 x2 x3 x4;by_cases h1:R=[101]
 ·
  subst h1
  go_wp2_with fail;go_ret;exact⟨j03 (by rw[HI.out];rfl),L1⟩
 have q1:=j1o h1
 have H1:Hid (¬R=[101]):=h1
 clear h1;go_wp2_with fail;go_ret;exact⟨j03 (by rw[HI.out,decide_eq_false H1.out]),L1⟩
theorem jjt (t:Tre) (tx:ByteArray) (q:Int) (s s1:Option Addr) (c c1:Nat) (kids:List Int) (B C:Nat) (w:World) (hL:Els 1 cInt w B s kids) (hN:Els 4 j1d w C s1 t.nodes) (hv:∀x∈kids,∃m:Nat,x=m/\m<t.nodes.length) (hl:kids.length<=1048576) (hn:t.nodes.length<=1048576) :
  Calls Tryz.prog 62 #[.agg #[.int .i64 20,.string tx,.int .i64 q,.slice s kids.length c],.slice s1 t.nodes.length c1] w (j10 t 20 kids w):=by
 have k0:=Blk.new w #[.int .i64 20,.string tx,.int .i64 q,.slice s kids.length c] 73
 have L0:=j00 (Below.refl _ w) (.cells #[.int .i64 20,.string tx,.int .i64 q,.slice s kids.length c] 73)
 obtain⟨x0,x1,x2,x3,x4⟩:=k0.four'
 have hr:=j0a t s s1 c c1 kids B C _ (hL.later j07 L0) (hN.later j08 L0) hv hl hn
 go_enter Tryz.func62,Tryz.ntmps62
 go_wp2_with fail;refine hr.mono ?_
 rintro e w1 ⟨rfl,hb1⟩
 have L1:=j01 L0 hb1
 obtain⟨y0,y1,y2,y3,y4⟩:=(k0.later hb1).four'
 have hrl:(((kids.map (kkAt t)).map rl)).length<=1048576:=by simp;exact hl
 have HI:Hid (kidB 20 (kids.map (kkAt t))=decide ((kids.map (kkAt t)).map rl=[110,98])):=j0u (j0s [6,3] (λn=>by simp[shp]) (by decide))
 generalize hR:(kids.map (kkAt t)).map rl=R at hrl HI ⊢
 clear hr x0 x1 x2 x3 x4;by_cases h1:R=[110,98]
 ·
  subst h1
  go_wp2_with fail;go_ret;exact⟨j03 (by rw[HI.out];rfl),L1⟩
 have q1:=j1o h1
 have H1:Hid (¬R=[110,98]):=h1
 clear h1;go_wp2_with fail;go_ret;exact⟨j03 (by rw[HI.out,decide_eq_false H1.out]),L1⟩
theorem jir (t:Tre) (tx:ByteArray) (q:Int) (s s1:Option Addr) (c c1:Nat) (kids:List Int) (B C:Nat) (w:World) (hL:Els 1 cInt w B s kids) (hN:Els 4 j1d w C s1 t.nodes) (hv:∀x∈kids,∃m:Nat,x=m/\m<t.nodes.length) (hl:kids.length<=1048576) (hn:t.nodes.length<=1048576) :
  Calls Tryz.prog 62 #[.agg #[.int .i64 21,.string tx,.int .i64 q,.slice s kids.length c],.slice s1 t.nodes.length c1] w (j10 t 21 kids w):=by
 have k0:=Blk.new w #[.int .i64 21,.string tx,.int .i64 q,.slice s kids.length c] 73
 have L0:=j00 (Below.refl _ w) (.cells #[.int .i64 21,.string tx,.int .i64 q,.slice s kids.length c] 73)
 obtain⟨x0,x1,x2,x3,x4⟩:=k0.four'
 have hr:=j0a t s s1 c c1 kids B C _ (hL.later j07 L0) (hN.later j08 L0) hv hl hn
 go_enter Tryz.func62,Tryz.ntmps62
 go_wp2_with fail;refine hr.mono ?_
 rintro e w1 ⟨rfl,hb1⟩
 have L1:=j01 L0 hb1
 obtain⟨y0,y1,y2,y3,y4⟩:=(k0.later hb1).four'
 have hrl:(((kids.map (kkAt t)).map rl)).length<=1048576:=by simp;exact hl
 have HI:Hid (kidB 21 (kids.map (kkAt t))=decide (∀b∈(kids.map (kkAt t)).map rl,b=99)):=j0u (j69 (c:=8) (λn=>by simp[shp]) (by decide))
 generalize hR:(kids.map (kkAt t)).map rl=R at hrl HI ⊢
 clear hr x0 x1 x2 x3 x4;go_wp2_with (go_at_call 63;refine(j42 _ 99 (by decide) hrl _).mono ?_;rintro e w2 ⟨rfl,hb2⟩)
 go_ret;exact⟨j03 (by rw[HI.out]),j01 L1 hb2⟩
theorem jjk (t:Tre) (tx:ByteArray) (q:Int) (s s1:Option Addr) (c c1:Nat) (kids:List Int) (B C:Nat) (w:World) (hL:Els 1 cInt w B s kids) (hN:Els 4 j1d w C s1 t.nodes) (hv:∀x∈kids,∃m:Nat,x=m/\m<t.nodes.length) (hl:kids.length<=1048576) (hn:t.nodes.length<=1048576) :
  Calls Tryz.prog 62 #[.agg #[.int .i64 22,.string tx,.int .i64 q,.slice s kids.length c],.slice s1 t.nodes.length c1] w (j10 t 22 kids w):=by
 have k0:=Blk.new w #[.int .i64 22,.string tx,.int .i64 q,.slice s kids.length c] 73
 have L0:=j00 (Below.refl _ w) (.cells #[.int .i64 22,.string tx,.int .i64 q,.slice s kids.length c] 73)
 obtain⟨x0,x1,x2,x3,x4⟩:=k0.four'
 have hr:=j0a t s s1 c c1 kids B C _ (hL.later j07 L0) (hN.later j08 L0) hv hl hn
 go_enter Tryz.func62,Tryz.ntmps62
 go_wp2_with fail;refine hr.mono ?_
 rintro e w1 ⟨rfl,hb1⟩
 have L1:=j01 L0 hb1
 obtain⟨y0,y1,y2,y3,y4⟩:=(k0.later hb1).four'
 have hrl:(((kids.map (kkAt t)).map rl)).length<=1048576:=by simp;exact hl
 have HI:Hid (kidB 22 (kids.map (kkAt t))=decide ((kids.map (kkAt t)).map rl=[])):=j0u (j0s [] (λn=>by simp[shp]) (by decide))
 generalize hR:(kids.map (kkAt t)).map rl=R at hrl HI ⊢
 clear hr x0 x1 x2 x3 x4;by_cases h1:R=[]
 ·
  subst h1
  go_wp2_with fail;go_ret;exact⟨j03 (by rw[HI.out];rfl),L1⟩
 have q1:=j0c (j0r h1)
 have H1:Hid (¬R=[]):=h1
 clear h1;go_wp2_with fail;go_ret;exact⟨j03 (by rw[HI.out,decide_eq_false H1.out];have h9:=j0c (j0r H1.out);simpa using h9),L1⟩
theorem jk9 (t:Tre) (tx:ByteArray) (q:Int) (s s1:Option Addr) (c c1:Nat) (kids:List Int) (B C:Nat) (w:World) (hL:Els 1 cInt w B s kids) (hN:Els 4 j1d w C s1 t.nodes) (hv:∀x∈kids,∃m:Nat,x=m/\m<t.nodes.length) (hl:kids.length<=1048576) (hn:t.nodes.length<=1048576) :
  Calls Tryz.prog 62 #[.agg #[.int .i64 23,.string tx,.int .i64 q,.slice s kids.length c],.slice s1 t.nodes.length c1] w (j10 t 23 kids w):=by
 have k0:=Blk.new w #[.int .i64 23,.string tx,.int .i64 q,.slice s kids.length c] 73
 have L0:=j00 (Below.refl _ w) (.cells #[.int .i64 23,.string tx,.int .i64 q,.slice s kids.length c] 73)
 obtain⟨x0,x1,x2,x3,x4⟩:=k0.four'
 have hr:=j0a t s s1 c c1 kids B C _ (hL.later j07 L0) (hN.later j08 L0) hv hl hn
 go_enter Tryz.func62,Tryz.ntmps62
 go_wp2_with fail;refine hr.mono ?_
 rintro e w1 ⟨rfl,hb1⟩
 have L1:=j01 L0 hb1
 obtain⟨y0,y1,y2,y3,y4⟩:=(k0.later hb1).four'
 have hrl:(((kids.map (kkAt t)).map rl)).length<=1048576:=by simp;exact hl
 have HI:Hid (kidB 23 (kids.map (kkAt t))=decide ((kids.map (kkAt t)).map rl=[101])):=j0u (j0s [1] (λn=>by simp[shp]) (by decide))
 generalize hR:(kids.map (kkAt t)).map rl=R at hrl HI ⊢
 clear hr x0 x1 x2 x3 x4;by_cases h1:R=[101]
 ·
  subst h1
  go_wp2_with fail;go_ret;exact⟨j03 (by rw[HI.out];rfl),L1⟩
 have q1:=j1o h1
 have H1:Hid (¬R=[101]):=h1
 clear h1;go_wp2_with fail;go_ret;exact⟨j03 (by rw[HI.out,decide_eq_false H1.out]),L1⟩
theorem jik (t:Tre) (tx:ByteArray) (q:Int) (s s1:Option Addr) (c c1:Nat) (kids:List Int) (B C:Nat) (w:World) (hL:Els 1 cInt w B s kids) (hN:Els 4 j1d w C s1 t.nodes) (hv:∀x∈kids,∃m:Nat,x=m/\m<t.nodes.length) (hl:kids.length<=1048576) (hn:t.nodes.length<=1048576) :
  Calls Tryz.prog 62 #[.agg #[.int .i64 24,.string tx,.int .i64 q,.slice s kids.length c],.slice s1 t.nodes.length c1] w (j10 t 24 kids w):=by
 have k0:=Blk.new w #[.int .i64 24,.string tx,.int .i64 q,.slice s kids.length c] 73
 have L0:=j00 (Below.refl _ w) (.cells #[.int .i64 24,.string tx,.int .i64 q,.slice s kids.length c] 73)
 obtain⟨x0,x1,x2,x3,x4⟩:=k0.four'
 have hr:=j0a t s s1 c c1 kids B C _ (hL.later j07 L0) (hN.later j08 L0) hv hl hn
 go_enter Tryz.func62,Tryz.ntmps62
 go_wp2_with fail;refine hr.mono ?_
 rintro e w1 ⟨rfl,hb1⟩
 have L1:=j01 L0 hb1
 obtain⟨y0,y1,y2,y3,y4⟩:=(k0.later hb1).four'
 have hrl:(((kids.map (kkAt t)).map rl)).length<=1048576:=by simp;exact hl
 have HI:Hid (kidB 24 (kids.map (kkAt t))=decide ((kids.map (kkAt t)).map rl=[])):=j0u (j0s [] (λn=>by simp[shp]) (by decide))
 generalize hR:(kids.map (kkAt t)).map rl=R at hrl HI ⊢
 clear hr x0 x1 x2 x3 x4;by_cases h1:R=[]
 ·
  subst h1
  go_wp2_with fail;go_ret;exact⟨j03 (by rw[HI.out];rfl),L1⟩
 have q1:=j0c (j0r h1)
 have H1:Hid (¬R=[]):=h1
 clear h1;go_wp2_with fail;go_ret;exact⟨j03 (by rw[HI.out,decide_eq_false H1.out];have h9:=j0c (j0r H1.out);simpa using h9),L1⟩
theorem jie (t:Tre) (tx:ByteArray) (q:Int) (s s1:Option Addr) (c c1:Nat) (kids:List Int) (B C:Nat) (w:World) (hL:Els 1 cInt w B s kids) (hN:Els 4 j1d w C s1 t.nodes) (hv:∀x∈kids,∃m:Nat,x=m/\m<t.nodes.length) (hl:kids.length<=1048576) (hn:t.nodes.length<=1048576) :
  Calls Tryz.prog 62 #[.agg #[.int .i64 25,.string tx,.int .i64 q,.slice s kids.length c],.slice s1 t.nodes.length c1] w (j10 t 25 kids w):=by
 have k0:=Blk.new w #[.int .i64 25,.string tx,.int .i64 q,.slice s kids.length c] 73
 have L0:=j00 (Below.refl _ w) (.cells #[.int .i64 25,.string tx,.int .i64 q,.slice s kids.length c] 73)
 obtain⟨x0,x1,x2,x3,x4⟩:=k0.four'
 have hr:=j0a t s s1 c c1 kids B C _ (hL.later j07 L0) (hN.later j08 L0) hv hl hn
 go_enter Tryz.func62,Tryz.ntmps62
 go_wp2_with fail;refine hr.mono ?_
 rintro e w1 ⟨rfl,hb1⟩
 have L1:=j01 L0 hb1
 obtain⟨y0,y1,y2,y3,y4⟩:=(k0.later hb1).four'
 have hrl:(((kids.map (kkAt t)).map rl)).length<=1048576:=by simp;exact hl
 have HI:Hid (kidB 25 (kids.map (kkAt t))=decide ((kids.map (kkAt t)).map rl=[101]/\(kids.map (kkAt t))[0]?=some 7)):=j0u jjz
 generalize hR:(kids.map (kkAt t)).map rl=R at hrl HI ⊢
 have HR:Hid ((kids.map (kkAt t)).map rl=R):=hR
 clear hR;clear hr x0 x1 x2 x3 x4;by_cases h1:R=[101]
 ·
  subst h1
  have hl1:kids.length=1:=by have:=congrArg List.length HR.out;simpa using this
  obtain⟨x,hx⟩:=j0p (show 0<kids.length by omega)
  obtain⟨m,rfl,hm⟩:=hv x (List.mem_of_getElem? hx)
  obtain⟨nd,hnd⟩:=j0p hm
  obtain⟨kb,ko,rfl,_,hkb,p0⟩:=j05 (hL.later j07 L1) hx
  obtain⟨b,o,rfl,_,hb,s9,c9,e0,_,_,_,_⟩:=j14 (hN.later j08 L1) hnd
  have HK:Hid ((kids.map (kkAt t))[0]?=some nd.kind):=by show _=_;simp[List.getElem?_map,hx,kkAt,hnd]
  have hmI:(m:Int)<(t.nodes.length:Int):=by omega
  have hl2:0<kids.length:=by omega
  simp only[Nat.add_zero] at p0
  clear hv hx hnd hL hN hl1;cases q7:(nd.kind ==7)
  ·
   have HE:Hid (¬nd.kind=7):=by show¬_;simpa using q7
   go_wp2_with fail;go_ret;exact⟨j03 (by rw[HI.out,HK.out,decide_eq_false (λg=>HE.out (by simpa using g.2))]),L1⟩
  have HE:Hid (nd.kind=7):=by show _=_;simpa using q7
  go_wp2_with fail;go_ret;exact⟨j03 (by rw[HI.out,HK.out,HE.out];rfl),L1⟩
 have q1:=j1o h1
 have H1:Hid (¬R=[101]):=h1
 clear h1;go_wp2_with fail;go_ret;exact⟨j03 (by rw[HI.out,decide_eq_false (λg=>H1.out g.1)]),L1⟩
theorem jji (t:Tre) (tx:ByteArray) (q:Int) (s s1:Option Addr) (c c1:Nat) (kids:List Int) (B C:Nat) (w:World) (hL:Els 1 cInt w B s kids) (hN:Els 4 j1d w C s1 t.nodes) (hv:∀x∈kids,∃m:Nat,x=m/\m<t.nodes.length) (hl:kids.length<=1048576) (hn:t.nodes.length<=1048576) :
  Calls Tryz.prog 62 #[.agg #[.int .i64 26,.string tx,.int .i64 q,.slice s kids.length c],.slice s1 t.nodes.length c1] w (j10 t 26 kids w):=by
 have k0:=Blk.new w #[.int .i64 26,.string tx,.int .i64 q,.slice s kids.length c] 73
 have L0:=j00 (Below.refl _ w) (.cells #[.int .i64 26,.string tx,.int .i64 q,.slice s kids.length c] 73)
 obtain⟨x0,x1,x2,x3,x4⟩:=k0.four'
 have hr:=j0a t s s1 c c1 kids B C _ (hL.later j07 L0) (hN.later j08 L0) hv hl hn
 go_enter Tryz.func62,Tryz.ntmps62
 go_wp2_with fail;refine hr.mono ?_
 rintro e w1 ⟨rfl,hb1⟩
 have L1:=j01 L0 hb1
 obtain⟨y0,y1,y2,y3,y4⟩:=(k0.later hb1).four'
 have hrl:(((kids.map (kkAt t)).map rl)).length<=1048576:=by simp;exact hl
 have HI:Hid (kidB 26 (kids.map (kkAt t))=decide ((kids.map (kkAt t)).map rl=[101])):=j0u (j0s [1] (λn=>by simp[shp]) (by decide))
 generalize hR:(kids.map (kkAt t)).map rl=R at hrl HI ⊢
 clear hr x0 x1 x2 x3 x4;by_cases h1:R=[101]
 ·
  subst h1
  go_wp2_with fail;go_ret;exact⟨j03 (by rw[HI.out];rfl),L1⟩
 have q1:=j1o h1
 have H1:Hid (¬R=[101]):=h1
 clear h1;go_wp2_with fail;go_ret;exact⟨j03 (by rw[HI.out,decide_eq_false H1.out]),L1⟩
theorem jj4 (t:Tre) (tx:ByteArray) (q:Int) (s s1:Option Addr) (c c1:Nat) (kids:List Int) (B C:Nat) (w:World) (hL:Els 1 cInt w B s kids) (hN:Els 4 j1d w C s1 t.nodes) (hv:∀x∈kids,∃m:Nat,x=m/\m<t.nodes.length) (hl:kids.length<=1048576) (hn:t.nodes.length<=1048576) :
  Calls Tryz.prog 62 #[.agg #[.int .i64 27,.string tx,.int .i64 q,.slice s kids.length c],.slice s1 t.nodes.length c1] w (j10 t 27 kids w):=by
 have k0:=Blk.new w #[.int .i64 27,.string tx,.int .i64 q,.slice s kids.length c] 73
 have L0:=j00 (Below.refl _ w) (.cells #[.int .i64 27,.string tx,.int .i64 q,.slice s kids.length c] 73)
 obtain⟨x0,x1,x2,x3,x4⟩:=k0.four'
 have hr:=j0a t s s1 c c1 kids B C _ (hL.later j07 L0) (hN.later j08 L0) hv hl hn
 go_enter Tryz.func62,Tryz.ntmps62
 go_wp2_with fail;refine hr.mono ?_
 rintro e w1 ⟨rfl,hb1⟩
 have L1:=j01 L0 hb1
 obtain⟨y0,y1,y2,y3,y4⟩:=(k0.later hb1).four'
 have hrl:(((kids.map (kkAt t)).map rl)).length<=1048576:=by simp;exact hl
 have HI:Hid (kidB 27 (kids.map (kkAt t))=decide (∀b∈(kids.map (kkAt t)).map rl,b=115)):=j0u (j69 (c:=2) (λn=>by simp[shp]) (by decide))
 generalize hR:(kids.map (kkAt t)).map rl=R at hrl HI ⊢
 clear hr x0 x1 x2 x3 x4;go_wp2_with (go_at_call 63;refine(j42 _ 115 (by decide) hrl _).mono ?_;rintro e w2 ⟨rfl,hb2⟩)
 go_ret;exact⟨j03 (by rw[HI.out]),j01 L1 hb2⟩
theorem jif (t:Tre) (tx:ByteArray) (q:Int) (s s1:Option Addr) (c c1:Nat) (kids:List Int) (B C:Nat) (w:World) (hL:Els 1 cInt w B s kids) (hN:Els 4 j1d w C s1 t.nodes) (hv:∀x∈kids,∃m:Nat,x=m/\m<t.nodes.length) (hl:kids.length<=1048576) (hn:t.nodes.length<=1048576) :
  Calls Tryz.prog 62 #[.agg #[.int .i64 28,.string tx,.int .i64 q,.slice s kids.length c],.slice s1 t.nodes.length c1] w (j10 t 28 kids w):=by
 have k0:=Blk.new w #[.int .i64 28,.string tx,.int .i64 q,.slice s kids.length c] 73
 have L0:=j00 (Below.refl _ w) (.cells #[.int .i64 28,.string tx,.int .i64 q,.slice s kids.length c] 73)
 obtain⟨x0,x1,x2,x3,x4⟩:=k0.four'
 have hr:=j0a t s s1 c c1 kids B C _ (hL.later j07 L0) (hN.later j08 L0) hv hl hn
 go_enter Tryz.func62,Tryz.ntmps62
 go_wp2_with fail;refine hr.mono ?_
 rintro e w1 ⟨rfl,hb1⟩
 have L1:=j01 L0 hb1
 obtain⟨y0,y1,y2,y3,y4⟩:=(k0.later hb1).four'
 have hrl:(((kids.map (kkAt t)).map rl)).length<=1048576:=by simp;exact hl
 have HI:Hid (kidB 28 (kids.map (kkAt t))=decide ((kids.map (kkAt t)).map rl=[101])):=j0u (j0s [1] (λn=>by simp[shp]) (by decide))
 generalize hR:(kids.map (kkAt t)).map rl=R at hrl HI ⊢
 clear hr x0 x1 x2 x3 x4;by_cases h1:R=[101]
 ·
  subst h1
  go_wp2_with fail;go_ret;exact⟨j03 (by rw[HI.out];rfl),L1⟩
 have q1:=j1o h1
 have H1:Hid (¬R=[101]):=h1
 clear h1;go_wp2_with fail;go_ret;exact⟨j03 (by rw[HI.out,decide_eq_false H1.out]),L1⟩
theorem jju (t:Tre) (tx:ByteArray) (q:Int) (s s1:Option Addr) (c c1:Nat) (kids:List Int) (B C:Nat) (w:World) (hL:Els 1 cInt w B s kids) (hN:Els 4 j1d w C s1 t.nodes) (hv:∀x∈kids,∃m:Nat,x=m/\m<t.nodes.length) (hl:kids.length<=1048576) (hn:t.nodes.length<=1048576) :
  Calls Tryz.prog 62 #[.agg #[.int .i64 29,.string tx,.int .i64 q,.slice s kids.length c],.slice s1 t.nodes.length c1] w (j10 t 29 kids w):=by
 have k0:=Blk.new w #[.int .i64 29,.string tx,.int .i64 q,.slice s kids.length c] 73
 have L0:=j00 (Below.refl _ w) (.cells #[.int .i64 29,.string tx,.int .i64 q,.slice s kids.length c] 73)
 obtain⟨x0,x1,x2,x3,x4⟩:=k0.four'
 have hr:=j0a t s s1 c c1 kids B C _ (hL.later j07 L0) (hN.later j08 L0) hv hl hn
 go_enter Tryz.func62,Tryz.ntmps62
 go_wp2_with fail;refine hr.mono ?_
 rintro e w1 ⟨rfl,hb1⟩
 have L1:=j01 L0 hb1
 obtain⟨y0,y1,y2,y3,y4⟩:=(k0.later hb1).four'
 have hrl:(((kids.map (kkAt t)).map rl)).length<=1048576:=by simp;exact hl
 have HI:Hid (kidB 29 (kids.map (kkAt t))=decide (¬(kids.map (kkAt t)).map rl=[]/\∀b∈(kids.map (kkAt t)).map rl,b=110)):=j0u jej
 generalize hR:(kids.map (kkAt t)).map rl=R at hrl HI ⊢
 clear hr x0 x1 x2 x3 x4;by_cases h1:R=[]
 ·
  subst h1
  go_wp2_with fail;go_ret;exact⟨j03 (by rw[HI.out];rfl),L1⟩
 have q1:=j0c (j0r h1)
 have H1:Hid (¬R=[]):=h1
 clear h1;go_wp2_with (go_at_call 63;refine(j42 _ 110 (by decide) hrl _).mono ?_;rintro e w2 ⟨rfl,hb2⟩)
 go_ret;refine⟨j03 ?_,j01 L1 hb2⟩
 rw[HI.out]
 have h5:=H1.out
 simp[h5]
theorem jj9 (t:Tre) (tx:ByteArray) (q:Int) (s s1:Option Addr) (c c1:Nat) (kids:List Int) (B C:Nat) (w:World) (hL:Els 1 cInt w B s kids) (hN:Els 4 j1d w C s1 t.nodes) (hv:∀x∈kids,∃m:Nat,x=m/\m<t.nodes.length) (hl:kids.length<=1048576) (hn:t.nodes.length<=1048576) :
  Calls Tryz.prog 62 #[.agg #[.int .i64 30,.string tx,.int .i64 q,.slice s kids.length c],.slice s1 t.nodes.length c1] w (j10 t 30 kids w):=by
 have k0:=Blk.new w #[.int .i64 30,.string tx,.int .i64 q,.slice s kids.length c] 73
 have L0:=j00 (Below.refl _ w) (.cells #[.int .i64 30,.string tx,.int .i64 q,.slice s kids.length c] 73)
 obtain⟨x0,x1,x2,x3,x4⟩:=k0.four'
 have hr:=j0a t s s1 c c1 kids B C _ (hL.later j07 L0) (hN.later j08 L0) hv hl hn
 go_enter Tryz.func62,Tryz.ntmps62
 go_wp2_with fail;refine hr.mono ?_
 rintro e w1 ⟨rfl,hb1⟩
 have L1:=j01 L0 hb1
 obtain⟨y0,y1,y2,y3,y4⟩:=(k0.later hb1).four'
 have hrl:(((kids.map (kkAt t)).map rl)).length<=1048576:=by simp;exact hl
 have HI:Hid (kidB 30 (kids.map (kkAt t))=decide (∀b∈(kids.map (kkAt t)).map rl,b=110)):=j0u (j69 (c:=6) (λn=>by simp[shp]) (by decide))
 generalize hR:(kids.map (kkAt t)).map rl=R at hrl HI ⊢
 clear hr x0 x1 x2 x3 x4;go_wp2_with (go_at_call 63;refine(j42 _ 110 (by decide) hrl _).mono ?_;rintro e w2 ⟨rfl,hb2⟩)
 go_ret;exact⟨j03 (by rw[HI.out]),j01 L1 hb2⟩
theorem jii (t:Tre) (tx:ByteArray) (q:Int) (s s1:Option Addr) (c c1:Nat) (kids:List Int) (B C:Nat) (w:World) (hL:Els 1 cInt w B s kids) (hN:Els 4 j1d w C s1 t.nodes) (hv:∀x∈kids,∃m:Nat,x=m/\m<t.nodes.length) (hl:kids.length<=1048576) (hn:t.nodes.length<=1048576) :
  Calls Tryz.prog 62 #[.agg #[.int .i64 31,.string tx,.int .i64 q,.slice s kids.length c],.slice s1 t.nodes.length c1] w (j10 t 31 kids w):=by
 have k0:=Blk.new w #[.int .i64 31,.string tx,.int .i64 q,.slice s kids.length c] 73
 have L0:=j00 (Below.refl _ w) (.cells #[.int .i64 31,.string tx,.int .i64 q,.slice s kids.length c] 73)
 obtain⟨x0,x1,x2,x3,x4⟩:=k0.four'
 have hr:=j0a t s s1 c c1 kids B C _ (hL.later j07 L0) (hN.later j08 L0) hv hl hn
 go_enter Tryz.func62,Tryz.ntmps62
 go_wp2_with fail;refine hr.mono ?_
 rintro e w1 ⟨rfl,hb1⟩
 have L1:=j01 L0 hb1
 obtain⟨y0,y1,y2,y3,y4⟩:=(k0.later hb1).four'
 have hrl:(((kids.map (kkAt t)).map rl)).length<=1048576:=by simp;exact hl
 have HI:Hid (kidB 31 (kids.map (kkAt t))=decide ((kids.map (kkAt t)).map rl=[])):=j0u (j0s [] (λn=>by simp[shp]) (by decide))
 generalize hR:(kids.map (kkAt t)).map rl=R at hrl HI ⊢
 clear hr x0 x1 x2 x3 x4;by_cases h1:R=[]
 ·
  subst h1
  go_wp2_with fail;go_ret;exact⟨j03 (by rw[HI.out];rfl),L1⟩
 have q1:=j0c (j0r h1)
 have H1:Hid (¬R=[]):=h1
 clear h1;go_wp2_with fail;go_ret;exact⟨j03 (by rw[HI.out,decide_eq_false H1.out];have h9:=j0c (j0r H1.out);simpa using h9),L1⟩
theorem jic (t:Tre) (tx:ByteArray) (q:Int) (s s1:Option Addr) (c c1:Nat) (kids:List Int) (B C:Nat) (w:World) (hL:Els 1 cInt w B s kids) (hN:Els 4 j1d w C s1 t.nodes) (hv:∀x∈kids,∃m:Nat,x=m/\m<t.nodes.length) (hl:kids.length<=1048576) (hn:t.nodes.length<=1048576) :
  Calls Tryz.prog 62 #[.agg #[.int .i64 32,.string tx,.int .i64 q,.slice s kids.length c],.slice s1 t.nodes.length c1] w (j10 t 32 kids w):=by
 have k0:=Blk.new w #[.int .i64 32,.string tx,.int .i64 q,.slice s kids.length c] 73
 have L0:=j00 (Below.refl _ w) (.cells #[.int .i64 32,.string tx,.int .i64 q,.slice s kids.length c] 73)
 obtain⟨x0,x1,x2,x3,x4⟩:=k0.four'
 have hr:=j0a t s s1 c c1 kids B C _ (hL.later j07 L0) (hN.later j08 L0) hv hl hn
 go_enter Tryz.func62,Tryz.ntmps62
 go_wp2_with fail;refine hr.mono ?_
 rintro e w1 ⟨rfl,hb1⟩
 have L1:=j01 L0 hb1
 obtain⟨y0,y1,y2,y3,y4⟩:=(k0.later hb1).four'
 have hrl:(((kids.map (kkAt t)).map rl)).length<=1048576:=by simp;exact hl
 have HI:Hid (kidB 32 (kids.map (kkAt t))=decide ((kids.map (kkAt t)).map rl=[])):=j0u (j0s [] (λn=>by simp[shp]) (by decide))
 generalize hR:(kids.map (kkAt t)).map rl=R at hrl HI ⊢
 clear hr x0 x1 x2 x3 x4;by_cases h1:R=[]
 ·
  subst h1
  go_wp2_with fail;go_ret;exact⟨j03 (by rw[HI.out];rfl),L1⟩
 have q1:=j0c (j0r h1)
 have H1:Hid (¬R=[]):=h1
 clear h1;go_wp2_with fail;go_ret;exact⟨j03 (by rw[HI.out,decide_eq_false H1.out];have h9:=j0c (j0r H1.out);simpa using h9),L1⟩
theorem jj5 (t:Tre) (tx:ByteArray) (q:Int) (s s1:Option Addr) (c c1:Nat) (kids:List Int) (B C:Nat) (w:World) (hL:Els 1 cInt w B s kids) (hN:Els 4 j1d w C s1 t.nodes) (hv:∀x∈kids,∃m:Nat,x=m/\m<t.nodes.length) (hl:kids.length<=1048576) (hn:t.nodes.length<=1048576) :
  Calls Tryz.prog 62 #[.agg #[.int .i64 33,.string tx,.int .i64 q,.slice s kids.length c],.slice s1 t.nodes.length c1] w (j10 t 33 kids w):=by
 have k0:=Blk.new w #[.int .i64 33,.string tx,.int .i64 q,.slice s kids.length c] 73
 have L0:=j00 (Below.refl _ w) (.cells #[.int .i64 33,.string tx,.int .i64 q,.slice s kids.length c] 73)
 obtain⟨x0,x1,x2,x3,x4⟩:=k0.four'
 have hr:=j0a t s s1 c c1 kids B C _ (hL.later j07 L0) (hN.later j08 L0) hv hl hn
 go_enter Tryz.func62,Tryz.ntmps62
 go_wp2_with fail;refine hr.mono ?_
 rintro e w1 ⟨rfl,hb1⟩
 have L1:=j01 L0 hb1
 obtain⟨y0,y1,y2,y3,y4⟩:=(k0.later hb1).four'
 have hrl:(((kids.map (kkAt t)).map rl)).length<=1048576:=by simp;exact hl
 have HI:Hid (kidB 33 (kids.map (kkAt t))=@decide (∃r,(kids.map (kkAt t)).map rl=r++[98]/\∀b∈r,b=112) (Classical.propDecidable _)):=by classical exact j0u jkd
 generalize hR:(kids.map (kkAt t)).map rl=R at hrl HI ⊢
 clear hr x0 x1 x2 x3 x4;have hT:=λW=>Any.strings_TrimLeft_one Tryz.laysTrimLeft ⟨R.toArray⟩ 112 (by decide) W
 have hE:(⟨R.toArray⟩:ByteArray).data.toList=R:=by simp
 simp only[hE] at hT
 by_cases h1:Lib.trimLeftB R 112=[98]
 ·
  have HX:Hid (∃r,R=r++[98]/\∀b∈r,b=112):=⟨R.takeWhile (· ==112),by rw[<-h1];exact(List.takeWhile_append_dropWhile (p:=(· ==112)) (l:=R)).symm,λb hb=>by
   have:=List.all_takeWhile (p:=(· ==(112:UInt8))) (l:=R)
   rw[List.all_eq_true] at this
   simpa using this b hb⟩
  rw[h1] at hT
  clear h1;go_wp2_with (go_at_call 79;refine(hT _).mono ?_;rintro e w2 ⟨rfl,rfl⟩)
  go_ret;exact⟨j03 (by rw[HI.out];symm;exact @decide_eq_true _ (Classical.propDecidable _) HX.out),L1⟩
 have HX:Hid (¬∃r,R=r++[98]/\∀b∈r,b=112):=by
  rintro⟨r,e,hr⟩
  apply h1
  rw[e]
  unfold Lib.trimLeftB
  rw[List.dropWhile_append,j40.2 (λb hb=>by simp[hr b hb])]
  all_goals rfl
 have q1:=j1o h1
 generalize Lib.trimLeftB R 112=T at hT q1
 clear h1;go_wp2_with (go_at_call 79;refine(hT _).mono ?_;rintro e w2 ⟨rfl,rfl⟩)
 go_ret;exact⟨j03 (by rw[HI.out];symm;exact @decide_eq_false _ (Classical.propDecidable _) HX.out),L1⟩
theorem jj2 (t:Tre) (tx:ByteArray) (q:Int) (s s1:Option Addr) (c c1:Nat) (kids:List Int) (B C:Nat) (w:World) (hL:Els 1 cInt w B s kids) (hN:Els 4 j1d w C s1 t.nodes) (hv:∀x∈kids,∃m:Nat,x=m/\m<t.nodes.length) (hl:kids.length<=1048576) (hn:t.nodes.length<=1048576) :
  Calls Tryz.prog 62 #[.agg #[.int .i64 34,.string tx,.int .i64 q,.slice s kids.length c],.slice s1 t.nodes.length c1] w (j10 t 34 kids w):=by
 have k0:=Blk.new w #[.int .i64 34,.string tx,.int .i64 q,.slice s kids.length c] 73
 have L0:=j00 (Below.refl _ w) (.cells #[.int .i64 34,.string tx,.int .i64 q,.slice s kids.length c] 73)
 obtain⟨x0,x1,x2,x3,x4⟩:=k0.four'
 have hr:=j0a t s s1 c c1 kids B C _ (hL.later j07 L0) (hN.later j08 L0) hv hl hn
 go_enter Tryz.func62,Tryz.ntmps62
 go_wp2_with fail;refine hr.mono ?_
 rintro e w1 ⟨rfl,hb1⟩
 have L1:=j01 L0 hb1
 obtain⟨y0,y1,y2,y3,y4⟩:=(k0.later hb1).four'
 have hrl:(((kids.map (kkAt t)).map rl)).length<=1048576:=by simp;exact hl
 have HI:Hid (kidB 34 (kids.map (kkAt t))=decide ((kids.map (kkAt t)).map rl=[98])):=j0u (j0s [3] (λn=>by simp[shp]) (by decide))
 generalize hR:(kids.map (kkAt t)).map rl=R at hrl HI ⊢
 clear hr x0 x1 x2 x3 x4;by_cases h1:R=[98]
 ·
  subst h1
  go_wp2_with fail;go_ret;exact⟨j03 (by rw[HI.out];rfl),L1⟩
 have q1:=j1o h1
 have H1:Hid (¬R=[98]):=h1
 clear h1;go_wp2_with fail;go_ret;exact⟨j03 (by rw[HI.out,decide_eq_false H1.out]),L1⟩
theorem j5y (k:Int) (hk:k<1\/34<k) (t:Tre) (tx:ByteArray) (q:Int) (s s1:Option Addr) (c c1:Nat) (kids:List Int) (B C:Nat) (w:World) (hL:Els 1 cInt w B s kids) (hN:Els 4 j1d w C s1 t.nodes) (hv:∀x∈kids,∃m:Nat,x=m/\m<t.nodes.length) (hl:kids.length<=1048576) (hn:t.nodes.length<=1048576) :
  Calls Tryz.prog 62 #[.agg #[.int .i64 k,.string tx,.int .i64 q,.slice s kids.length c],.slice s1 t.nodes.length c1] w (j10 t k kids w):=by
 have k0:=Blk.new w #[.int .i64 k,.string tx,.int .i64 q,.slice s kids.length c] 73
 have L0:=j00 (Below.refl _ w) (.cells #[.int .i64 k,.string tx,.int .i64 q,.slice s kids.length c] 73)
 obtain⟨x0,x1,x2,x3,x4⟩:=k0.four'
 have hr:=j0a t s s1 c c1 kids B C _ (hL.later j07 L0) (hN.later j08 L0) hv hl hn
 have HN:=j0o hk
 have g7:=HN.ne 7 (by omega) (by omega)
 have g8:=HN.ne 8 (by omega) (by omega)
 have g9:=HN.ne 9 (by omega) (by omega)
 have g10:=HN.ne 10 (by omega) (by omega)
 have g11:=HN.ne 11 (by omega) (by omega)
 have g12:=HN.ne 12 (by omega) (by omega)
 have g13:=HN.ne 13 (by omega) (by omega)
 have g14:=HN.ne 14 (by omega) (by omega)
 have g15:=HN.ne 15 (by omega) (by omega)
 have g16:=HN.ne 16 (by omega) (by omega)
 have g17:=HN.ne 17 (by omega) (by omega)
 have g18:=HN.ne 18 (by omega) (by omega)
 have g19:=HN.ne 19 (by omega) (by omega)
 have g20:=HN.ne 20 (by omega) (by omega)
 have g21:=HN.ne 21 (by omega) (by omega)
 have g23:=HN.ne 23 (by omega) (by omega)
 have g25:=HN.ne 25 (by omega) (by omega)
 have g26:=HN.ne 26 (by omega) (by omega)
 have g27:=HN.ne 27 (by omega) (by omega)
 have g28:=HN.ne 28 (by omega) (by omega)
 have g29:=HN.ne 29 (by omega) (by omega)
 have g30:=HN.ne 30 (by omega) (by omega)
 have g33:=HN.ne 33 (by omega) (by omega)
 have g34:=HN.ne 34 (by omega) (by omega)
 clear HN;go_enter Tryz.func62,Tryz.ntmps62
 go_wp2_with fail;refine hr.mono ?_
 rintro e w1 ⟨rfl,hb1⟩
 have L1:=j01 L0 hb1
 obtain⟨y0,y1,y2,y3,y4⟩:=(k0.later hb1).four'
 have hrl:(((kids.map (kkAt t)).map rl)).length<=1048576:=by simp;exact hl
 have HI:Hid (kidB k (kids.map (kkAt t))=decide ((kids.map (kkAt t)).map rl=[])):=j0u (jf5 hk)
 generalize hR:(kids.map (kkAt t)).map rl=R at hrl HI ⊢
 clear hr x0 x1 x2 x3 x4;by_cases h1:R=[]
 ·
  subst h1
  go_wp2_with fail;go_ret;exact⟨j03 (by rw[HI.out];rfl),L1⟩
 have q1:=j0c (j0r h1)
 have H1:Hid (¬R=[]):=h1
 clear h1;go_wp2_with fail;go_ret;exact⟨j03 (by rw[HI.out,decide_eq_false H1.out];have h9:=j0c (j0r H1.out);simpa using h9),L1⟩
theorem j6p (k:Int) (t:Tre) (tx:ByteArray) (q:Int) (s s1:Option Addr) (c c1:Nat) (kids:List Int) (B C:Nat) (w:World) (hL:Els 1 cInt w B s kids) (hN:Els 4 j1d w C s1 t.nodes) (hv:∀x∈kids,∃m:Nat,x=m/\m<t.nodes.length) (hl:kids.length<=1048576) (hn:t.nodes.length<=1048576) :
  Calls Tryz.prog 62 #[.agg #[.int .i64 k,.string tx,.int .i64 q,.slice s kids.length c],.slice s1 t.nodes.length c1] w (j10 t k kids w):=by
 rcases j4m k with h|h|rfl|rfl|rfl|rfl|rfl|rfl|rfl|rfl|rfl|rfl|rfl|rfl|rfl|rfl|rfl|rfl|rfl|rfl|rfl|rfl|rfl|rfl|rfl|rfl|rfl|rfl|rfl|rfl|rfl|rfl|rfl|rfl|rfl|rfl
 ·
  exact j5y k (Or.inl h) t tx q s s1 c c1 kids B C w hL hN hv hl hn
 ·
  exact j5y k (Or.inr h) t tx q s s1 c c1 kids B C w hL hN hv hl hn
 ·
  exact jll t tx q s s1 c c1 kids B C w hL hN hv hl hn
 ·
  exact jm1 t tx q s s1 c c1 kids B C w hL hN hv hl hn
 ·
  exact jlm t tx q s s1 c c1 kids B C w hL hN hv hl hn
 ·
  exact jl8 t tx q s s1 c c1 kids B C w hL hN hv hl hn
 ·
  exact jkh t tx q s s1 c c1 kids B C w hL hN hv hl hn
 ·
  exact jkz t tx q s s1 c c1 kids B C w hL hN hv hl hn
 ·
  exact jly t tx q s s1 c c1 kids B C w hL hN hv hl hn
 ·
  exact jlp t tx q s s1 c c1 kids B C w hL hN hv hl hn
 ·
  exact jke t tx q s s1 c c1 kids B C w hL hN hv hl hn
 ·
  exact jjd t tx q s s1 c c1 kids B C w hL hN hv hl hn
 ·
  exact jiv t tx q s s1 c c1 kids B C w hL hN hv hl hn
 ·
  exact jj0 t tx q s s1 c c1 kids B C w hL hN hv hl hn
 ·
  exact jk2 t tx q s s1 c c1 kids B C w hL hN hv hl hn
 ·
  exact jid t tx q s s1 c c1 kids B C w hL hN hv hl hn
 ·
  exact jj8 t tx q s s1 c c1 kids B C w hL hN hv hl hn
 ·
  exact jip t tx q s s1 c c1 kids B C w hL hN hv hl hn
 ·
  exact jiq t tx q s s1 c c1 kids B C w hL hN hv hl hn
 ·
  exact jjr t tx q s s1 c c1 kids B C w hL hN hv hl hn
 ·
  exact jih t tx q s s1 c c1 kids B C w hL hN hv hl hn
 ·
  exact jjt t tx q s s1 c c1 kids B C w hL hN hv hl hn
 ·
  exact jir t tx q s s1 c c1 kids B C w hL hN hv hl hn
 ·
  exact jjk t tx q s s1 c c1 kids B C w hL hN hv hl hn
 ·
  exact jk9 t tx q s s1 c c1 kids B C w hL hN hv hl hn
 ·
  exact jik t tx q s s1 c c1 kids B C w hL hN hv hl hn
 ·
  exact jie t tx q s s1 c c1 kids B C w hL hN hv hl hn
 ·
  exact jji t tx q s s1 c c1 kids B C w hL hN hv hl hn
 ·
  exact jj4 t tx q s s1 c c1 kids B C w hL hN hv hl hn
 ·
  exact jif t tx q s s1 c c1 kids B C w hL hN hv hl hn
 ·
  exact jju t tx q s s1 c c1 kids B C w hL hN hv hl hn
 ·
  exact jj9 t tx q s s1 c c1 kids B C w hL hN hv hl hn
 ·
  exact jii t tx q s s1 c c1 kids B C w hL hN hv hl hn
 ·
  exact jic t tx q s s1 c c1 kids B C w hL hN hv hl hn
 ·
  exact jj5 t tx q s s1 c c1 kids B C w hL hN hv hl hn
 exact jj2 t tx q s s1 c c1 kids B C w hL hN hv hl hn
end
end Go.Proofs.YtjbbagcpcepkoaaGreatDoor
