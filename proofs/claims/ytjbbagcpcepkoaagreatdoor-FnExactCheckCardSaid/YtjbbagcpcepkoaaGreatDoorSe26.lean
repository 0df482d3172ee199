import Derived.Test.YtjbbagcpcepkoaaGreatDoorSe25
import Derived.Test.YtjbbagcpcepkoaaGreatDoorSe24
namespace Go.Proofs.YtjbbagcpcepkoaaGreatDoor
set_option maxRecDepth 100000
set_option maxHeartbeats 64000000
set_option linter.unusedVariables false
set_option linter.unusedSimpArgs false
section
open Go.RowKit
theorem jaj {s a b:ByteArray} (hc:jad s a b) (h1:j3i a 9=true) (h2:j3u b 6=true):j2s s a.size b.size/\(a++b).data.toList=s.data.toList.take a.size++s.data.toList.drop (a.size+1):=by
 unfold j3i j3u at h1
 unfold j3u at h2
 simp only[Bool.and_eq_true,Bool.or_eq_true,decide_eq_true_eq,Bool.not_eq_true',decide_eq_false_iff_not] at h1 h2
 obtain⟨⟨⟨a1,a2⟩,a3⟩,a4⟩:=h1
 obtain⟨⟨b1,b2⟩,b3⟩:=h2
 rcases hc with ⟨i,hi,hp,hno,rfl,rfl⟩|⟨_,_,rfl⟩
 ·
  have sA:(s.extract 0 i).size=i:=by rw[j2f (by omega)];omega
  have sB:(s.extract (i+1) s.size).size=s.size-(i+1):=by rw[j2f (by omega)]
  rw[sA] at a1 a2 a3 a4 ⊢
  rw[sB] at b1 b2 b3 ⊢
  refine⟨⟨by omega,by omega,by omega,by omega,by omega,hp,λj hj=>?_,λj h1 h2=>?_,?_⟩,?_⟩
  ·
   have:=a3 j hj
   rw[j2l (by omega) (by omega)] at this
   simpa using this
  ·
   have:=b3 (j-(i+1)) (by omega)
   rw[j2l (by omega) (by omega)] at this
   rw[show i+1+(j-(i+1))=j by omega] at this
   exact this
  ·
   rcases a4 with h|h
   ·
    exact Or.inl h
   right
   rw[j4v (by omega) (by omega)] at h
   simpa using h
  rw[jb2,j3f (by omega),j3f (by omega)]
  congr 1
  exact List.take_of_length_le (by rw[List.length_drop,j5f];omega)
 simp at b1
theorem j6z {s a b:ByteArray} (hc:jad s a b) {n k:Nat} (h:j2s s n k):j3i a 9=true/\j3u b 6=true:=by
 have hz:=h.size
 have ha1:=h.a1
 have ha9:=h.a9
 have hk1:=h.k1
 have hk6:=h.k6
 rcases hc with ⟨i,hi,hp,hno,rfl,rfl⟩|⟨hno,_,_⟩
 ·
  have hin:i=n:=by
   by_cases h1:i<n
   ·
    have:=h.fst i h1
    rw[jj3 hp] at this;cases this
   by_cases h2:n<i
   ·
    exact absurd h.pt (hno n h2)
   omega
  subst hin
  have sA:(s.extract 0 i).size=i:=by rw[j2f (by omega)];omega
  have sB:(s.extract (i+1) s.size).size=k:=by rw[j2f (by omega)];omega
  have dA:∀j,j<i->dgAt (s.extract 0 i) j=true:=λj hj=>by
   rw[j2l (by omega) (by omega)]
   exact h.fst _ (by omega)
  have dB:∀j,j<k->dgAt (s.extract (i+1) s.size) j=true:=λj hj=>by
   rw[j2l (by omega) (by omega)]
   exact h.snd _ (by omega) (by omega)
  unfold j3i j3u
  simp only[Bool.and_eq_true,Bool.or_eq_true,decide_eq_true_eq,Bool.not_eq_true',decide_eq_false_iff_not]
  rw[sA,sB]
  refine⟨⟨⟨⟨by omega,by omega⟩,dA⟩,?_⟩,⟨by omega,by omega⟩,dB⟩
  rcases h.nz with e|e
  ·
   exact Or.inl e
  right
  rw[j4v (by omega) (by omega)]
  simpa using e
 exact absurd h.pt (hno n (by omega))
theorem j7l (s:ByteArray) (hs:s.size<=1048576) (w:World) :
  Calls Tryz.prog 77 #[.string s] w λe w'=>j2e s e/\Below w.heap.size w w':=by
 go_enter Tryz.func77,Tryz.ntmps77
 go_wp2_with fail;refine(jk7 s hs _).mono ?_
 rintro e w1 ⟨⟨a,b,fd,rfl,hc⟩,hb1⟩
 have HC:Hid (jad s a b):=hc
 clear hc;go_wp2_with fail;refine(j76 a 9 _).mono ?_
 rintro e w2 ⟨rfl,hb2⟩
 have hb2:=j01 hb1 hb2
 clear hb1;cases h1:j3i a 9
 ·
  have F:j2e s (.returned (.tuple #[.float .f64 0,.bool false])):=Or.inl ⟨λ⟨n,k,h⟩=>(by have:=(j6z HC.out h).1;rw[h1] at this;cases this),rfl⟩
  go_wp2_with fail;go_ret2
  exact⟨F,hb2⟩
 go_wp2_with fail;refine(j4r b 6 _).mono ?_
 rintro e w3 ⟨rfl,hb3⟩
 have hb3:=j01 hb2 hb3
 clear hb2;cases h2:j3u b 6
 ·
  have F:j2e s (.returned (.tuple #[.float .f64 0,.bool false])):=Or.inl ⟨λ⟨n,k,h⟩=>(by have:=(j6z HC.out h).2;rw[h2] at this;cases this),rfl⟩
  go_wp2_with fail;go_ret2
  exact⟨F,hb3⟩
 obtain⟨HR,hL⟩:=jaj HC.out h1 h2
 have HA:Hid (j2s s a.size b.size):=HR
 obtain⟨m,n,A,B,hA,hB,nm,nn,bm,bn,HS,-,-⟩:=j5u HR
 have hN:=HS _ rfl
 rw[<-hL] at hN
 have HN:Hid (j9t (a++b) (m*10 ^ b.size+n)):=hN
 have k6:=HR.k6
 have k1:=HR.k1
 have sz:(a++b).size=a.size+b.size:=by simp[ByteArray.size_append]
 have a9:=HR.a9
 have db:Hid (∀j,j<b.size->byA b j<128):=by
  intro j hj
  unfold j3u at h2
  simp only[Bool.and_eq_true,decide_eq_true_eq] at h2
  have:dgB (byA b j)=true:=h2.2 j hj
  rw[j8j] at this;omega
 obtain⟨N,hNN⟩:∃N,Hid (m*10 ^ b.size+n=N):=⟨_,(rfl:m*10 ^ b.size+n=m*10 ^ b.size+n)⟩
 rw[hNN.out] at HN hN
 obtain⟨r,hr,br⟩:=j6q (N:Int) (k:=b.size) k6
 have FIN:Hid (j2e s (.returned (.tuple #[.float .f64 r,.bool true]))):=by
  refine Or.inr ⟨a.size,b.size,N,r,HA.out,?_,hr,br,rfl⟩
  rw[<-hL];exact hN
 have hq:=λw=>run_float_arith (P:=Tryz.prog) w .quo 157 .f64 _ _ r hr
 clear hr HS hA hB nm nn bm bn hN hL HR h1 h2;go_wp2_with fail;go_loopw [7] (λtv wr=>∃k:Nat,k<=b.size/\wr=w3.iter b k/\tv=.float .f64 (tenF k)) (λ_ wr=>b.size-wr.iterPos w3.heap.size)
 case atStart=>exact⟨0,Nat.zero_le _,rfl,rfl⟩
 obtain⟨k,hk,rfl,rfl⟩:=hrel
 by_cases hlt:k<b.size
 ·
  have hnx:=λty=>run_next_ascii (P:=Tryz.prog) w3 b k ty hlt (by rw[j6x hlt];exact db.out k hlt)
  have hm:=λw=>run_float_arith (P:=Tryz.prog) w .mul 157 .f64 _ _ _ (jde (k:=k) (by omega))
  go_wp2_with fail;go_roundw
  case rel=>exact⟨k+1,by omega,rfl,rfl⟩
  case measure=>simp;omega
 have hnx:=λty=>run_next_end (P:=Tryz.prog) w3 b k ty hlt
 have hkb:Hid (k=b.size):=by show _=_;omega
 rw[hkb.out] at hnx ⊢
 go_wp2_with fail;refine(j9r (a++b) N (by omega) (by omega) HN.out _).mono ?_
 rintro e w4 ⟨rfl,hb4⟩
 have hb4:=j01 (j00 hb3 (.stringIter b b.size)) hb4
 go_wp2_with fail;go_ret2
 exact⟨FIN.out,hb4⟩
end
section
open Go.RowKit
noncomputable def tfB (k:Int) (t:ByteArray):Bool:=if k=2 then j8d t else if j47 k then j1q t else decide (t=⟨#[]⟩)
def loK (k:Int):Int:=if k=8\/k=9\/k=32\/k=33 then 1 else 0
def hiK (k:Int):Int:=if k=1 then 999999999999999 else if k=3 then 1 else if k=8 then 9 else if k=9 then 6 else if k=32\/k=33 then 4 else 0
def nfB (k q:Int):Bool:=decide (loK k<=q)&&decide (q<=hiK k)
theorem jbt (k q:Int):numB k q=nfB k q:=by
 have h0:(q ==0)=(decide ((0:Int)<=q)&&decide (q<=0)):=by rw[Bool.eq_iff_iff];simp;omega
 have h1:(q ==0 || q ==1)=(decide ((0:Int)<=q)&&decide (q<=1)):=by rw[Bool.eq_iff_iff];simp;omega
 unfold numB nfB loK hiK
 by_cases e1:k=1
 ·
  subst e1;rfl
 by_cases e3:k=3
 ·
  subst e3;exact h1
 by_cases e8:k=8
 ·
  subst e8;rfl
 by_cases e9:k=9
 ·
  subst e9;rfl
 by_cases e32:k=32\/k=33
 ·
  rw[if_neg e1,if_neg e3,if_neg e8,if_neg e9,if_pos e32,if_pos (by omega),if_neg e1,if_neg e3,if_neg e8,if_neg e9,if_pos e32]
 rw[if_neg e1,if_neg e3,if_neg e8,if_neg e9,if_neg e32,if_neg (by omega),if_neg e1,if_neg e3,if_neg e8,if_neg e9,if_neg e32]
 exact h0
theorem j55 (k:Int) (t:ByteArray) (q:Int):hasB k t q=(tfB k t&&nfB k q):=by
 unfold hasB tfB
 by_cases e2:k=2
 ·
  subst e2
  rw[if_pos rfl,if_pos rfl,<-jbt]
  all_goals rfl
 rw[if_neg e2,if_neg e2,jbt]
 split<;>rfl
theorem jaw {k:Int} (h:j47 k=true):k=4\/k=5\/k=6\/k=7\/k=12\/k=13\/k=14\/k=15\/k=19\/k=20\/k=23\/k=24\/k=28\/k=31\/k=32\/k=33\/k=34:=by simpa[j47] using h
theorem jff {k:Int} (h:j47 k=false):¬(k=4\/k=5\/k=6\/k=7\/k=12\/k=13\/k=14\/k=15\/k=19\/k=20\/k=23\/k=24\/k=28\/k=31\/k=32\/k=33\/k=34):=by
 intro g
 have:j47 k=true:=by unfold j47;exact decide_eq_true g
 rw[h] at this
 cases this
theorem j3l (k:Int) (t:ByteArray) (q:Int) (s:Option Addr) (kn c:Nat) (w:World) :
  Calls Tryz.prog 61 #[.agg #[.int .i64 k,.string t,.int .i64 q,.slice s kn c]] w λe w'=>e=.returned (.bool (nfB k q))/\Below w.heap.size w w':=by
 have k0:=Blk.new w #[.int .i64 k,.string t,.int .i64 q,.slice s kn c] 73
 have L0:=j00 (Below.refl _ w) (.cells #[.int .i64 k,.string t,.int .i64 q,.slice s kn c] 73)
 by_cases hs:k=1\/k=3\/k=8\/k=9\/k=32\/k=33
 ·
  rcases hs with rfl|rfl|rfl|rfl|rfl|rfl
  ·
   have HE:Hid (nfB 1 q=(decide (0<=q)&&decide (q<=999999999999999))):=rfl
   obtain⟨x0,x1,x2,x3,x4⟩:=k0.four'
   by_cases h1:0<=q
   ·
    go_enter Tryz.func61,Tryz.ntmps61
    go_wp2_with fail;go_ret;exact⟨j03 (by rw[HE.out];simp[h1]),L0⟩
   go_enter Tryz.func61,Tryz.ntmps61
   go_wp2_with fail;go_ret;exact⟨j03 (by rw[HE.out];symm;rw[Bool.and_eq_false_iff];left;exact decide_eq_false (by omega)),L0⟩
  ·
   have HE:Hid (nfB 3 q=(decide (0<=q)&&decide (q<=1))):=rfl
   obtain⟨x0,x1,x2,x3,x4⟩:=k0.four'
   by_cases h1:0<=q
   ·
    go_enter Tryz.func61,Tryz.ntmps61
    go_wp2_with fail;go_ret;exact⟨j03 (by rw[HE.out];simp[h1]),L0⟩
   go_enter Tryz.func61,Tryz.ntmps61
   go_wp2_with fail;go_ret;exact⟨j03 (by rw[HE.out];symm;rw[Bool.and_eq_false_iff];left;exact decide_eq_false (by omega)),L0⟩
  ·
   have HE:Hid (nfB 8 q=(decide (1<=q)&&decide (q<=9))):=rfl
   obtain⟨x0,x1,x2,x3,x4⟩:=k0.four'
   by_cases h1:1<=q
   ·
    go_enter Tryz.func61,Tryz.ntmps61
    go_wp2_with fail;go_ret;exact⟨j03 (by rw[HE.out];simp[h1]),L0⟩
   go_enter Tryz.func61,Tryz.ntmps61
   go_wp2_with fail;go_ret;exact⟨j03 (by rw[HE.out];symm;rw[Bool.and_eq_false_iff];left;exact decide_eq_false (by omega)),L0⟩
  ·
   have HE:Hid (nfB 9 q=(decide (1<=q)&&decide (q<=6))):=rfl
   obtain⟨x0,x1,x2,x3,x4⟩:=k0.four'
   by_cases h1:1<=q
   ·
    go_enter Tryz.func61,Tryz.ntmps61
    go_wp2_with fail;go_ret;exact⟨j03 (by rw[HE.out];simp[h1]),L0⟩
   go_enter Tryz.func61,Tryz.ntmps61
   go_wp2_with fail;go_ret;exact⟨j03 (by rw[HE.out];symm;rw[Bool.and_eq_false_iff];left;exact decide_eq_false (by omega)),L0⟩
  ·
   have HE:Hid (nfB 32 q=(decide (1<=q)&&decide (q<=4))):=rfl
   obtain⟨x0,x1,x2,x3,x4⟩:=k0.four'
   by_cases h1:1<=q
   ·
    go_enter Tryz.func61,Tryz.ntmps61
    go_wp2_with fail;go_ret;exact⟨j03 (by rw[HE.out];simp[h1]),L0⟩
   go_enter Tryz.func61,Tryz.ntmps61
   go_wp2_with fail;go_ret;exact⟨j03 (by rw[HE.out];symm;rw[Bool.and_eq_false_iff];left;exact decide_eq_false (by omega)),L0⟩
  have HE:Hid (nfB 33 q=(decide (1<=q)&&decide (q<=4))):=rfl
  obtain⟨x0,x1,x2,x3,x4⟩:=k0.four'
  by_cases h1:1<=q
  ·
   go_enter Tryz.func61,Tryz.ntmps61
   go_wp2_with fail;go_ret;exact⟨j03 (by rw[HE.out];simp[h1]),L0⟩
  go_enter Tryz.func61,Tryz.ntmps61
  go_wp2_with fail;go_ret;exact⟨j03 (by rw[HE.out];symm;rw[Bool.and_eq_false_iff];left;exact decide_eq_false (by omega)),L0⟩
 have e1:(k ==1)=false:=by simp;omega
 have e3:(k ==3)=false:=by simp;omega
 have e8:(k ==8)=false:=by simp;omega
 have e9:(k ==9)=false:=by simp;omega
 have e32:(k ==32)=false:=by simp;omega
 have e33:(k ==33)=false:=by simp;omega
 have HE:Hid (nfB k q=(decide (0<=q)&&decide (q<=0))):=by
  show _=_
  unfold nfB loK hiK
  rw[if_neg (by omega),if_neg (by omega),if_neg (by omega),if_neg (by omega),if_neg (by omega),if_neg (by omega)]
 obtain⟨x0,x1,x2,x3,x4⟩:=k0.four'
 clear hs k0;by_cases h1:0<=q
 ·
  go_enter Tryz.func61,Tryz.ntmps61
  go_wp2_with fail;go_ret;exact⟨j03 (by rw[HE.out];simp[h1]),L0⟩
 go_enter Tryz.func61,Tryz.ntmps61
 go_wp2_with fail;go_ret;exact⟨j03 (by rw[HE.out];symm;rw[Bool.and_eq_false_iff];left;exact decide_eq_false (by omega)),L0⟩
theorem j3j (k:Int) (t:ByteArray) (ht:t.size<=1048576) (q:Int) (s:Option Addr) (kn c mb:Nat) (w:World) (hm:w.ownsMap Tryz.prog 9 (unitElem (H:=Unit)) mb 32 (j2u words (.map []))) :
  Calls Tryz.prog 60 #[.agg #[.int .i64 k,.string t,.int .i64 q,.slice s kn c],.map (some mb)] w λe w'=>e=.returned (.bool (tfB k t))/\Below w.heap.size w w':=by
 have hal:=alloc_old
 have haf:=j04
 have k0:=Blk.new w #[.int .i64 k,.string t,.int .i64 q,.slice s kn c] 73
 have L0:=j00 (Below.refl _ w) (.cells #[.int .i64 k,.string t,.int .i64 q,.slice s kn c] 73)
 by_cases h2:k=2
 ·
  subst h2
  obtain⟨x0,x1,x2,x3,x4⟩:=k0.four'
  have HE:Hid (tfB 2 t=j8d t):=rfl
  clear hm;go_enter Tryz.func60,Tryz.ntmps60
  go_wp2_with fail;refine(j7l t ht _).mono ?_
  rintro e w1 ⟨hr,hb1⟩
  obtain⟨r,rfl⟩:=hr.flag
  go_wp2_with fail;go_ret;exact⟨j03 (by rw[HE.out]),j01 L0 hb1⟩
 cases hn:j47 k
 ·
  have hp:=jff hn
  have HE:Hid (tfB k t=decide (t=⟨#[]⟩)):=by show _=_;unfold tfB;rw[if_neg h2,hn];rfl
  have g2:(k ==2)=false:=by simp[h2]
  have g4:(k ==4)=false:=by simp;omega
  have g5:(k ==5)=false:=by simp;omega
  have g6:(k ==6)=false:=by simp;omega
  have g7:(k ==7)=false:=by simp;omega
  have g12:(k ==12)=false:=by simp;omega
  have g13:(k ==13)=false:=by simp;omega
  have g14:(k ==14)=false:=by simp;omega
  have g15:(k ==15)=false:=by simp;omega
  have g19:(k ==19)=false:=by simp;omega
  have g20:(k ==20)=false:=by simp;omega
  have g23:(k ==23)=false:=by simp;omega
  have g24:(k ==24)=false:=by simp;omega
  have g28:(k ==28)=false:=by simp;omega
  have g31:(k ==31)=false:=by simp;omega
  have g32:(k ==32)=false:=by simp;omega
  have g33:(k ==33)=false:=by simp;omega
  have g34:(k ==34)=false:=by simp;omega
  obtain⟨x0,x1,x2,x3,x4⟩:=k0.four'
  clear hm hp hn h2 k0;by_cases he:t=⟨#[]⟩
  ·
   subst he
   go_enter Tryz.func60,Tryz.ntmps60
   go_wp2_with fail;go_ret;exact⟨j03 (by rw[HE.out];simp),L0⟩
  have q9:=j0c he
  have HN:Hid (¬t=⟨#[]⟩):=he
  clear he;go_enter Tryz.func60,Tryz.ntmps60
  go_wp2_with fail;go_ret;exact⟨j03 (by rw[HE.out];simp[HN.out];have h9:=j0c HN.out;simpa using h9),L0⟩
 have HE:Hid (tfB k t=(j1s t&&!isW t)):=by show _=_;unfold tfB;rw[if_neg h2,hn];rfl
 have hlk:=j9u (hm.alloc (.cells #[.int .i64 k,.string t,.int .i64 q,.slice s kn c] 73)) t (by unfold maxLen;omega)
 have HS:=jaw hn
 clear hn h2 hm;cases hw:isW t<;>rw[hw] at hlk
 all_goals
  rcases HS with rfl|rfl|rfl|rfl|rfl|rfl|rfl|rfl|rfl|rfl|rfl|rfl|rfl|rfl|rfl|rfl|rfl
 all_goals
  obtain⟨x0,x1,x2,x3,x4⟩:=k0.four'
  go_enter Tryz.func60,Tryz.ntmps60
  go_wp2_with fail;refine(j32 t _).mono ?_
  rintro e w1 ⟨rfl,hb1,_⟩
  cases hl:j1s t <;>
  ·
   go_wp2_with fail;go_ret;exact⟨j03 (by rw[HE.out,hl,hw];rfl),j01 (j00 L0 _) hb1⟩
end
section
open Go.RowKit
def sl {α:Type} (f:α->α->Bool) (L M:List α):Bool:=decide (L.length=M.length)&&(L.zip M).all (λp=>f p.1 p.2)
theorem jm2 {α:Type} {f:α->α->Bool} {L M:List α} (h:¬L.length=M.length):false=sl f L M:=by simp[sl,h]
theorem jml {α:Type} {f:α->α->Bool} {L M:List α} {j:Nat} {a b:α} (ha:L[j]?=some a) (hb:M[j]?=some b) (h:f a b=false):false=sl f L M:=by
 have hz:(L.zip M)[j]?=some (a,b):=by rw[List.getElem?_zip_eq_some];exact⟨ha,hb⟩
 have hm:=List.mem_of_getElem? hz
 cases hs:sl f L M
 ·
  rfl
 simp only[sl,Bool.and_eq_true,List.all_eq_true] at hs
 have:=hs.2 _ hm
 simp only at this
 rw[h] at this
 cases this
theorem jm0 {α:Type} {f:α->α->Bool} {L M:List α} (hn:L.length=M.length) (h:∀(j:Nat) a b,j<L.length->L[j]?=some a->M[j]?=some b->f a b=true):true=sl f L M:=by
 symm
 simp only[sl,Bool.and_eq_true,List.all_eq_true,decide_eq_true_eq]
 refine⟨hn,λp hp=>?_⟩
 obtain⟨j,hj⟩:=List.mem_iff_getElem?.1 hp
 obtain⟨a,b⟩:=p
 rw[List.getElem?_zip_eq_some] at hj
 exact h j a b (List.getElem?_eq_some_iff.1 hj.1).1 hj.1 hj.2
def eqI (a b:Int):Bool:=a ==b
theorem j4k (s t:Option Addr) (c d:Nat) (L M:List Int) (B C:Nat) (w:World) (hs:Els 1 cInt w B s L) (ht:Els 1 cInt w C t M) (hl:L.length<=1048576) (hl2:M.length<=1048576) :
  Calls Tryz.prog 59 #[.slice s L.length c,.slice t M.length d] w λe w'=>e=.returned (.bool (sl eqI L M))/\Below w.heap.size w w':=by
 have hal:=alloc_old
 have haf:=j04
 by_cases hn:L.length=M.length
 ·
  have t0:((L.length:Int) != (M.length:Int))=false:=by simp[hn]
  have HN:Hid (L.length=M.length):=hn
  clear hn;go_enter Tryz.func59,Tryz.ntmps59
  go_wp2_with fail;clear t0;go_loopw [13] (λi wr=>∃k:Nat,k<=L.length/\i=.int .i64 k/\Hid (∀(j:Nat) a b,j<k->L[j]?=some a->M[j]?=some b->eqI a b=true)/\Below w.heap.size w wr) (λi _=>L.length-(intOf i).toNat)
  case atStart=>exact⟨0,Nat.zero_le _,rfl,λj a b hj=>by omega,Below.refl _ _⟩
  obtain⟨k,hk,rfl,hall,hb⟩:=hrel
  by_cases hlt:k<L.length
  ·
   have hltM:k<M.length:=by have:=HN.out;omega
   obtain⟨a,ha⟩:=j0p hlt
   obtain⟨b,hb0⟩:=j0p hltM
   obtain⟨b1,o1,rfl,_,hpb1,eb1⟩:=j05 (hs.later j07 hb) ha
   obtain⟨b2,o2,rfl,_,hpb2,eb2⟩:=j05 (ht.later j07 hb) hb0
   have HA:Hid (L[k]?=some a):=ha
   have HB:Hid (M[k]?=some b):=hb0
   clear hs ht ha hb0;cases hf:eqI a b
   ·
    have E0:Hid (false=sl eqI L M):=jml HA.out HB.out hf
    have g:(a != b)=true:=by simp[eqI] at hf;simp[hf]
    clear hf;go_wp2_with fail;go_region
    all_goals
     go_wp2_with fail;go_ret;refine⟨j03 E0.out,?_⟩
     exact blq
   have hst:Hid (∀(j:Nat) a b,j<k+1->L[j]?=some a->M[j]?=some b->eqI a b=true):=by
    intro j a' b' hj ha' hb'
    by_cases e:j=k
    ·
     subst e
     rw[HA.out] at ha'
     rw[HB.out] at hb'
     cases ha'
     cases hb'
     exact hf
    exact hall.out j a' b' (by omega) ha' hb'
   have g:a=b:=by simpa[eqI] using hf
   subst g
   clear hf;go_wp2_with fail;go_region
   all_goals
    go_wp2_with fail;go_roundw
    case rel =>
     refine⟨k+1,by omega,by go_num,hst,?_⟩
     exact blq
    case measure=>simp[intOf];omega
  have E0:Hid (true=sl eqI L M):=jm0 HN.out (λj a b hj ha hb=>hall.out j a b (by omega) ha hb)
  go_wp2_with fail;go_ret;exact⟨j03 E0.out,hb⟩
 have t0:((L.length:Int) != (M.length:Int))=true:=by simp;omega
 go_enter Tryz.func59,Tryz.ntmps59
 go_wp2_with fail;go_ret;exact⟨j03 (jm2 hn),Below.refl _ _⟩
end
section
open Go.RowKit
theorem jb7 {L M:List Int}:sl eqI L M=decide (L=M):=by
 unfold sl
 by_cases h:L=M
 ·
  subst h
  have:∀l:List Int,(l.zip l).all (λp=>eqI p.1 p.2)=true:=by
   intro l
   induction l with
   | nil=>rfl
   | cons a l ih=>simp[eqI] at ih ⊢;exact ih
  simp[this]
 rw[decide_eq_false h]
 by_cases hl:L.length=M.length
 ·
  rw[decide_eq_true hl,Bool.true_and]
  cases hz:(L.zip M).all (λp=>eqI p.1 p.2) with
  | false=>rfl
  | true =>
   exfalso
   apply h
   refine List.ext_getElem hl λi h1 h2=>?_
   rw[List.all_eq_true] at hz
   have:=hz (L[i],M[i]) (by rw[List.mem_iff_getElem];exact⟨i,by simp;omega,by simp⟩)
   simpa[eqI] using this
 rw[decide_eq_false hl];rfl
theorem OI.take {w:World} {B:Nat} {s:Option Addr} {c:Nat} {A:List Int} (h:OI w B (.slice s A.length c) A) (r:Nat) (hr:r<=A.length):OI w B (.slice s (A.take r).length c) (A.take r):=by
 have hl:(A.take r).length=r:=by simp;omega
 rcases h.2 with ⟨h1,h2⟩|⟨g,cap,cur,h1,hb,hg,hc,hm,hsz,ht⟩
 ·
  have h3:r=0:=by omega
  subst h3
  simp only[Value.slice.injEq] at h1
  obtain⟨rfl,_,rfl⟩:=h1
  exact OI.nil _ _
 simp only[Value.slice.injEq] at h1
 obtain⟨rfl,_,rfl⟩:=h1
 refine⟨by simp,Or.inr ⟨g,c,cur,rfl,hb,hg,by omega,hm,hsz,?_⟩⟩
 rw[hl,List.map_take,<-ht,List.take_take]
 congr 1
 omega
theorem Tryz.htI:Tryz.prog.underlying 26=some (.slice (Tryz.prog.elem 26)):=by kernel_rfl
theorem jcj {w:World} {B:Nat} {s:Option Addr} {c:Nat} {A:List Int} (h:OI w B (.slice s A.length c) A) (r:Nat) (hr:r<=A.length) :
  ∃s8 c8,(∀W,(Instr.slice 26 (.slice s A.length c) (some (.int .i64 (r:Int))) none none).run Tryz.prog W=.ok (.slice s8 (A.drop r).length c8) W)/\Els 1 cInt w B s8 (A.drop r):=by
 have hrun:∀W,(Instr.slice 26 (.slice s A.length c) (some (.int .i64 (r:Int))) none none).run Tryz.prog W=.ok (sliced s r A.length c 1) W:=by
  intro W
  rw[run_slice_l (P:=Tryz.prog) W 26 s A.length c Tryz.htI .i64 (r:Int) (by omega) (by omega)]
  have e1:(Go.sizeOf (Tryz.prog.elem 26)).run Tryz.prog W=.ok 1 W:=by kernel_rfl
  rw[e1]
  simp[Result.andThen]
 refine⟨if c=r then s else s.map (·.add (r*1)),c-r,λW=>(hrun W).trans ?_,?_⟩
 ·
  unfold sliced
  rw[List.length_drop]
 rcases h.els with h0|⟨b,o,rfl,h1,h2,h3,hz⟩
 ·
  exact Or.inl (by simp[h0])
 by_cases e:c=r
 ·
  have:=h.cap
  exact Or.inl (List.drop_eq_nil_of_le (by omega))
 rw[if_neg e]
 refine Or.inr ⟨b,o+r,by simp[Addr.add,Nat.add_comm],h1,h2,λj a ha=>?_,hz⟩
 rw[List.getElem?_drop] at ha
 obtain⟨cs,e1,e2,e3⟩:=h3 (r+j) a ha
 refine⟨cs,e1,λi u hu=>?_,e3⟩
 have:=e2 i u hu
 rw[show o+r+j*1+i=o+(r+j)*1+i by omega]
 exact this
theorem jcw {w:World} {B:Nat} {s:Option Addr} {c:Nat} {A:List Int} (h:OI w B (.slice s A.length c) A) (r:Nat) (hr:r<=A.length) :
  ∀W,(Instr.slice 26 (.slice s A.length c) none (some (.int .i64 (r:Int))) none).run Tryz.prog W=.ok (.slice s r c) W:=by
 intro W
 have hc:=h.cap
 rw[run_slice_h (P:=Tryz.prog) W 26 s A.length c Tryz.htI .i64 (r:Int) (by omega) (by omega)]
 have e1:(Go.sizeOf (Tryz.prog.elem 26)).run Tryz.prog W=.ok 1 W:=by kernel_rfl
 rw[e1]
 unfold sliced
 cases s<;>simp[Result.andThen,Addr.add]
theorem jdy {t:Tre} (h:treP t):Run (j0e t) (okN t) 0 t.nodes.length [] t.tops:=jek.2 h.2.1
theorem j54 {t:Tre} {k:Nat} {A:List Int} {nd:Nd} (hR:Run (j0e t) (okN t) 0 k [] A) (hnd:t.nodes[k]?=some nd) (h:treP t):okN t k/\∃A0,A=A0++nd.kids:=by
 have hk:k<t.nodes.length:=(List.getElem?_eq_some_iff.1 hnd).1
 obtain⟨l1,g1,g2⟩:=Run.split (Nat.zero_le k) (jdy h) (by omega)
 obtain rfl:=hR.same g1
 cases g2 with
 | nil=>omega
 | cons _ _ _ l2 _ h1 _ =>
  obtain⟨h2,A0,h3,_⟩:=h1
  rw[j0w hnd] at h3
  exact⟨h2,A0,h3⟩
theorem jgf {t:Tre} {k:Nat} {A0:List Int} {nd:Nd} (hR:Run (j0e t) (okN t) 0 k [] (A0++nd.kids)) (hnd:t.nodes[k]?=some nd) (hok:okN t k):Run (j0e t) (okN t) 0 (k+1) [] (A0++[(k:Int)]) :=
 hR.trans (Run.one ⟨hok,A0,by rw[j0w hnd],rfl⟩)
theorem ja2 {t:Tre} {k:Nat} {A:List Int} (hR:Run (j0e t) (okN t) 0 k [] A):∀x∈A,∃m:Nat,x=m/\m<k:=hR.mem (λx hx=>by cases hx)
theorem ja0 {t:Tre} {A:List Int} (hv:∀x∈A,∃m:Nat,x=m/\m<t.nodes.length):(∀(j:Nat) (x:Int),A[j]?=some x->∃(m:Nat) (nd:Nd),x=m/\t.nodes[m]?=some nd/\j1c 9 nd.kind) ↔∀b∈(A.map (kkAt t)).map rl,b=116:=by
 constructor
 ·
  intro h b hb
  simp only[List.mem_map] at hb
  obtain⟨y,⟨x,hx,rfl⟩,rfl⟩:=hb
  obtain⟨j,hj⟩:=List.mem_iff_getElem?.1 hx
  obtain⟨m,nd,rfl,e1,e2⟩:=h j x hj
  have:=(j8w nd.kind 9 (by omega) (by omega)).1 e2
  simp[kkAt,e1]
  exact this
 intro h j x hx
 obtain⟨m,rfl,hm⟩:=hv x (List.mem_of_getElem? hx)
 refine⟨m,t.nodes[m],rfl,by simp[hm],(j8w _ 9 (by omega) (by omega)).2 ?_⟩
 have:=h (rl (kkAt t m)) (List.mem_map.2 ⟨_,List.mem_map.2 ⟨_,List.mem_of_getElem? hx,rfl⟩,rfl⟩)
 simp[kkAt,hm] at this
 exact this
theorem jgj {k:Int} {ks:List Int} (h:kidB k ks=true):j38 k ks:=by
 by_cases g:j38 k ks
 ·
  exact g
 rw[j86 g] at h;cases h
theorem j7h (t:Tre) (s1 s2:Option Addr) (c1 c2 B:Nat) (w:World) (hT:InT w B s1 s2 t) (hkt:kTre t) :
  Calls Tryz.prog 39 #[.agg #[.slice s1 t.nodes.length c1,.slice s2 t.tops.length c2]] w λe w'=>e=.returned (.bool (treB t))/\Below w.heap.size w w':=by
 have hal:=alloc_old
 have haf:=j04
 have k0:=Blk.new w #[.slice s1 t.nodes.length c1,.slice s2 t.tops.length c2] 39
 have L0:=j00 (Below.refl _ w) (.cells #[.slice s1 t.nodes.length c1,.slice s2 t.tops.length c2] 39)
 obtain⟨x0,x1,x2⟩:=k0.two
 have hn:=hkt.1.1
 have ht:=hkt.2
 have HKN:Hid (∀n∈t.nodes,j4p n):=hkt.1.2
 have HT:Hid (InT w B s1 s2 t):=hT
 clear hkt hT;by_cases h4:t.nodes.length<=4000
 rotate_left
 ·
  have q1:decide ((4000:Int)<(t.nodes.length:Int))=true:=by simp;omega
  have HE:Hid (treB t=false):=j1h λh=>h4 h.1
  clear h4;go_enter Tryz.func39,Tryz.ntmps39
  go_wp2_with fail;go_ret;exact⟨j03 HE.out.symm,L0⟩
 have q1:decide ((4000:Int)<(t.nodes.length:Int))=false:=by simp;omega
 go_enter Tryz.func39,Tryz.ntmps39
 go_wp2_with fail;refine(j6v _).mono ?_
 rintro e W1 ⟨rfl,hown,hb1⟩
 have e1:(w.alloc (.cells #[.slice s1 t.nodes.length c1,.slice s2 t.tops.length c2] 39)).heap.size=w.heap.size+1:=by simp
 rw[e1] at hown ⊢
 have L1:Hid (Below w.heap.size w W1):=j01 L0 hb1
 have K1:Hid (Blk W1 w.heap.size #[.slice s1 t.nodes.length c1,.slice s2 t.tops.length c2] 39):=k0.later hb1
 have HM:Hid (W1.ownsMap Tryz.prog 9 (unitElem (H:=Unit)) (w.heap.size+1) 32 (j2u words (.map []))):=hown
 have sz1:w.heap.size+2<=W1.heap.size:=by have:=hown.lt;omega
 clear hown hb1 e1 L0 k0 x0 x1 x2;obtain⟨x0,x1,x2⟩:=K1.out.two
 go_wp2_with fail;go_loopw [4,16] (λv i wr=>∃(k:Nat) (A:List Int) (sa:Option Addr) (ca:Nat),k<=t.nodes.length/\i=.int .i64 k/\v=.slice sa A.length ca/\Hid (Run (j0e t) (okN t) 0 k [] A)/\Hid (OI wr W1.heap.size (.slice sa A.length ca) A)/\Hid (Below W1.heap.size W1 wr)) (λ_ i _=>t.nodes.length-(intOf i).toNat)
 case atStart=>exact⟨0,[],none,0,Nat.zero_le _,rfl,rfl,Run.nil _ _,OI.nil _ _,Below.refl _ _⟩
 clear x0 x1 x2;obtain⟨k,A,sa,ca,hk,rfl,rfl,hRun,hO,hb⟩:=hrel
 have lA:A.length<=4000:=by have:=hRun.out.len;simp at this;omega
 have hbW:Hid (Below w.heap.size w wr):=Below.trans L1.out (by have:=hb.out;exact⟨this.os,this.tape,this.output,this.size,λj hj=>this.block j (by omega)⟩)
 by_cases hlt:k<t.nodes.length
 ·
  obtain⟨nd,hnd⟩:=j0p hlt
  have hkd:=HKN.out nd (List.mem_of_getElem? hnd)
  obtain⟨hkt,hkl⟩:=hkd
  obtain⟨b,o,rfl,_,hp,s9,c9,e0,e1,e2,e3,hK⟩:=j14 HT.out.n hnd
  have z0:=(hbW.out.cell (p:=⟨b,o+k*4,none⟩) hp).trans e0
  have z1:=(hbW.out.cell (p:=⟨b,o+k*4+1,none⟩) hp).trans e1
  have z2:=(hbW.out.cell (p:=⟨b,o+k*4+2,none⟩) hp).trans e2
  have z3:=(hbW.out.cell (p:=⟨b,o+k*4+3,none⟩) hp).trans e3
  have HND:Hid (t.nodes[k]?=some nd):=hnd
  have hkI:(k:Int)<(t.nodes.length:Int):=by omega
  clear hnd e0 e1 e2 e3;have kN:=Blk.new wr #[.int .i64 nd.kind,.string nd.text,.int .i64 nd.num,.slice s9 nd.kids.length c9] 73
  have LX:=j00 (Below.refl _ wr) (.cells #[.int .i64 nd.kind,.string nd.text,.int .i64 nd.num,.slice s9 nd.kids.length c9] 73)
  go_upto_region 8 with fail
  generalize hX:wr.alloc (.cells #[.int .i64 nd.kind,.string nd.text,.int .i64 nd.num,.slice s9 nd.kids.length c9] 73)=X at kN LX ⊢
  clear hX z0 z1 z2 z3;have ltN:wr.heap.size<X.heap.size:=kN.lt
  obtain⟨n0,n1,n2,n3,n4⟩:=kN.four'
  have hOX:Hid (OI X W1.heap.size (.slice sa A.length ca) A):=hO.out.later LX
  have hbX:Hid (Below W1.heap.size W1 X):=j01 hb.out LX
  have HBX:Hid (Below w.heap.size w X):=j01 hbW.out LX
  have HKX:Hid (Els 1 cInt X B s9 nd.kids):=hK.later j07 HBX.out
  have szX:W1.heap.size<=X.heap.size:=hbX.out.size
  clear hK;by_cases hle:nd.kids.length<=A.length
  rotate_left
  ·
   have tw:IntKind.i64.wrap ((A.length:Int)-(nd.kids.length:Int))=(A.length:Int)-(nd.kids.length:Int):=by rw[IntKind.wrap_i64];omega
   have q2:decide ((A.length:Int)-(nd.kids.length:Int)<0)=true:=by simp;omega
   have HE:Hid (treB t=false):=j1h λh=>by
    obtain⟨_,A0,h6⟩:=j54 hRun.out HND.out h
    have:=congrArg List.length h6
    simp at this
    omega
   clear hle;go_upto_region 9 with fail
   refine wp_region_held_drew (S:=(λ_=>True)) (by kernel_rfl) ?_ (λhHeld=>?_)
   ·
    trivial
   refine wpr 0 27 ?_;simp only[zs];refine wpr 1 28 ?_;simp only[zs];refine wpr 2 29 ?_;simp only[zs];refine j6o (by kernel_rfl) (λ_ _ _ _ h=>h) [(3,30),(4,31),(5,32),(6,33),(7,34),(8,35),(9,36)] 1 _ _ _ (by assumption) (by kernel_rfl) ?_ _ rfl
   simp only[zs];refine wpr 10 37 ?_;simp only[zs];refine wpAnyH_done (by kernel_rfl) ?_ _
   go_wp2_with fail;go_ret;exact⟨j03 HE.out.symm,j02 HBX.out⟩
  obtain⟨A0,HA0⟩:∃A0,Hid (A.take (A.length-nd.kids.length)=A0):=⟨_,rfl⟩
  have lA0:A0.length+nd.kids.length=A.length:=by rw[<-HA0.out];simp;omega
  have hr0:A0.length<=A.length:=by omega
  have tw:IntKind.i64.wrap ((A.length:Int)-(nd.kids.length:Int))=(A0.length:Int):=by rw[IntKind.wrap_i64];omega
  have q2:decide ((A0.length:Int)<0)=false:=by simp
  obtain⟨s8,c8,hsl,hE8⟩:=jcj hOX.out A0.length hr0
  obtain⟨D,HD⟩:∃D,Hid (A.drop A0.length=D):=⟨_,rfl⟩
  have lD:D.length<=4000:=by rw[<-HD.out];simp;omega
  rw[HD.out] at hsl hE8
  have HE8:Hid (Els 1 cInt X W1.heap.size s8 D):=hE8
  have hsh:=jcw hOX.out A0.length hr0
  have HA:Hid (A.take A0.length=A0):=by
   show _=_
   have h7:=HA0.out
   rw[show A.length-nd.kids.length=A0.length by omega] at h7
   exact h7
  have hO0:Hid (OI X W1.heap.size (.slice sa A0.length ca) A0):=by
   have:=hOX.out.take A0.length hr0
   rw[HA.out] at this
   exact this
  have HLA:Hid (A0.length+nd.kids.length=A.length):=lA0
  have lA1:A0.length<=4000:=by omega
  have lK1:nd.kids.length<=4000:=by omega
  clear hE8 hle lA0;by_cases heq:D=nd.kids
  rotate_left
  ·
   have qe:decide (D=nd.kids)=false:=decide_eq_false heq
   have HE:Hid (treB t=false):=j1h λh=>by
    obtain⟨_,A9,h6⟩:=j54 hRun.out HND.out h
    have h7:=congrArg List.length h6
    simp at h7
    have lA0:=HLA.out
    apply heq
    rw[<-HD.out,h6,List.drop_left' (by omega)]
   clear heq hsh;go_upto_region 9 with fail
   refine wp_region_held_drew (S:=(λw'=>w'.cell? ⟨wr.heap.size,3,none⟩=some (.slice s9 nd.kids.length c9))) (by kernel_rfl) ?_ (λhHeld=>?_)
   ·
    exact n3
   refine wpr 0 27 ?_;simp only[zs];refine wpr 1 28 ?_;simp only[zs];refine wpr 2 29 ?_;simp only[zs];refine wpr 3 30 ?_;simp only[zs];refine wpr 4 31 ?_;simp only[zs];refine wpr 5 32 ?_;simp only[zs];refine wpr 6 33 ?_;simp only[zs];refine wpr 7 34 ?_;simp only[zs];refine wpy 8 λK hK=>?_
   go_simp;refine(j4k s8 s9 c8 c9 D nd.kids W1.heap.size B _ (HE8.out.later j07 (j02 (Below.refl _ _))) (HKX.out.later j07 (j02 (Below.refl _ _))) (by omega) hkl).mono ?_
   rintro e w2 ⟨rfl,hb2⟩
   rw[jb7,qe]
   have hb2:Below X.heap.size X w2:=j01 (j02 (Below.refl _ _)) hb2
   have n3:=(hb2.cell (p:=⟨wr.heap.size,3,none⟩) ltN).trans n3
   refine hK.out _ _ ?_ (λhHeld=>?_)
   ·
    exact n3
   clear hK K;try simp only[zs]
   refine wpr 9 36 ?_;simp only[zs];refine wpr 10 37 ?_;simp only[zs];refine wpAnyH_done (by kernel_rfl) ?_ _
   go_wp2_with fail;go_ret;exact⟨j03 HE.out.symm,j01 HBX.out hb2⟩
  have qe:decide (D=nd.kids)=true:=decide_eq_true heq
  have HAA:Hid (A=A0++nd.kids):=by
   show _=_
   have h7:=(List.take_append_drop A0.length A).symm
   rw[HA.out,HD.out,heq] at h7
   exact h7
  have HVK:Hid (∀x∈nd.kids,∃m:Nat,x=m/\m<t.nodes.length):=λx hx=>by
   obtain⟨m,e,hm⟩:=ja2 hRun.out x (by rw[HAA.out];simp[hx])
   exact⟨m,e,by omega⟩
  clear heq;go_upto_region 9 with fail
  refine wp_region_held_drew (S:=(λw'=>w'.cell? ⟨wr.heap.size,3,none⟩=some (.slice s9 nd.kids.length c9))) (by kernel_rfl) ?_ (λhHeld=>?_)
  ·
   exact n3
  refine wpr 0 27 ?_;simp only[zs];refine wpr 1 28 ?_;simp only[zs];refine wpr 2 29 ?_;simp only[zs];refine wpr 3 30 ?_;simp only[zs];refine wpr 4 31 ?_;simp only[zs];refine wpr 5 32 ?_;simp only[zs];refine wpr 6 33 ?_;simp only[zs];refine wpr 7 34 ?_;simp only[zs];refine wpy 8 λK hK=>?_
  go_simp;refine(j4k s8 s9 c8 c9 D nd.kids W1.heap.size B _ (HE8.out.later j07 (j02 (Below.refl _ _))) (HKX.out.later j07 (j02 (Below.refl _ _))) (by omega) hkl).mono ?_
  rintro e w2 ⟨rfl,hb2⟩
  rw[jb7,qe]
  have hb2:Below X.heap.size X w2:=j01 (j02 (Below.refl _ _)) hb2
  have n3:=(hb2.cell (p:=⟨wr.heap.size,3,none⟩) ltN).trans n3
  refine hK.out _ _ ?_ (λhHeld=>?_)
  ·
   exact n3
  clear hK K;try simp only[zs]
  refine wpr 9 36 ?_;simp only[zs];refine wpr 10 37 ?_;simp only[zs];refine wpAnyH_done (by kernel_rfl) ?_ _
  clear hsl HE8;replace kN:=kN.later hb2
  have HO2:Hid (OI w2 W1.heap.size (.slice sa A0.length ca) A0):=hO0.out.later hb2
  have HB2:Hid (Below W1.heap.size W1 w2):=j01 hbX.out hb2
  have HW2:Hid (Below w.heap.size w w2):=j01 HBX.out hb2
  have hM2:Hid (w2.ownsMap Tryz.prog 9 (unitElem (H:=Unit)) (w.heap.size+1) 32 (j2u words (.map []))):=HM.out.kept (j19 HB2.out) (by simp)
  have K2:Hid (Blk w2 w.heap.size #[.slice (some ⟨b,o,none⟩) t.nodes.length c1,.slice s2 t.tops.length c2] 39):=K1.out.later HB2.out
  have HK2:Hid (Els 1 cInt w2 B s9 nd.kids):=HKX.out.later j07 hb2
  have HN2:Hid (Els 4 j1d w2 B (some ⟨b,o,none⟩) t.nodes):=HT.out.n.later j08 HW2.out
  clear n0 n1 n2 n3 n4 hb2 hOX hbX HBX HKX hO hb;obtain⟨n0,n1,n2,n3,n4⟩:=kN.four'
  obtain⟨x0,x1,x2⟩:=K2.out.two
  cases qt:tfB nd.kind nd.text
  ·
   have HE:Hid (treB t=false):=j1h λh=>by have h5:=(j6f HND.out HVK.out).1 (j54 hRun.out HND.out h).1;rw[j55] at h5;rw[qt] at h5;simp at h5
   go_wp2_with (go_at_call 60;refine(j3j nd.kind nd.text hkt nd.num s9 nd.kids.length c9 (w.heap.size+1) _ hM2.out).mono ?_;rintro e w3 ⟨rfl,hb3⟩;rw[qt];obtain⟨n0,n1,n2,n3,n4⟩:=(kN.later hb3).four';obtain⟨x0,x1,x2⟩:=(K2.out.later hb3).two)
   go_ret;exact⟨j03 HE.out.symm,j01 HW2.out hb3⟩
  cases qn:nfB nd.kind nd.num
  ·
   have HE:Hid (treB t=false):=j1h λh=>by have h5:=(j6f HND.out HVK.out).1 (j54 hRun.out HND.out h).1;rw[j55] at h5;rw[qn] at h5;simp at h5
   go_wp2_with (first|(go_at_call 60;refine(j3j nd.kind nd.text hkt nd.num s9 nd.kids.length c9 (w.heap.size+1) _ hM2.out).mono ?_;rintro e w3 ⟨rfl,hb3⟩;rw[qt];obtain⟨n0,n1,n2,n3,n4⟩:=(kN.later hb3).four';obtain⟨x0,x1,x2⟩:=(K2.out.later hb3).two)|(go_at_call 61;refine(j3l nd.kind nd.text nd.num s9 nd.kids.length c9 _).mono ?_;rintro e w4 ⟨rfl,hb4⟩;rw[qn];obtain⟨n0,n1,n2,n3,n4⟩:=((kN.later hb3).later hb4).four';obtain⟨x0,x1,x2⟩:=((K2.out.later hb3).later hb4).two))
   go_ret;exact⟨j03 HE.out.symm,j01 (j01 HW2.out hb3) hb4⟩
  cases qk:kidB nd.kind (nd.kids.map (kkAt t))
  ·
   have HE:Hid (treB t=false):=j1h λh=>by have h5:=(j6f HND.out HVK.out).1 (j54 hRun.out HND.out h).1;rw[j55] at h5;have h6:=j97 h5.2;rw[qk] at h6;cases h6
   go_wp2_with (first|(go_at_call 60;refine(j3j nd.kind nd.text hkt nd.num s9 nd.kids.length c9 (w.heap.size+1) _ hM2.out).mono ?_;rintro e w3 ⟨rfl,hb3⟩;rw[qt];obtain⟨n0,n1,n2,n3,n4⟩:=(kN.later hb3).four';obtain⟨x0,x1,x2⟩:=(K2.out.later hb3).two)|(go_at_call 61;refine(j3l nd.kind nd.text nd.num s9 nd.kids.length c9 _).mono ?_;rintro e w4 ⟨rfl,hb4⟩;rw[qn];obtain⟨n0,n1,n2,n3,n4⟩:=((kN.later hb3).later hb4).four';obtain⟨x0,x1,x2⟩:=((K2.out.later hb3).later hb4).two)|(go_at_call 62;refine(j6p nd.kind t nd.text nd.num s9 (some ⟨b,o,none⟩) c9 c1 nd.kids B B _ ((HK2.out.later j07 hb3).later j07 hb4) ((HN2.out.later j08 hb3).later j08 hb4) HVK.out hkl hn).mono ?_;rintro e w5 ⟨rfl,hb5⟩;rw[qk]))
   go_ret;exact⟨j03 HE.out.symm,j01 (j01 (j01 HW2.out hb3) hb4) hb5⟩
  have HOK:Hid (okN t k):=(j6f HND.out HVK.out).2 ⟨by rw[j55,qt,qn];rfl,jgj qk⟩
  go_upto_region 13 with (first|(go_at_call 60;refine(j3j nd.kind nd.text hkt nd.num s9 nd.kids.length c9 (w.heap.size+1) _ hM2.out).mono ?_;rintro e w3 ⟨rfl,hb3⟩;rw[qt];obtain⟨n0,n1,n2,n3,n4⟩:=(kN.later hb3).four';obtain⟨x0,x1,x2⟩:=(K2.out.later hb3).two)|(go_at_call 61;refine(j3l nd.kind nd.text nd.num s9 nd.kids.length c9 _).mono ?_;rintro e w4 ⟨rfl,hb4⟩;rw[qn];obtain⟨n0,n1,n2,n3,n4⟩:=((kN.later hb3).later hb4).four';obtain⟨x0,x1,x2⟩:=((K2.out.later hb3).later hb4).two)|(go_at_call 62;refine(j6p nd.kind t nd.text nd.num s9 (some ⟨b,o,none⟩) c9 c1 nd.kids B B _ ((HK2.out.later j07 hb3).later j07 hb4) ((HN2.out.later j08 hb3).later j08 hb4) HVK.out hkl hn).mono ?_;rintro e w5 ⟨rfl,hb5⟩;rw[qk]))
  have hb25:Below w2.heap.size w2 w5:=j01 (j01 hb3 hb4) hb5
  obtain⟨R2,hR2⟩:∃R2,Hid (A0++[(k:Int)]=R2):=⟨_,(rfl:A0++[(k:Int)]=_)⟩
  have hb6:Below W1.heap.size W1 (w5.alloc (.cells #[.int .i64 (k:Int)] 3)):=j00 (j01 HB2.out hb25) _
  have hO6:Hid (OI (w5.alloc (.cells #[.int .i64 (k:Int)] 3)) W1.heap.size (.slice sa A0.length ca) A0):=(HO2.out.later hb25).later (j00 (Below.refl _ _) _)
  have E6:Hid (Els 1 cInt (w5.alloc (.cells #[.int .i64 (k:Int)] 3)) w5.heap.size (some ⟨w5.heap.size,0,none⟩) [(k:Int)]):=Els.one (Blk.new w5 #[.int .i64 (k:Int)] 3)
  clear n0 n1 n2 n3 n4 x0 x1 x2 hb3 hb4 hb5 hb25 kN HK2 HN2 hM2;go_wp2_with (at_builtin;refine j0d rfl _ _ rfl W1.heap.size sa ca A0 rfl hO6.out w5.heap.size _ 1 [(k:Int)] rfl E6.out R2 hR2.out (by simp;omega) hb6.size ?_;intro s' c' w7 hO7 hg7 hn7)
  have hO7:Hid (OI w7 W1.heap.size (.slice s' R2.length c') R2):=hO7
  have hb7:Hid (Below W1.heap.size W1 w7):=j31 hb6 hb6.size hO6.out hg7
  clear hg7 hn7 hO6 E6 hb6;go_wp2_with fail;go_roundw
  case rel =>
   refine⟨k+1,R2,s',c',by omega,by go_num,rfl,?_,hO7,hb7⟩
   have h8:=hRun.out
   rw[HAA.out] at h8
   have h9:=jgf h8 HND.out HOK.out
   rw[hR2.out] at h9
   exact h9
  case measure=>simp[intOf];omega
 have hkn:k=t.nodes.length:=by omega
 have hR9:=hRun.out
 rw[hkn] at hR9
 have HR9:Hid (Run (j0e t) (okN t) 0 t.nodes.length [] A):=hR9
 have HV:Hid (∀x∈A,∃m:Nat,x=m/\m<t.nodes.length):=ja2 hR9
 have H4:Hid (t.nodes.length<=4000):=h4
 have KZ:Hid (Blk wr w.heap.size #[.slice s1 t.nodes.length c1,.slice s2 t.tops.length c2] 39):=K1.out.later hb.out
 have hkI:¬(k:Int)<(t.nodes.length:Int):=by omega
 clear hR9 hkn;obtain⟨x0,x1,x2⟩:=KZ.out.two
 by_cases heq:A=t.tops
 rotate_left
 ·
  have qe:decide (A=t.tops)=false:=decide_eq_false heq
  have HE:Hid (treB t=false):=j1h λh=>heq (HR9.out.same (jdy h))
  clear heq;go_wp2_with (go_at_call 59;refine(j4k sa s2 ca c2 A t.tops W1.heap.size B _ hO.out.els (HT.out.t.later j07 hbW.out) (by omega) ht).mono ?_;rintro e w2 ⟨rfl,hb2⟩;rw[jb7,qe])
  go_ret;exact⟨j03 HE.out.symm,j01 hbW.out hb2⟩
 have qe:decide (A=t.tops)=true:=decide_eq_true heq
 obtain⟨R,HRR⟩:∃R,Hid ((A.map (kkAt t)).map rl=R):=⟨_,rfl⟩
 have lR:R.length<=1048576:=by rw[<-HRR.out];simp;omega
 have HE:Hid (treB t=decide (∀b∈R,b=116)):=by
  show _=_
  by_cases hall:∀b∈R,b=116
  ·
   rw[decide_eq_true hall]
   refine j94 ⟨H4.out,?_,?_⟩
   ·
    rw[<-heq];exact jek.1 HR9.out
   rw[<-heq]
   exact(ja0 HV.out).2 (by rw[HRR.out];exact hall)
  rw[decide_eq_false hall]
  refine j1h λh=>hall ?_
  have h6:=h.2.2
  rw[<-heq] at h6
  have h7:=(ja0 HV.out).1 h6
  rw[HRR.out] at h7
  exact h7
 have HL:Hid (t.tops.length=A.length):=by show _=_;rw[heq]
 clear heq;go_wp2_with (first|(go_at_call 59;refine(j4k sa s2 ca c2 A t.tops W1.heap.size B _ hO.out.els (HT.out.t.later j07 hbW.out) (by omega) ht).mono ?_;rintro e w2 ⟨rfl,hb2⟩;rw[jb7,qe];obtain⟨x0,x1,x2⟩:=(KZ.out.later hb2).two)|(go_at_call 64;refine(j0a t sa s1 ca c1 A W1.heap.size B _ (hO.out.els.later j07 hb2) ((HT.out.n.later j08 hbW.out).later j08 hb2) HV.out (by omega) hn).mono ?_;rintro e w3 ⟨rfl,hb3⟩;rw[HRR.out])|(go_at_call 63;refine(j42 R 116 (by decide) lR _).mono ?_;rintro e w4 ⟨rfl,hb4⟩))
 go_ret;exact⟨j03 HE.out.symm,j01 (j01 (j01 hbW.out hb2) hb3) hb4⟩
end
section
open Go.RowKit Go.Maps Go.WideMaps
noncomputable def j9d (A B C:List (ByteArray×Int)) (T:Tre):Ck KM:=if okR A B C=true then (if treB T=true then chkA A B C T else .error (1,-1)) else .error (1,-1)
theorem jda (A B C:List (ByteArray×Int)) (T:Tre):chkR A B C T=match j9d A B C T with | .error q=>q | .ok _=>(0,-1):=by
 unfold chkR j9d
 split
 ·
  split
  ·
   rfl
  rfl
 rfl
structure NewC (w w':World) (bd:Nat) (n1:Option Addr) (N d1 c kb bt:Nat):Prop where
 bx:Blk w' c #[.map (some bd),.slice n1 N d1,.slice (some ⟨kb,0,none⟩) N N,.map (some bt)] 93
 kbB:Blk w' kb (madeCells #[.int .i64 0] N) 3
 btQ:QM w' bt 0 (λ_=>none)
 o1:w.heap.size<=c
 o2:w.heap.size<=kb
 o3:w.heap.size<=bt
 n1:¬kb=c
 n2:¬bt=c
 n3:¬bt=kb
 bl:Below w.heap.size w w'
theorem jge (v:Value) (n j:Nat) (h:j<n):(madeCells #[v] n)[j]?=some v:=by
 rw[<-Array.getElem?_toList,toList_madeCells_one];simp[h]
theorem AhOk.nil {T:Tre}:AhOk T []:=⟨by simp,by simp⟩
theorem AhOk.snoc {T:Tre} {ah:List Int} (h:AhOk T ah) {t:Nat} {n:Nd} (hv:VN T t n) (h0:0<n.kids.length) (hn:(ah.any λa=>decide ((nd T a).text=(nd T (t:Int)).text))=false):AhOk T (ah++[(t:Int)]):=by
 rw[List.any_eq_false] at hn
 have hne:∀a∈ah,¬(nd T a).text=(nd T (t:Int)).text:=λa ha=>by simpa using hn a ha
 refine⟨λa ha b hb e=>?_,λa ha=>?_⟩
 ·
  simp only[List.mem_append,List.mem_singleton] at ha hb
  rcases ha with ha|rfl<;>rcases hb with hb|rfl
  ·
   exact h.uq a ha b hb e
  ·
   exact absurd e (hne a ha)
  ·
   exact absurd e.symm (hne b hb)
  rfl
 simp only[List.mem_append,List.mem_singleton] at ha
 rcases ha with ha|rfl
 ·
  exact h.top a ha
 exact⟨t,n,rfl,hv,h0⟩
theorem jd5 {D:Int->ByteArray->Int} {T:Tre} {N:Nat} {ah:List Int} {K K1:KM} {t:Int} (h:j20 D T N ah K t=.ok K1):(ah.any λa=>decide ((nd T a).text=(nd T t).text))=false:=by
 unfold j20 at h
 simp only at h
 split at h
 ·
  cases h
 rename_i hn;simpa using hn
section
variable {w w':World}
def j8h (T:Tre) (w:World) (r:Ck KM) (e:Ending) (w':World):Prop:=Below w.heap.size w w'/\match r with
 | .error (c,n)=>e=.returned (.tuple #[.slice none 0 0,errV c n])
 | .ok K1=>∃(kb:Nat) (Kp:KM),e=.returned (.tuple #[.slice (some ⟨kb,0,none⟩) T.nodes.length T.nodes.length,.nilIface])/\(∀j,j<T.nodes.length->w'.cell? ⟨kb,j,none⟩=some (.int .i64 (Kp j)))/\KR T Kp K1
theorem j8h.bad {T:Tre} {c n:Int} {r:Ck KM} (hr:r=.error (c,n)) (hb:Below w.heap.size w w'):j8h T w r (.returned (.tuple #[.slice none 0 0,errV c n])) w':=by subst hr;exact⟨hb,rfl⟩
theorem j8h.good {T:Tre} {K1 Kp:KM} {kb:Nat} {r:Ck KM} (hr:r=.ok K1) (hb:Below w.heap.size w w') (h1:∀j,j<T.nodes.length->w'.cell? ⟨kb,j,none⟩=some (.int .i64 (Kp j))) (h2:KR T Kp K1):j8h T w r (.returned (.tuple #[.slice (some ⟨kb,0,none⟩) T.nodes.length T.nodes.length,.nilIface])) w':=by subst hr;exact⟨hb,kb,Kp,rfl,h1,h2⟩
structure LdO (G:Pd) (w:World) (all:Ck KM) (ts ah:List Int) (K Kp:KM):Prop where
 ck:all=j3a (Dp G) G.T G.T.nodes.length ts ah K
 p:Pv G w ah Kp
 kr:KR G.T Kp K
 ah:AhOk G.T ah
theorem jlr {k:Int} (h:j1c 9 k):k=33\/k=34:=by
 unfold j1c at h
 simp only[show¬(9:Int)=10 by omega,if_false] at h
 have h:=h.1
 unfold cls at h
 repeat (split at h<;>try omega)
theorem jb5 (s1 s2 s3 n1 n2:Option Addr) (c1 c2 c3 d1 d2 B0:Nat) (A B C:List (ByteArray×Int)) (T:Tre) (w:World) (hA:j0y w s1 A) (hB:j0y w s2 B) (hC:j0y w s3 C) (nm:∀i,i<(A++B++C).length->(dAt (A++B++C) i).1.size<=maxLen) (l1:A.length<=1048576) (l2:B.length<=1048576) (l3:C.length<=1048576) (hT:InT w B0 n1 n2 T) (hcap:Els 4 j46 w B0 n1 T.nodes) (hk:kTre T) :
  Calls Tryz.prog 24 #[.agg #[.slice s1 A.length c1,.slice s2 B.length c2,.slice s3 C.length c3],.agg #[.slice n1 T.nodes.length d1,.slice n2 T.tops.length d2]] w λe w'=>j8h T w (j9d A B C T) e w':=by
 have b1:Below w.heap.size w ((w.alloc (.cells #[.slice s1 A.length c1,.slice s2 B.length c2,.slice s3 C.length c3] 35)).alloc (.cells #[.slice n1 T.nodes.length d1,.slice n2 T.tops.length d2] 39)):=j00 (j00 (Below.refl _ _) _) _
 have kr:=Blk.alloc (Blk.new w #[.slice s1 A.length c1,.slice s2 B.length c2,.slice s3 C.length c3] 35) (.cells #[.slice n1 T.nodes.length d1,.slice n2 T.tops.length d2] 39)
 have kt:=Blk.new' (n:=w.heap.size+1) (w.alloc (.cells #[.slice s1 A.length c1,.slice s2 B.length c2,.slice s3 C.length c3] 35)) #[.slice n1 T.nodes.length d1,.slice n2 T.tops.length d2] 39 (by simp)
 obtain⟨x0,x1,x2,x3⟩:=kr.three
 have hdc:=j7c s1 s2 s3 c1 c2 c3 A B C _ (hA.later b1) (hB.later b1) (hC.later b1) nm l1 l2 l3
 obtain⟨res,hres⟩:∃r,Hid (j9d A B C T=r):=⟨_,rfl⟩
 rw[hres.out]
 have hT1:=Hid.mk' (hT.later b1)
 have hC1:=Hid.mk' (hcap.later j1r b1)
 have HK:=Hid.mk' hk
 have KT:=Hid.mk' kt
 have B1:=Hid.mk' b1
 have hnl:T.nodes.length<=1048576:=hk.1.1
 have htl:T.tops.length<=1048576:=hk.2
 clear hA hB hC nm hT hcap hk kr kt b1;go_enter Tryz.func24,Tryz.ntmps24
 go_wp2_with fail;refine hdc.mono ?_
 rintro e w2 ⟨hno,hyes,hb2⟩
 have HB2:Hid (Below w.heap.size w w2):=B1.out.trans (hb2.mono B1.out.size)
 have KT2:=Hid.mk' (KT.out.later hb2)
 have HT2:=Hid.mk' (hT1.out.later hb2)
 have HC2:=Hid.mk' (hC1.out.later j1r hb2)
 clear hdc x0 x1 x2 x3 hb2 KT hT1 hC1 B1;cases hok:okR A B C
 ·
  rw[hno hok]
  have hR:Hid (res=.error (1,-1)):=by show _=_;rw[<-hres.out];unfold j9d;rw[hok];rfl
  clear hno hyes hok;go_wp2_with fail;refine bq (.tuple #[.slice none 0 0,errV 1 (-1)]) ?_
  exact j8h.bad hR.out HB2.out
 obtain⟨bd,ndm,he,hdm⟩:=hyes hok
 rw[he]
 have HDM:=Hid.mk' hdm
 have HOK:=Hid.mk' hok
 clear hno hyes hok he hdm;obtain⟨y0,y1,y2⟩:=KT2.out.two
 have htr:=j7h T n1 n2 d1 d2 B0 w2 HT2.out HK.out
 go_wp2_with fail;refine htr.mono ?_
 rintro e X ⟨rfl,hb3⟩
 have HB3:Hid (Below w.heap.size w X):=HB2.out.trans (hb3.mono HB2.out.size)
 have KT3:=Hid.mk' (KT2.out.later hb3)
 have HT3:=Hid.mk' (HT2.out.later hb3)
 have HC3:=Hid.mk' (HC2.out.later j1r hb3)
 have HD3:=Hid.mk' (HDM.out.kept (j19 hb3) (by simp))
 clear htr y0 y1 y2 hb3 KT2 HT2 HC2 HDM HB2;cases htb:treB T
 ·
  have hR:Hid (res=.error (1,-1)):=by show _=_;rw[<-hres.out];unfold j9d;rw[HOK.out,htb];rfl
  clear htb;go_wp2_with fail;refine bq (.tuple #[.slice none 0 0,errV 1 (-1)]) ?_
  exact j8h.bad hR.out HB3.out
 have HTP:Hid (treP T):=by
  show treP T
  by_cases q:treP T
  ·
   exact q
  rw[j1h q] at htb;cases htb
 have HRS:Hid (res=j3a (λsort s=>dkL (j18 A B C sort) s) T T.nodes.length T.tops [] (λ_=>0)):=by show _=_;rw[<-hres.out];unfold j9d;rw[HOK.out,htb];rfl
 clear htb;have hmk:∀W,(Instr.makeSlice 26 (.int .i64 (T.nodes.length:Int)) (.int .i64 (T.nodes.length:Int))).run Tryz.prog W=.ok (.slice (some ⟨W.heap.size,0,none⟩) T.nodes.length T.nodes.length) (W.alloc (.cells (madeCells #[.int .i64 0] T.nodes.length) 3)):=λW=>run_make_row' (P:=Tryz.prog) 26 3 (.int .i64 0) 8 Tryz.underlying26 ji1 rfl .i64 .i64 T.nodes.length (by omega) (by omega) W
 have hmm:=j6g
 go_wp2_with fail;have htx:w.heap.size+1<X.heap.size:=KT3.out.lt
 have hS:Hid (∀Y,Below X.heap.size X Y->Y.cell? ⟨w.heap.size+1,0,none⟩=some (.slice n1 T.nodes.length d1)):=λY hY=>(hY.cell (p:=⟨w.heap.size+1,0,none⟩) htx).trans ((KT3.out.cell 0).trans rfl)
 refine wp_region_held_drew (S:=λY=>Y.cell? ⟨w.heap.size+1,0,none⟩=some (.slice n1 T.nodes.length d1)) (by kernel_rfl) ?_ (λhHeld=>?_)
 ·
  exact hS.out _ (j02 (Below.refl _ _))
 have BX0:Hid (Below X.heap.size X X.drew):=j02 (Below.refl _ _)
 have hsd:Hid (X.drew.heap.size=X.heap.size):=by show _=_;simp
 refine wpr 0 26 ?_;simp only[zs];refine wpr 1 27 ?_;simp only[zs];refine wpr 2 28 ?_;simp only[zs];refine wpr 3 29 ?_;simp only[zs];refine wpr 4 30 ?_;simp only[zs];refine wpr 5 31 ?_;simp only[zs];refine wpAnyH_ready (rs:=[6,7]) (by kernel_rfl) (by simp) ?_
 refine AllReadyH.cons rfl (λKQ hK=>?_) ?_
 focus
  go_simp;refine hK.out _ _ (hS.out _ (j02 (j00 (Below.refl _ _) _))) (λhHeld=>?_)
  clear hK KQ;try simp only[zs]
  refine wpAnyH_ready (rs:=[7]) (by kernel_rfl) (by simp) ?_
  refine AllReadyH.cons rfl (λKQ hK=>?_) AllReadyH.nil
  go_simp;refine hK.out _ _ (hS.out _ (j02 (j00 (j00 (Below.refl _ _) _) _))) (λhHeld=>?_)
  clear hK KQ;try simp only[zs]
  refine wpr 8 34 ?_;simp only[zs];refine wpAnyH_ready (rs:=[9]) (by kernel_rfl) (by simp) ?_
  refine AllReadyH.cons rfl (λKQ hK=>?_) AllReadyH.nil
  go_simp;refine hK.out _ _ (hS.out _ (j02 (j00 (j00 (j00 (Below.refl _ _) _) _) _))) (λhHeld=>?_)
  clear hK KQ;try simp only[zs]
  refine wpr 10 8 ?_;simp only[zs];refine wpAnyH_done (by kernel_rfl) ?_ _
  have HQ1:QM (((X.alloc (.cells (madeCells #[.int .i64 0] T.nodes.length) 3)).alloc (.map #[] 0)).alloc (.cells #[.map (some bd),.slice n1 T.nodes.length d1,.slice (some ⟨X.heap.size,0,none⟩) T.nodes.length T.nodes.length,.map (some (X.heap.size+1))] 93)).drew (X.heap.size+1) 0 (λ_=>none):=by
   have h:=((QM.made (X.alloc (.cells (madeCells #[.int .i64 0] T.nodes.length) 3))).later (j00 (Below.refl _ _) (.cells #[.map (some bd),.slice n1 T.nodes.length d1,.slice (some ⟨X.heap.size,0,none⟩) T.nodes.length T.nodes.length,.map (some (X.heap.size+1))] 93))).later (j02 (Below.refl _ _))
   have e:(X.alloc (.cells (madeCells #[.int .i64 0] T.nodes.length) 3)).heap.size=X.heap.size+1:=by simp
   rw[e] at h
   exact h
  have HK1:Blk (((X.alloc (.cells (madeCells #[.int .i64 0] T.nodes.length) 3)).alloc (.map #[] 0)).alloc (.cells #[.map (some bd),.slice n1 T.nodes.length d1,.slice (some ⟨X.heap.size,0,none⟩) T.nodes.length T.nodes.length,.map (some (X.heap.size+1))] 93)).drew X.heap.size (madeCells #[.int .i64 0] T.nodes.length) 3:=(Blk.new X (madeCells #[.int .i64 0] T.nodes.length) 3).later (j02 (j00 (j00 (Below.refl _ _) _) _))
  have HC1:Blk (((X.alloc (.cells (madeCells #[.int .i64 0] T.nodes.length) 3)).alloc (.map #[] 0)).alloc (.cells #[.map (some bd),.slice n1 T.nodes.length d1,.slice (some ⟨X.heap.size,0,none⟩) T.nodes.length T.nodes.length,.map (some (X.heap.size+1))] 93)).drew (X.heap.size+1+1) #[.map (some bd),.slice n1 T.nodes.length d1,.slice (some ⟨X.heap.size,0,none⟩) T.nodes.length T.nodes.length,.map (some (X.heap.size+1))] 93:=(Blk.new' (n:=X.heap.size+1+1) ((X.alloc (.cells (madeCells #[.int .i64 0] T.nodes.length) 3)).alloc (.map #[] 0)) #[.map (some bd),.slice n1 T.nodes.length d1,.slice (some ⟨X.heap.size,0,none⟩) T.nodes.length T.nodes.length,.map (some (X.heap.size+1))] 93 (by simp)).later (j02 (Below.refl _ _))
  have HCX:Hid (∃kb bt,NewC X (((X.alloc (.cells (madeCells #[.int .i64 0] T.nodes.length) 3)).alloc (.map #[] 0)).alloc (.cells #[.map (some bd),.slice n1 T.nodes.length d1,.slice (some ⟨X.heap.size,0,none⟩) T.nodes.length T.nodes.length,.map (some (X.heap.size+1))] 93)).drew bd n1 T.nodes.length d1 (X.heap.size+1+1) kb bt):=⟨X.heap.size,X.heap.size+1,HC1,HK1,HQ1,by omega,by omega,by omega,by omega,by omega,by omega,j02 (j00 (j00 (j00 (Below.refl _ _) _) _) _)⟩
  generalize (((X.alloc (.cells (madeCells #[.int .i64 0] T.nodes.length) 3)).alloc (.map #[] 0)).alloc (.cells #[.map (some bd),.slice n1 T.nodes.length d1,.slice (some ⟨X.heap.size,0,none⟩) T.nodes.length T.nodes.length,.map (some (X.heap.size+1))] 93)).drew=Z at HCX ⊢
  clear HQ1 HK1 HC1 hHeld
 rotate_left 1;refine AllReadyH.cons rfl (λKQ hK=>?_) AllReadyH.nil
 go_simp;refine hK.out _ _ (hS.out _ (j02 (j00 (Below.refl _ _) _))) (λhHeld=>?_)
 clear hK KQ;try simp only[zs]
 refine wpAnyH_ready (rs:=[6]) (by kernel_rfl) (by simp) ?_
 refine AllReadyH.cons rfl (λKQ hK=>?_) AllReadyH.nil
 go_simp;refine hK.out _ _ (hS.out _ (j02 (j00 (j00 (Below.refl _ _) _) _))) (λhHeld=>?_)
 clear hK KQ;try simp only[zs]
 refine wpr 8 34 ?_;simp only[zs];refine wpAnyH_ready (rs:=[9]) (by kernel_rfl) (by simp) ?_
 refine AllReadyH.cons rfl (λKQ hK=>?_) AllReadyH.nil
 go_simp;refine hK.out _ _ (hS.out _ (j02 (j00 (j00 (j00 (Below.refl _ _) _) _) _))) (λhHeld=>?_)
 clear hK KQ;try simp only[zs]
 refine wpr 10 8 ?_;simp only[zs];refine wpAnyH_done (by kernel_rfl) ?_ _
 have HQ1:QM (((X.alloc (.map #[] 0)).alloc (.cells (madeCells #[.int .i64 0] T.nodes.length) 3)).alloc (.cells #[.map (some bd),.slice n1 T.nodes.length d1,.slice (some ⟨X.heap.size+1,0,none⟩) T.nodes.length T.nodes.length,.map (some (X.heap.size))] 93)).drew (X.heap.size) 0 (λ_=>none):=by
  have h:=(QM.made X).later (j02 (j00 (j00 (Below.refl _ _) (.cells (madeCells #[.int .i64 0] T.nodes.length) 3)) (.cells #[.map (some bd),.slice n1 T.nodes.length d1,.slice (some ⟨X.heap.size+1,0,none⟩) T.nodes.length T.nodes.length,.map (some (X.heap.size))] 93)))
  exact h
 have HK1:Blk (((X.alloc (.map #[] 0)).alloc (.cells (madeCells #[.int .i64 0] T.nodes.length) 3)).alloc (.cells #[.map (some bd),.slice n1 T.nodes.length d1,.slice (some ⟨X.heap.size+1,0,none⟩) T.nodes.length T.nodes.length,.map (some (X.heap.size))] 93)).drew (X.heap.size+1) (madeCells #[.int .i64 0] T.nodes.length) 3:=(Blk.new' (n:=X.heap.size+1) (X.alloc (.map #[] 0)) (madeCells #[.int .i64 0] T.nodes.length) 3 (by simp)).later (j02 (j00 (Below.refl _ _) _))
 have HC1:Blk (((X.alloc (.map #[] 0)).alloc (.cells (madeCells #[.int .i64 0] T.nodes.length) 3)).alloc (.cells #[.map (some bd),.slice n1 T.nodes.length d1,.slice (some ⟨X.heap.size+1,0,none⟩) T.nodes.length T.nodes.length,.map (some (X.heap.size))] 93)).drew (X.heap.size+1+1) #[.map (some bd),.slice n1 T.nodes.length d1,.slice (some ⟨X.heap.size+1,0,none⟩) T.nodes.length T.nodes.length,.map (some (X.heap.size))] 93:=(Blk.new' (n:=X.heap.size+1+1) ((X.alloc (.map #[] 0)).alloc (.cells (madeCells #[.int .i64 0] T.nodes.length) 3)) #[.map (some bd),.slice n1 T.nodes.length d1,.slice (some ⟨X.heap.size+1,0,none⟩) T.nodes.length T.nodes.length,.map (some (X.heap.size))] 93 (by simp)).later (j02 (Below.refl _ _))
 have HCX:Hid (∃kb bt,NewC X (((X.alloc (.map #[] 0)).alloc (.cells (madeCells #[.int .i64 0] T.nodes.length) 3)).alloc (.cells #[.map (some bd),.slice n1 T.nodes.length d1,.slice (some ⟨X.heap.size+1,0,none⟩) T.nodes.length T.nodes.length,.map (some (X.heap.size))] 93)).drew bd n1 T.nodes.length d1 (X.heap.size+1+1) kb bt):=⟨X.heap.size+1,X.heap.size,HC1,HK1,HQ1,by omega,by omega,by omega,by omega,by omega,by omega,j02 (j00 (j00 (j00 (Below.refl _ _) _) _) _)⟩
 generalize (((X.alloc (.map #[] 0)).alloc (.cells (madeCells #[.int .i64 0] T.nodes.length) 3)).alloc (.cells #[.map (some bd),.slice n1 T.nodes.length d1,.slice (some ⟨X.heap.size+1,0,none⟩) T.nodes.length T.nodes.length,.map (some (X.heap.size))] 93)).drew=Z at HCX ⊢
 clear HQ1 HK1 HC1 hHeld
 all_goals
  clear hS BX0 hsd hmk hmm;obtain⟨kb,bt,hc⟩:=HCX.out
  obtain⟨G,hGd⟩:∃G:Pd,Hid (G=⟨X,B0,n1,n2,d1,d2,T,A,B,C,bd,ndm,X.heap.size+1+1,kb,bt⟩):=⟨_,rfl⟩
  have hG:G.Ok:=by rw[hGd.out];exact⟨HT3.out,HC3.out,HK.out,HTP.out,HOK.out,HD3.out,hc.o1,hc.o2,hc.o3,hc.n1,hc.n2,hc.n3⟩
  have hP:Pv G Z [] (λ_=>0):=by
   rw[hGd.out]
   refine⟨hc.bx,hc.kbB.lt,λj hj=>(hc.kbB.cell j).trans (jge _ _ _ hj),λj=>hc.kbB.frozen j,⟨0,Nat.le_refl _,hc.btQ⟩,hc.bl⟩
  have hT0:G.T=T:=by rw[hGd.out]
  have hDp:Dp G=λsort s=>dkL (j18 A B C sort) s:=by rw[hGd.out];rfl
  have hw0:G.w0=X:=by rw[hGd.out]
  have hcc:G.c=X.heap.size+1+1:=by rw[hGd.out]
  have L0:Hid (LdO G Z res (T.tops.drop 0) (T.tops.take 0) (λ_=>0) (λ_=>0)):=⟨by rw[List.drop_zero,hDp,hT0];exact HRS.out,hP,λ_ _ _=>rfl,AhOk.nil⟩
  have HG:=Hid.mk' hG
  have HT0:=Hid.mk' hT0
  have HW0:=Hid.mk' hw0
  have HCC:=Hid.mk' hcc
  have KT4:=Hid.mk' (KT3.out.later hc.bl)
  obtain⟨y0,y1,y2⟩:=KT4.out.two
  clear hG hP hDp hw0 hcc hT0 hc HCX;rw[<-HCC.out]
  go_wp2_with fail;clear y0 y1 y2;go_loopw [39] (λiv wr=>∃m:Nat,m<=T.tops.length/\iv=.int .i64 m/\Hid (∃Km Kpm,LdO G wr res (T.tops.drop m) (T.tops.take m) Km Kpm)) (λiv _=>T.tops.length-(intOf iv).toNat)
  case atStart=>exact⟨0,Nat.zero_le _,rfl,⟨_,_,L0.out⟩⟩
  clear L0;obtain⟨m,hm,rfl,hLD⟩:=hrel
  obtain⟨Km,Kpm,hld⟩:=hLD.out
  have LD:=Hid.mk' hld
  clear hLD hld;have HBW:Hid (Below w.heap.size w wr):=by have h:=LD.out.p.bl;rw[HW0.out] at h;exact HB3.out.trans (h.mono HB3.out.size)
  by_cases hlt:m<T.tops.length
  rotate_left 1
  ·
   have hme:m=T.tops.length:=by omega
   subst hme
   have hR:Hid (res=.ok Km):=by show _=_;rw[LD.out.ck,List.drop_length];rfl
   have y2:wr.cell? ⟨G.c,2,none⟩=some (.slice (some ⟨G.kb,0,none⟩) T.nodes.length T.nodes.length):=by have h:=LD.out.p.bx.cell 2;rw[HT0.out] at h;exact h.trans rfl
   have hkr:=LD.out.kr
   rw[HT0.out] at hkr
   have HKR2:=Hid.mk' hkr
   clear hkr;go_wp2_with fail;refine bq (.tuple #[.slice (some ⟨G.kb,0,none⟩) T.nodes.length T.nodes.length,.nilIface]) ?_
   exact j8h.good hR.out HBW.out (λj hj=>LD.out.p.kc j (by rw[HT0.out];exact hj)) HKR2.out
  obtain⟨x,hx⟩:=j0p hlt
  have hdr:T.tops.drop m=x :: T.tops.drop (m+1):=by rw[List.drop_eq_getElem_cons hlt];congr 1;exact(List.getElem?_eq_some_iff.1 hx).2
  have htk:T.tops.take (m+1)=T.tops.take m++[x]:=by rw[List.take_add_one,hx];rfl
  obtain⟨_,hfitT,hclT⟩:=HTP.out
  obtain⟨t,tn,rfl,htn,hct⟩:=hclT m x hx
  obtain⟨t',b',e',hok',hfk',_,hlt'⟩:=hfitT.at_ hx
  have e':t=t':=by omega
  subst e'
  rw[j0w htn] at hfk'
  have hvt:VN G.T t tn:=by rw[HT0.out];exact⟨htn,hok',b',hfk'⟩
  have hft:FitL (j0e G.T) (okN G.T) tn.kids b' t:=by rw[HT0.out];exact hfk'
  have hkt:=jlr hct
  have hk0:0<tn.kids.length:=by have h1:=hvt.len;rcases hkt with e|e<;>(rw[e] at h1;simp[shp] at h1;omega)
  obtain⟨fb,fo,en2,_,hfb,pp⟩:=j05 HT3.out.t hx
  have en2':=Hid.mk' en2
  have v1:wr.cell? ⟨fb,fo+m,none⟩=some (.int .i64 (t:Int)):=by have h:=LD.out.p.bl;rw[HW0.out] at h;exact(h.cell (p:=⟨fb,fo+m,none⟩) hfb).trans pp
  have mI:(m:Int)<(T.tops.length:Int):=by omega
  have htop:=Hid.mk' (jh8 HG.out LD.out.ah (by rw[List.length_take];omega) LD.out.p LD.out.kr hvt hkt hft)
  have CK2:Hid (res=match j20 (Dp G) G.T G.T.nodes.length (T.tops.take m) Km (t:Int) with | .error e=> .error e | .ok K1=>j3a (Dp G) G.T G.T.nodes.length (T.tops.drop (m+1)) (T.tops.take m++[(t:Int)]) K1):=by show _=_;rw[LD.out.ck,hdr,j3a];rfl
  have HVT:=Hid.mk' hvt
  have HK0:=Hid.mk' hk0
  have HTK:=Hid.mk' htk
  clear hx hdr htk hfitT hclT htn hct hok' hfk' hvt hft pp;subst en2
  go_wp2_with fail;refine htop.out.mono ?_
  intro e w5 hSO
  clear htop v1;cases hr0:j20 (Dp G) G.T G.T.nodes.length (T.tops.take m) Km (t:Int) with
  | error q =>
   obtain⟨c,nq⟩:=q
   rw[hr0] at hSO
   obtain⟨rfl,hb5⟩:=hSO
   have hR:Hid (res=.error (c,nq)):=by show _=_;rw[CK2.out,hr0]
   have HB5:Hid (Below w.heap.size w w5):=by rw[HW0.out] at hb5;exact HB3.out.trans (hb5.mono HB3.out.size)
   clear hr0 hb5;go_wp2_with fail;refine bq (.tuple #[.slice none 0 0,errV c nq]) ?_
   exact j8h.bad hR.out HB5.out
  | ok K5 =>
   rw[hr0] at hSO
   obtain⟨rfl,Kp5,hp5,hk5⟩:=hSO
   have HN:Hid (LdO G w5 res (T.tops.drop (m+1)) (T.tops.take (m+1)) K5 Kp5):=⟨by rw[CK2.out,hr0,HTK.out],by rw[HTK.out];exact hp5,hk5,by rw[HTK.out];exact LD.out.ah.snoc HVT.out HK0.out (jd5 hr0)⟩
   clear hr0 hp5 hk5;go_wp2_with fail;go_roundw
   case rel=>exact⟨m+1,by omega,by go_num,⟨_,_,HN.out⟩⟩
   case measure=>simp[intOf];omega
end
end
section
open Go.RowKit Go.Maps Go.WideMaps
theorem j8k (s1 s2 s3 n1 n2:Option Addr) (c1 c2 c3 d1 d2 B0:Nat) (A B C:List (ByteArray×Int)) (T:Tre) (w:World) (hg:w.cell? ⟨0,0,none⟩=some (rtV 60)) (h00:0<w.heap.size) (hA:j0y w s1 A) (hB:j0y w s2 B) (hC:j0y w s3 C) (nm:∀i,i<(A++B++C).length->(dAt (A++B++C) i).1.size<=maxLen) (l1:A.length<=1048576) (l2:B.length<=1048576) (l3:C.length<=1048576) (hT:InT w B0 n1 n2 T) (hcap:Els 4 j46 w B0 n1 T.nodes) (hk:kTre T) :
  Calls Tryz.prog 10 #[.agg #[.slice s1 A.length c1,.slice s2 B.length c2,.slice s3 C.length c3],.agg #[.slice n1 T.nodes.length d1,.slice n2 T.tops.length d2]] w λe w'=>e=.returned (.tuple #[.int .i64 (chkR A B C T).1,.int .i64 (chkR A B C T).2])/\Below w.heap.size w w':=by
 have b1:Below w.heap.size w ((w.alloc (.cells #[.slice s1 A.length c1,.slice s2 B.length c2,.slice s3 C.length c3] 35)).alloc (.cells #[.slice n1 T.nodes.length d1,.slice n2 T.tops.length d2] 39)):=j00 (j00 (Below.refl _ _) _) _
 have kr:=Blk.alloc (Blk.new w #[.slice s1 A.length c1,.slice s2 B.length c2,.slice s3 C.length c3] 35) (.cells #[.slice n1 T.nodes.length d1,.slice n2 T.tops.length d2] 39)
 have kt:=Blk.new' (n:=w.heap.size+1) (w.alloc (.cells #[.slice s1 A.length c1,.slice s2 B.length c2,.slice s3 C.length c3] 35)) #[.slice n1 T.nodes.length d1,.slice n2 T.tops.length d2] 39 (by simp)
 obtain⟨x0,x1,x2,x3⟩:=kr.three
 obtain⟨y0,y1,y2⟩:=kt.two
 have hki:=jb5 s1 s2 s3 n1 n2 c1 c2 c3 d1 d2 B0 A B C T _ (hA.later b1) (hB.later b1) (hC.later b1) nm l1 l2 l3 (hT.later b1) (hcap.later j1r b1) hk
 have B1:=Hid.mk' b1
 have HG:=Hid.mk' hg
 clear hA hB hC nm hT hcap hk kr kt b1 hg;go_enter Tryz.func10,Tryz.ntmps10
 go_wp2_with fail;refine hki.mono ?_
 rintro e w2 ⟨hb2,hS⟩
 have B2:Hid (Below w.heap.size w w2):=B1.out.trans (hb2.mono B1.out.size)
 clear hki x0 x1 x2 x3 y0 y1 y2 B1 hb2;cases hr:j9d A B C T with
 | error q =>
  obtain⟨c,n⟩:=q
  rw[hr] at hS
  have hS:e=.returned (.tuple #[.slice none 0 0,errV c n]):=hS
  subst hS
  have hR:Hid (chkR A B C T=(c,n)):=by show _=_;rw[jda,hr]
  have hba:Below w2.heap.size w2 (w2.alloc (.cells #[.int .i64 0,.int .i64 0] 64)):=j00 (Below.refl _ _) _
  have B3:Hid (Below w.heap.size w (w2.alloc (.cells #[.int .i64 0,.int .i64 0] 64))):=j00 B2.out _
  have has:=jfj w2.heap.size c n (.int .i64 0) (.int .i64 0) _ ((B3.out.cell (p:=⟨0,0,none⟩) h00).trans HG.out) (Blk.new w2 #[.int .i64 0,.int .i64 0] 64)
  have hws:w.heap.size<=w2.heap.size:=B2.out.size
  clear hr hba;go_wp2_with fail;refine has.mono ?_
  rintro e w4 ⟨rfl,hB4,hT4⟩
  have B4:Hid (Below w.heap.size w w4):=hT4.below B3.out B3.out.size hws hws
  have f0:w4.cell? ⟨w2.heap.size,0,none⟩=some (.int .i64 c):=(hB4.cell 0).trans rfl
  have f1:w4.cell? ⟨w2.heap.size,1,none⟩=some (.int .i64 n):=(hB4.cell 1).trans rfl
  clear has hT4 hB4 B3;go_wp2_with fail;go_quiet (fail)
  go_wp2_with fail;refine bq (.tuple #[.int .i64 c,.int .i64 n]) ?_
  exact⟨by rw[hR.out],j06 B4.out _⟩
 | ok K1 =>
  rw[hr] at hS
  obtain⟨kb,Kp,rfl,_,_⟩:=hS
  have hR:Hid (chkR A B C T=(0,-1)):=by show _=_;rw[jda,hr]
  have B3:Hid (Below w.heap.size w (w2.alloc (.cells #[.int .i64 0,.int .i64 0] 64))):=j00 B2.out _
  have has:=jkr w2.heap.size (w2.alloc (.cells #[.int .i64 0,.int .i64 0] 64))
  clear hr;go_wp2_with fail;refine has.mono ?_
  rintro e w4 ⟨rfl,hq⟩
  rw[hq]
  clear has hq;go_wp2_with fail;refine bq (.tuple #[.int .i64 0,.int .i64 (-1)]) ?_
  exact⟨by rw[hR.out],B3.out⟩
end
end Go.Proofs.YtjbbagcpcepkoaaGreatDoor
