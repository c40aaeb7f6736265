/- MatchFinds: part 39. -/
import Derived.Test.YtgfldnaahojnlaaGreatDoorF38
set_option maxRecDepth 100000
set_option maxHeartbeats 4000000
namespace Go.Proofs.YtgfldnaahojnlaaGreatDoor
section
open Go.RowKit
theorem Sx {l:List ByteArray} (hg:∀x∈l.head?,Ei x):(∃x r,l=AA::r/\AJ l=(2,x))\/(∃k x,k≠2/\AJ l=(k,x)/\(⟨l,0⟩:Rst).peek≠AA):=by
 cases l with
 |nil=>exact .inr ⟨0,_,by decide,rfl,by decide⟩
 |cons y r=>
  have hp:(⟨y::r,0⟩:Rst).peek=y:=rfl;rw[hp];have hy:Ei y:=hg y rfl
  cases hy with
  |opens=>exact .inr ⟨1,_,by decide,rfl,by decide⟩
  |shuts=>exact .inl ⟨_,r,rfl,rfl⟩
  |star=>exact .inr ⟨3,_,by decide,rfl,by decide⟩
  |quoted r' _=>exact .inr ⟨4,_,by decide,C8 r',Fp (by decide)⟩
  |run c r' _ h=>exact .inr ⟨5,_,by decide,Gb (h c (by simp)),Fp (fun e=>by have:=h c (by simp);rw[e]at this;exact absurd this (by decide))⟩
theorem RS (any:Rst->Qy×Rst) (r:List ByteArray):DR any false ⟨B9::r,0⟩=((any ⟨r,0⟩).1,if((any ⟨r,0⟩).2.take AA).1 then((any ⟨r,0⟩).2.take AA).2 else((any ⟨r,0⟩).2.take AA).2.fails 3):=rfl
theorem Uj {q:Qy} {s:Rst} {R:Qy×Rst} (hb:s.bad≠0) (hR:R=(q,if(s.take AA).1 then(s.take AA).2 else(s.take AA).2.fails 3)):R.2.bad=s.bad:=by
 have hp:s.peek≠AA:=by rw[G2 hb];decide
 rw[hR,Ca hp,Rst.fails,if_neg hb];rfl
theorem Uh {q:Qy} {r:List ByteArray} {R:Qy×Rst} (hR:R=(q,if((⟨AA::r,0⟩:Rst).take AA).1 then((⟨AA::r,0⟩:Rst).take AA).2 else((⟨AA::r,0⟩:Rst).take AA).2.fails 3)):R=(q,⟨r,0⟩):=hR
theorem Wi {q:Qy} {l:List ByteArray} {R:Qy×Rst} (hp:(⟨l,0⟩:Rst).peek≠AA) (hR:R=(q,if((⟨l,0⟩:Rst).take AA).1 then((⟨l,0⟩:Rst).take AA).2 else((⟨l,0⟩:Rst).take AA).2.fails 3)):R.2.bad=3:=by
 rw[hR,Ca hp];rfl
theorem UW (k:Int) (x:ByteArray) (w:World):(Instr.field 105 (.agg #[.int .i64 k,.string x]) 0).run Tryz.prog w= .ok (.int .i64 k) w:=by kernel_rfl
theorem RF (any:Rst->Qy×Rst) (A:Nat) (d:Int) (r:List ByteArray) (w:World) (h:Rd A (B9::r) w) (hd0:0<=d) (hd:¬12<d) (hO:DJ 44 any (d+1)):KH A d w (DR any false ⟨B9::r,0⟩):=by
 show Calls _ _ _ _ _;obtain⟨R,hR⟩:∃R,DR any false ⟨B9::r,0⟩=R:=⟨_,rfl⟩;rw[hR];have H:Hid (Rd A (B9::r) w):=h;obtain⟨q,s,hqs⟩:∃q s,any ⟨r,0⟩=(q,s):=⟨_,_,rfl⟩
 have HR:Hid (R=(q,if(s.take AA).1 then(s.take AA).2 else(s.take AA).2.fails 3)):=by
  show _=_;rw[<-hR,RS,hqs]
 have HQ:Hid (any ⟨r,0⟩=(q,s)):=hqs;have HO:Hid (DJ 44 any (d+1)):=hO;clear h hR hqs hO;go_enter Tryz.func112,Tryz.ntmps112;go_wp2_with fail;refine(BQ A (B9::r) 1 ⟨#[]⟩ r w H.out rfl rfl).mono ?_;rintro _ w1 ⟨rfl,hr1,hg1⟩;have HG:Hid (w.grownBy (w1.alloc (.cells #[.int .i64 1,.string ⟨#[]⟩] 105)) (some A)/\Rd A r (w1.alloc (.cells #[.int .i64 1,.string ⟨#[]⟩] 105))):=⟨Ap hg1 _,hr1.alloc _⟩;clear hr1 hg1;go_wp2_with fail;refine(HO.out A r _ HG.out.2).mono ?_;rintro e w2 ⟨hg2,hcase⟩;rw[HQ.out]at hcase;have HG2:Hid (w.grownBy w2 (some A)):=HG.out.1.trans hg2;clear hg2;rcases hcase with⟨hb,p,rfl,hq,hrd⟩|⟨hb,rfl⟩
 ·simp only at hb hq hrd
  obtain⟨l2,rfl⟩:∃l2,s=⟨l2,0⟩:=⟨s.l,by cases s;simp only at hb;rw[hb]⟩;simp only at hrd;have HK:Hid (MQ A w2 p q/\Rd A l2 w2):=⟨hq,hrd⟩;rcases Sx hrd.2 with⟨x,l3,rfl,hx⟩|⟨k,x,hk2,hx,hp⟩
  ·have HX:Hid (AJ (AA::l3)=(2,x)):=hx
   clear hb hq hrd hx HG;go_wp2_with fail;have hf:=UW 2 x;refine(BQ A (AA::l3) 2 x l3 w2 HK.out.2 HX.out rfl).mono ?_;rintro _ w3 ⟨rfl,hr3,hg3⟩;have HG3:Hid (w.grownBy w3 (some A)/\Rd A l3 w3/\MQ A w3 p q):=⟨HG2.out.trans hg3,hr3,MQ.grown hg3 q HK.out.1⟩;clear hr3 hg3
   go_wp2_with (go_at_call 41;refine(BE _).mono ?_;rintro _ w0 ⟨rfl,hw0⟩;obtain rfl:w3=w0:=hw0.symm)
   go_ret;exact Out.made (Uh HR.out) HG3.out.1 HG3.out.2.2 HG3.out.2.1
  ·have HX:Hid (AJ l2=(k,x)/\(⟨l2,0⟩:Rst).peek≠AA):=⟨hx,hp⟩
   have j2:(k == 2)=false:=by simpa using hk2
   clear hb hq hrd hx hp HG hk2;go_wp2_with fail;have hf:=UW k x;refine(BQ A l2 k x _ w2 HK.out.2 HX.out.1 rfl).mono ?_;rintro _ w3 ⟨rfl,hr3,hg3⟩;have HG3:Hid (w.grownBy w3 (some A)):=HG2.out.trans hg3;clear hr3 hg3
   go_wp2_with (go_at_call 41;refine(DM _).mono ?_;rintro _ w0 ⟨rfl,hw0⟩;obtain rfl:w3=w0:=hw0.symm)
   exact⟨rfl,Out.thrown (Wi HX.out.2 HR.out) (by decide) HG3.out⟩
 ·simp only at hb
  have HB:Hid (s.bad≠0):=hb;clear hb HG;go_wp2;exact⟨rfl,Out.thrown (Uj HB.out HR.out) HB.out HG2.out⟩
theorem Po (any:Rst->Qy×Rst) (q:List UInt8) (r:List ByteArray):DR any false ⟨⟨(34::q).toArray⟩::r,0⟩=(.node 1 (Ad q) .nil .nil,if Ad q=[]then⟨r,3⟩else⟨r,0⟩):=by
 have hp:(⟨(⟨(34::q).toArray⟩:ByteArray)::r,0⟩:Rst).peek=⟨(34::q).toArray⟩:=rfl;have n0:=Mw 34 q;have k:∀d:UInt8,(34:UInt8)≠d->(⟨(34::q).toArray⟩:ByteArray)≠⟨#[d]⟩:=fun d h=>Fp h
 have kk:∀(d:UInt8) (m:List UInt8),(34:UInt8)≠d->(⟨(34::q).toArray⟩:ByteArray)≠⟨(d::m).toArray⟩:=fun d m h e=>by
  have:=congrArg BA e;rw[CU,CU]at this;exact h this
 have hno:noOne ⟨(34::q).toArray⟩=false:=by
  unfold noOne;rw[decide_eq_false n0,decide_eq_false (show ¬_=AA from k 41 (by decide)),decide_eq_false (show ¬_=Ao from k 42 (by decide)),decide_eq_false (show ¬_=D7 from kk 65 [78,68] (by decide)),decide_eq_false (show ¬_=tOr from kk 79 [82] (by decide)),decide_eq_false (show ¬_=BK from kk 78 [79,84] (by decide)),decide_eq_false (show ¬_=At from kk 78 [69,65,82] (by decide))];rfl
 unfold DR;rw[hp];simp only[Bool.false_eq_true,if_false];rw[if_neg (show ¬_=B9 from k 40 (by decide)),if_neg (by rw[hno];decide),if_pos (CU 34 q),AH hp];rfl
theorem Pe (any:Rst->Qy×Rst) (A:Nat) (d:Int) (q:List UInt8) (r:List ByteArray) (w:World) (h:Rd A (⟨(34::q).toArray⟩::r) w) (hq:q.length<=400) (hd:¬12<d):KH A d w (DR any false ⟨⟨(34::q).toArray⟩::r,0⟩):=by
 show Calls _ _ _ _ _;have H:Hid (Rd A (⟨(34::q).toArray⟩::r) w):=h;obtain⟨ws,hws⟩:∃ws,Ad q=ws:=⟨_,rfl⟩;obtain⟨R,hR⟩:∃R,DR any false ⟨⟨(34::q).toArray⟩::r,0⟩=R:=⟨_,rfl⟩;rw[hR]
 have HR:Hid (R=(.node 1 ws .nil .nil,if ws=[]then⟨r,3⟩else⟨r,0⟩)):=by
  show _=_;rw[<-hR,Po,hws]
 have hwl:ws.length<=401:=by rw[<-hws];have:=CK q;omega
 have HW:Hid (Ad (⟨q.toArray⟩:ByteArray).data.toList=ws/\(⟨q.toArray⟩:ByteArray).size<=400):=⟨hws,by rw[<-AF];exact hq⟩;clear h hR hws hq;go_enter Tryz.func112,Tryz.ntmps112;go_wp2_with fail;refine(BQ A (⟨(34::q).toArray⟩::r) 4 ⟨q.toArray⟩ r w H.out (C8 q) rfl).mono ?_;rintro _ w1 ⟨rfl,hr1,hg1⟩;have HG:Hid (w.grownBy (w1.alloc (.cells #[.int .i64 4,.string ⟨q.toArray⟩] 105)) (some A)/\Rd A r (w1.alloc (.cells #[.int .i64 4,.string ⟨q.toArray⟩] 105))):=⟨Ap hg1 _,hr1.alloc _⟩;have hA1:=hr1.lt;clear hr1 hg1;go_wp2_with fail;refine(Gx ⟨q.toArray⟩ _ (by have:=HW.out.2;omega) HG.out.2.ends).mono ?_;rintro _ w2 ⟨v2,rfl,ho2,hb2⟩;rw[HW.out.1]at ho2;have HG2:Hid (w.grownBy w2 (some A)/\Rd A r w2):=⟨HG.out.1.trans (Ac hb2 _),HG.out.2.below hb2⟩;have HRow:Hid (GI A w2 v2 ws):=FT ho2 (by simp;omega) (by omega)
 obtain⟨a,cap,rfl⟩:∃a cap,v2= .slice a ws.length cap:=by
  rcases ho2.2 with⟨rfl,h0⟩|⟨g,cap,cur,rfl,_⟩
  ·exact⟨none,0,by rw[h0]⟩
  ·exact⟨_,cap,rfl⟩
 clear ho2 hb2 HG;obtain⟨n,hn⟩:∃n,ws.length=n:=⟨_,rfl⟩
 by_cases h0:ws=[]
 ·have HT:Hid (R.2.bad=3):=by show _=_;rw[HR.out,if_pos h0]
  subst h0;clear HR hn
  go_wp2_with (go_at_call 41;refine(DM _).mono ?_;rintro _ w0 ⟨rfl,hw0⟩;obtain rfl:w2=w0:=hw0.symm)
  exact⟨rfl,Out.thrown HT.out (by decide) HG2.out.1⟩
 ·have HT:Hid (R=(.node 1 ws .nil .nil,⟨r,0⟩)):=by show _=_;rw[HR.out,if_neg h0]
  have hpos:0<n:=by rw[<-hn];exact List.length_pos_iff.2 h0
  have HRow2:Hid (GI A w2 (.slice a n cap) ws):=by have:=HRow.out;rw[hn]at this;exact this
  rw[hn];have d1:decide ((0:Int)<(n:Int))=true:=decide_eq_true (by omega);clear HR HRow hn h0
  go_wp2_with (go_at_call 41;refine(BE _).mono ?_;rintro _ w0 ⟨rfl,hw0⟩;obtain rfl:w2=w0:=hw0.symm)
  go_ret;exact Out.made HT.out (Ap HG2.out.1 _) (MQ.box HG2.out.2.lt 1 _ none none ws .nil .nil HRow2.out rfl rfl 0 rfl) (HG2.out.2.alloc _)
theorem Ft {l:List ByteArray} (hg:∀x∈l.head?,Ei x):(∃x r,l=Ao::r/\AJ l=(3,x))\/(∃k x,k≠3/\AJ l=(k,x)/\(⟨l,0⟩:Rst).peek≠Ao):=by
 cases l with
 |nil=>exact .inr ⟨0,_,by decide,rfl,by decide⟩
 |cons y r=>
  have hp:(⟨y::r,0⟩:Rst).peek=y:=rfl;rw[hp];have hy:Ei y:=hg y rfl
  cases hy with
  |opens=>exact .inr ⟨1,_,by decide,rfl,by decide⟩
  |shuts=>exact .inr ⟨2,_,by decide,rfl,by decide⟩
  |star=>exact .inl ⟨_,r,rfl,rfl⟩
  |quoted r' _=>exact .inr ⟨4,_,by decide,C8 r',Fp (by decide)⟩
  |run c r' _ h=>exact .inr ⟨5,_,by decide,Gb (h c (by simp)),Fp (fun e=>by have:=h c (by simp);rw[e]at this;exact absurd this (by decide))⟩
def Ci (x:ByteArray):Prop:=∃c m,x=⟨(c::m).toArray⟩/\m.length<400/\∀d∈c::m,Bq d=true
theorem Ci.kind {x:ByteArray} (h:Ci x):DU x=(5,x):=by
 obtain⟨c,m,rfl,_,h⟩:=h;exact Gb (h c (by simp))
theorem Ci.size {x:ByteArray} (h:Ci x):x.size<=400:=by
 obtain⟨c,m,rfl,h1,_⟩:=h;rw[<-AF];simp;omega
theorem Ci.first {x:ByteArray} (h:Ci x):Dd (BA x)=false:=by
 obtain⟨c,m,rfl,_,h⟩:=h;rw[CU];have hc:=h c (by simp)
 have key:∀d:UInt8,Bq d=false->(c == d)=false:=fun d hd=>by
  rw[beq_eq_false_iff_ne];intro e;rw[e,hd]at hc;cases hc
 unfold Dd;rw[key 40 (by decide),key 41 (by decide),key 42 (by decide),key 34 (by decide)];rfl
theorem Ci.some {x:ByteArray} (h:Ci x):x≠Ax:=by
 obtain⟨c,m,rfl,_,_⟩:=h;exact Mw c m
theorem Ci.ne {x:ByteArray} (h:Ci x) (d:UInt8) (hd:Bq d=false):x≠⟨#[d]⟩:=by
 obtain⟨c,m,rfl,_,h⟩:=h;exact Fp (fun e=>by have hc:=h c (by simp);rw[e,hd]at hc;cases hc)
theorem Ci.not34 {x:ByteArray} (h:Ci x):BA x≠34:=by
 obtain⟨c,m,rfl,_,h⟩:=h;rw[CU];intro e;have hc:=h c (by simp);rw[e]at hc;exact absurd hc (by decide)
theorem Ci.noOne {x:ByteArray} (h:Ci x):noOne x=BX x:=by
 unfold Go.Proofs.YtgfldnaahojnlaaGreatDoor.noOne BX;rw[decide_eq_false h.some,decide_eq_false (show ¬x=AA from h.ne 41 (by decide)),decide_eq_false (show ¬x=Ao from h.ne 42 (by decide))];rfl
theorem UQ {l:List ByteArray} (hg:∀x∈l.head?,Ei x):(∃x r,l=x::r/\Ci x)\/(∃k x,k≠5/\AJ l=(k,x)/\((⟨l,0⟩:Rst).peek=Ax\/Dd (BA (⟨l,0⟩:Rst).peek)=true)):=by
 cases l with
 |nil=>exact .inr ⟨0,_,by decide,rfl,.inl rfl⟩
 |cons y r=>
  have hp:(⟨y::r,0⟩:Rst).peek=y:=rfl;rw[hp];have hy:Ei y:=hg y rfl
  cases hy with
  |opens=>exact .inr ⟨1,_,by decide,rfl,.inr rfl⟩
  |shuts=>exact .inr ⟨2,_,by decide,rfl,.inr rfl⟩
  |star=>exact .inr ⟨3,_,by decide,rfl,.inr rfl⟩
  |quoted r' _=>exact .inr ⟨4,_,by decide,C8 r',.inr (by rw[CU];rfl)⟩
  |run c r' h1 h=>exact .inl ⟨_,r,rfl,c,r',rfl,h1,h⟩
theorem Uq (any:Rst->Qy×Rst) {x:ByteArray} (h:Ci x) (r:List ByteArray) (hs:BX x=false):DR any false ⟨x::r,0⟩=if(⟨r,0⟩:Rst).peek=Ao then(.node 2 [A6 x] .nil .nil,(⟨r.tail,0⟩:Rst).begins x (Aw x.data.toList))else C7 x ⟨r,0⟩:=by
 have hp:(⟨x::r,0⟩:Rst).peek=x:=rfl;unfold DR;rw[hp];simp only[Bool.false_eq_true,if_false];rw[if_neg (show ¬x=B9 from h.ne 40 (by decide)),if_neg (by rw[h.noOne,hs];decide),if_neg h.not34,AH hp];show(if((⟨r,0⟩:Rst).take Ao).1=true then(Qy.node 2 [A6 x] .nil .nil,((⟨r,0⟩:Rst).take Ao).2.begins x (Aw x.data.toList))else C7 x ((⟨r,0⟩:Rst).take Ao).2)=_
 by_cases h3:(⟨r,0⟩:Rst).peek=Ao
 ·rw[AH h3,if_pos rfl,if_pos h3]
 ·rw[Ca h3,if_neg (show ¬false=true by decide),if_neg h3]
theorem RR (any:Rst->Qy×Rst) {x:ByteArray} (h:Ci x) (r:List ByteArray) (hs:BX x=true):(DR any false ⟨x::r,0⟩).2.bad=3:=by
 have hp:(⟨x::r,0⟩:Rst).peek=x:=rfl;unfold DR;rw[hp];simp only[Bool.false_eq_true,if_false];rw[if_neg (show ¬x=B9 from h.ne 40 (by decide)),if_pos (by rw[h.noOne,hs])];rfl
theorem MQ.boxAt {A n:Nat} {w:World} (hn:w.heap.size=n) (hA:A<w.heap.size) (k:Int) (vw:Value) (pa pb:Option Addr) (ws:List ByteArray) (a b:Qy) (hw:GI A w vw ws) (ha:MQ A w pa a) (hb:MQ A w pb b) (F:Int) (hF:LD k=F):
  MQ A (w.alloc (.cells #[.int .i64 k,vw,.int .i64 F,.pointer pa,.pointer pb] 144)) (some ⟨n,0,none⟩) (.node k ws a b):=by
 subst hn;exact MQ.box hA k vw pa pb ws a b hw ha hb F hF
theorem Ci.fine {t:ByteArray} (ht:Ci t) {s:Rst} (hp:s.peek=t):¬(s.peek=Ax\/Dd (BA s.peek)=true):=by
 rw[hp,ht.first];intro k;rcases k with k|k
 ·exact ht.some k
 ·cases k
theorem Y8 {x:ByteArray} {r:List ByteArray} (h:(Ad x.data.toList).length≠1):(C7 x ⟨r,0⟩).2.bad=3:=by
 have e:(⟨r,0⟩:Rst).plain x=(⟨#[]⟩,⟨r,3⟩):=FV rfl h;have hp:(⟨r,3⟩:Rst).peek=Ax:=G2 (by show(3:Int)≠0;decide);rw[Mu (by rw[e];show(⟨r,3⟩:Rst).peek≠At;rw[hp];decide),e]
theorem Y7 {x y:ByteArray} {r:List ByteArray} (h:Ad x.data.toList=[y]) (hn:(⟨r,0⟩:Rst).peek≠At):C7 x ⟨r,0⟩=(.node 1 [y] .nil .nil,⟨r,0⟩):=by
 have e:(⟨r,0⟩:Rst).plain x=(y,⟨r,0⟩):=Eo h;rw[Mu (by rw[e];exact hn),e]
theorem Y6 {x y:ByteArray} {r:List ByteArray} (h:Ad x.data.toList=[y]) (hb:(⟨r,0⟩:Rst).peek=Ax\/Dd (BA (⟨r,0⟩:Rst).peek)=true):(C7 x ⟨At::r,0⟩).2.bad=3:=by
 have e:(⟨At::r,0⟩:Rst).plain x=(y,⟨At::r,0⟩):=Eo h;rw[JZ (s3:=⟨r,0⟩) (by rw[e];rfl) (by rw[e];rfl) hb];rfl
theorem Y4 {x y t:ByteArray} {r:List ByteArray} (h:Ad x.data.toList=[y]) (ht:Ci t) (hw:(Ad t.data.toList).length≠1):(C7 x ⟨At::t::r,0⟩).2.bad=3:=by
 have e:(⟨At::t::r,0⟩:Rst).plain x=(y,⟨At::t::r,0⟩):=Eo h;have hp:(⟨t::r,0⟩:Rst).peek=t:=rfl;rw[JX (s3:=⟨t::r,0⟩) (by rw[e];rfl) (by rw[e];rfl) (ht.fine hp)];rw[hp,AH hp];have e2:(⟨r,0⟩:Rst).plain t=(⟨#[]⟩,⟨r,3⟩):=FV rfl hw;simp only[List.tail_cons];rw[e2]
theorem Y2 {x y t z:ByteArray} {r:List ByteArray} (h:Ad x.data.toList=[y]) (ht:Ci t) (hw:Ad t.data.toList=[z]):C7 x ⟨At::t::r,0⟩=(.node 3 [y,z] .nil .nil,⟨r,0⟩):=by
 have e:(⟨At::t::r,0⟩:Rst).plain x=(y,⟨At::t::r,0⟩):=Eo h;have hp:(⟨t::r,0⟩:Rst).peek=t:=rfl;rw[JX (s3:=⟨t::r,0⟩) (by rw[e];rfl) (by rw[e];rfl) (ht.fine hp)];rw[hp,AH hp,e];have e2:(⟨r,0⟩:Rst).plain t=(z,⟨r,0⟩):=Eo hw;simp only[List.tail_cons];rw[e2]
theorem RB (A:Nat) (d:Int) (x:ByteArray) (r:List ByteArray) (w:World) (R:Qy×Rst) (h:Rd A (x::r) w) (hd:¬12<d) (hx:Ci x) (hs:BX x=false) (r2:List ByteArray) (hr:r=Ao::r2) (hR:R=(.node 2 [A6 x] .nil .nil,if Qb x=true then⟨r2,0⟩else⟨r2,3⟩)):KH A d w R:=by
 show Calls _ _ _ _ _;have H:Hid (Rd A (x::r) w/\Ci x/\BX x=false):=⟨h,hx,hs⟩;have HR:Hid (R=(.node 2 [A6 x] .nil .nil,if Qb x=true then⟨r2,0⟩else⟨r2,3⟩)):=hR;have HRr:Hid (r=Ao::r2):=hr;clear hR hr;clear h hx hs;go_enter Tryz.func112,Tryz.ntmps112;go_wp2_with fail;refine(BQ A (x::r) 5 x r w H.out.1 H.out.2.1.kind rfl).mono ?_;rintro _ w1 ⟨rfl,hr1,hg1⟩;obtain⟨W1,hW1⟩:∃W,w1.alloc (.cells #[.int .i64 5,.string x] 105)=W:=⟨_,rfl⟩;have HG:Hid (w.grownBy W1 (some A)/\Rd A r W1):=by rw[<-hW1];exact⟨Ap hg1 _,hr1.alloc _⟩
 have hA1:=hr1.lt;have hW:W1.heap.size=w1.heap.size+1:=by rw[<-hW1];simp
 have c0:W1.cell? ⟨w1.heap.size,0,none⟩=some (.int .i64 5):=by rw[<-hW1];simp[go_sem]
 have c1:W1.cell? ⟨w1.heap.size,1,none⟩=some (.string x):=by rw[<-hW1];simp[go_sem]
 have c2:W1.cell? ⟨A,0,none⟩=some (.int .i64 3):=by have:=HG.out.2.1.1.1;rw[HRr.out]at this;exact this
 clear hr1 hg1
 go_wp2_with first|(go_at_call 41;refine(BE _).mono ?_;rintro _ w0 ⟨rfl,hw0⟩;obtain rfl:=hw0.symm)|(go_at_call 162;refine(Dc x false H.out.2.2 _).mono ?_;rintro _ w0 ⟨rfl,hw0⟩;obtain rfl:=hw0.symm)|fail
 refine(BQ A r 3 ⟨#[]⟩ r2 W1 HG.out.2 (by rw[HRr.out];rfl) (by rw[HRr.out];rfl)).mono ?_;rintro _ w2 ⟨rfl,hr2,hg2⟩;have HG2:Hid (w.grownBy w2 (some A)/\Rd A r2 w2):=⟨HG.out.1.trans hg2,hr2⟩;have e1:w2.cell? ⟨w1.heap.size,1,none⟩=some (.string x):=by rw[PV hg2 (by omega) (by omega)];exact c1
 clear hr2 hg2 c0 c1 c2 hW1;go_wp2_with fail;refine(WX x w2).mono ?_;rintro e w3 ⟨hcase,hb3⟩;have HG3:Hid (w.grownBy w3 (some A)/\Rd A r2 w3):=⟨HG2.out.1.trans (Ac hb3 _),HG2.out.2.below hb3⟩;clear hb3 e1;rcases hcase with⟨hb,rfl⟩|⟨hb,rfl⟩
 ·have HT:Hid (R=(.node 2 [A6 x] .nil .nil,⟨r2,0⟩)):=by show _=_;rw[HR.out,if_pos hb]
  clear hb HR;go_wp2;go_ret;exact Out.made HT.out (Ap (Ap HG3.out.1 _) _) (MQ.boxAt (by simp) (by simp;have:=HG3.out.2.lt;omega) 2 _ none none [A6 x] .nil .nil (Mh (A6 x) HG3.out.2.lt) rfl rfl 0 rfl) ((HG3.out.2.alloc _).alloc _)
 ·have HT:Hid (R.2.bad=3):=by show _=_;rw[HR.out,hb,if_neg (by decide)]
  clear hb HR;go_wp2;exact⟨rfl,Out.thrown HT.out (by decide) HG3.out.1⟩
theorem Mo (A:Nat) (d:Int) (x:ByteArray) (r:List ByteArray) (w:World) (R:Qy×Rst) (h:Rd A (x::r) w) (hd:¬12<d) (hx:Ci x) (hs:BX x=false) (hst:(⟨r,0⟩:Rst).peek≠Ao) (hw:(Ad x.data.toList).length≠1) (hR:R.2.bad=3):KH A d w R:=by
 show Calls _ _ _ _ _;have H:Hid (Rd A (x::r) w/\Ci x/\BX x=false):=⟨h,hx,hs⟩;have HS:Hid ((⟨r,0⟩:Rst).peek≠Ao):=hst;clear hst;have HR:Hid (R.2.bad=3/\(Ad x.data.toList).length≠1):=⟨hR,hw⟩;clear hR hw;clear h hx hs;go_enter Tryz.func112,Tryz.ntmps112;go_wp2_with fail;refine(BQ A (x::r) 5 x r w H.out.1 H.out.2.1.kind rfl).mono ?_;rintro _ w1 ⟨rfl,hr1,hg1⟩;obtain⟨W1,hW1⟩:∃W,w1.alloc (.cells #[.int .i64 5,.string x] 105)=W:=⟨_,rfl⟩;have HG:Hid (w.grownBy W1 (some A)/\Rd A r W1):=by rw[<-hW1];exact⟨Ap hg1 _,hr1.alloc _⟩
 have hA1:=hr1.lt;have hW:W1.heap.size=w1.heap.size+1:=by rw[<-hW1];simp
 have c0:W1.cell? ⟨w1.heap.size,0,none⟩=some (.int .i64 5):=by rw[<-hW1];simp[go_sem]
 have c1:W1.cell? ⟨w1.heap.size,1,none⟩=some (.string x):=by rw[<-hW1];simp[go_sem]
 obtain⟨k,xk,hk3,hk,hpk⟩:∃k x,k≠3/\AJ r=(k,x)/\(⟨r,0⟩:Rst).peek≠Ao:=by
  rcases Ft HG.out.2.2 with⟨_,r',e,_⟩|h
  ·exact absurd (show(⟨r,0⟩:Rst).peek=Ao by rw[e];rfl) HS.out
  ·exact h
 have c2:W1.cell? ⟨A,0,none⟩=some (.int .i64 k):=by have:=HG.out.2.1.1.1;rw[hk]at this;exact this
 have j3:(k == 3)=false:=by simpa using hk3
 clear hk hk3 hpk;clear hr1 hg1
 go_wp2_with first|(go_at_call 41;refine(BE _).mono ?_;rintro _ w0 ⟨rfl,hw0⟩;obtain rfl:=hw0.symm)|(go_at_call 162;refine(Dc x false H.out.2.2 _).mono ?_;rintro _ w0 ⟨rfl,hw0⟩;obtain rfl:=hw0.symm)|fail
 refine(JP x W1 (by have:=H.out.2.1.size;omega) HG.out.2.ends HR.out.2).mono ?_;rintro e w3 ⟨rfl,hb3⟩;have HG3:Hid (w.grownBy w3 (some A)):=HG.out.1.trans (Ac hb3 _);clear hb3 c0 c1 c2 hW1;go_wp2;exact⟨rfl,Out.thrown HR.out.1 (by decide) HG3.out⟩
theorem RA (A:Nat) (d:Int) (x:ByteArray) (r:List ByteArray) (w:World) (R:Qy×Rst) (h:Rd A (x::r) w) (hd:¬12<d) (hx:Ci x) (hs:BX x=false) (hst:(⟨r,0⟩:Rst).peek≠Ao) (y:ByteArray) (hw:Ad x.data.toList=[y]) (hn:(⟨r,0⟩:Rst).peek≠At) (hR:R=(.node 1 [y] .nil .nil,⟨r,0⟩)):KH A d w R:=by
 show Calls _ _ _ _ _;have H:Hid (Rd A (x::r) w/\Ci x/\BX x=false):=⟨h,hx,hs⟩;have HS:Hid ((⟨r,0⟩:Rst).peek≠Ao):=hst;clear hst;have HR:Hid (R=(.node 1 [y] .nil .nil,⟨r,0⟩)/\Ad x.data.toList=[y]/\(⟨r,0⟩:Rst).peek≠At):=⟨hR,hw,hn⟩;clear hR hw hn;clear h hx hs;go_enter Tryz.func112,Tryz.ntmps112;go_wp2_with fail;refine(BQ A (x::r) 5 x r w H.out.1 H.out.2.1.kind rfl).mono ?_;rintro _ w1 ⟨rfl,hr1,hg1⟩;obtain⟨W1,hW1⟩:∃W,w1.alloc (.cells #[.int .i64 5,.string x] 105)=W:=⟨_,rfl⟩;have HG:Hid (w.grownBy W1 (some A)/\Rd A r W1):=by rw[<-hW1];exact⟨Ap hg1 _,hr1.alloc _⟩
 have hA1:=hr1.lt;have hW:W1.heap.size=w1.heap.size+1:=by rw[<-hW1];simp
 have c0:W1.cell? ⟨w1.heap.size,0,none⟩=some (.int .i64 5):=by rw[<-hW1];simp[go_sem]
 have c1:W1.cell? ⟨w1.heap.size,1,none⟩=some (.string x):=by rw[<-hW1];simp[go_sem]
 obtain⟨k,xk,hk3,hk,hpk⟩:∃k x,k≠3/\AJ r=(k,x)/\(⟨r,0⟩:Rst).peek≠Ao:=by
  rcases Ft HG.out.2.2 with⟨_,r',e,_⟩|h
  ·exact absurd (show(⟨r,0⟩:Rst).peek=Ao by rw[e];rfl) HS.out
  ·exact h
 have c2:W1.cell? ⟨A,0,none⟩=some (.int .i64 k):=by have:=HG.out.2.1.1.1;rw[hk]at this;exact this
 have j3:(k == 3)=false:=by simpa using hk3
 clear hk hk3 hpk;clear hr1 hg1
 go_wp2_with first|(go_at_call 41;refine(BE _).mono ?_;rintro _ w0 ⟨rfl,hw0⟩;obtain rfl:=hw0.symm)|(go_at_call 162;refine(Dc x false H.out.2.2 _).mono ?_;rintro _ w0 ⟨rfl,hw0⟩;obtain rfl:=hw0.symm)|fail
 refine(E4 x y W1 (by have:=H.out.2.1.size;omega) HG.out.2.ends HR.out.2.1).mono ?_;rintro e w3 ⟨rfl,hb3⟩;have HG3:Hid (w.grownBy w3 (some A)/\Rd A r w3):=⟨HG.out.1.trans (Ac hb3 _),HG.out.2.below hb3⟩;clear hb3 c0 c1 c2 hW1;go_wp2_with fail;refine(Fi A r At w3 HG3.out.2 G9 (by decide) HR.out.2.2).mono ?_;rintro e w4 ⟨rfl,hr4,hg4⟩;have HG4:Hid (w.grownBy w4 (some A)/\Rd A r w4):=⟨HG3.out.1.trans hg4,hr4⟩;clear hr4 hg4;go_wp2;go_ret;exact Out.made HR.out.1 (Ap (Ap HG4.out.1 _) _) (MQ.boxAt (by simp) (by simp;have:=HG4.out.2.lt;omega) 1 _ none none [y] .nil .nil (Mh y HG4.out.2.lt) rfl rfl 0 rfl) ((HG4.out.2.alloc _).alloc _)
theorem Mq (A:Nat) (d:Int) (x:ByteArray) (r:List ByteArray) (w:World) (R:Qy×Rst) (h:Rd A (x::r) w) (hd:¬12<d) (hx:Ci x) (hs:BX x=false) (r2:List ByteArray) (hn:r=At::r2) (y:ByteArray) (hw:Ad x.data.toList=[y]) (k2:Int) (x2:ByteArray) (hk2:k2≠5) (hx2:AJ r2=(k2,x2)) (hR:R.2.bad=3):KH A d w R:=by
 show Calls _ _ _ _ _;have H:Hid (Rd A (x::r) w/\Ci x/\BX x=false):=⟨h,hx,hs⟩;have HN:Hid (r=At::r2):=hn;have HS:Hid ((⟨r,0⟩:Rst).peek≠Ao):=by show ¬_;rw[hn];exact(show ¬At=Ao by decide)
 clear hn;have HR:Hid (R.2.bad=3/\Ad x.data.toList=[y]/\AJ r2=(k2,x2)):=⟨hR,hw,hx2⟩;have j5:(k2 == 5)=false:=by simpa using hk2
 clear hR hw hk2 hx2;clear h hx hs;go_enter Tryz.func112,Tryz.ntmps112;go_wp2_with fail;refine(BQ A (x::r) 5 x r w H.out.1 H.out.2.1.kind rfl).mono ?_;rintro _ w1 ⟨rfl,hr1,hg1⟩;obtain⟨W1,hW1⟩:∃W,w1.alloc (.cells #[.int .i64 5,.string x] 105)=W:=⟨_,rfl⟩;have HG:Hid (w.grownBy W1 (some A)/\Rd A r W1):=by rw[<-hW1];exact⟨Ap hg1 _,hr1.alloc _⟩
 have hA1:=hr1.lt;have hW:W1.heap.size=w1.heap.size+1:=by rw[<-hW1];simp
 have c0:W1.cell? ⟨w1.heap.size,0,none⟩=some (.int .i64 5):=by rw[<-hW1];simp[go_sem]
 have c1:W1.cell? ⟨w1.heap.size,1,none⟩=some (.string x):=by rw[<-hW1];simp[go_sem]
 obtain⟨k,xk,hk3,hk,hpk⟩:∃k x,k≠3/\AJ r=(k,x)/\(⟨r,0⟩:Rst).peek≠Ao:=by
  rcases Ft HG.out.2.2 with⟨_,r',e,_⟩|h
  ·exact absurd (show(⟨r,0⟩:Rst).peek=Ao by rw[e];rfl) HS.out
  ·exact h
 have c2:W1.cell? ⟨A,0,none⟩=some (.int .i64 k):=by have:=HG.out.2.1.1.1;rw[hk]at this;exact this
 have j3:(k == 3)=false:=by simpa using hk3
 clear hk hk3 hpk;clear hr1 hg1
 go_wp2_with first|(go_at_call 41;refine(BE _).mono ?_;rintro _ w0 ⟨rfl,hw0⟩;obtain rfl:=hw0.symm)|(go_at_call 162;refine(Dc x false H.out.2.2 _).mono ?_;rintro _ w0 ⟨rfl,hw0⟩;obtain rfl:=hw0.symm)|fail
 refine(E4 x y W1 (by have:=H.out.2.1.size;omega) HG.out.2.ends HR.out.2.1).mono ?_;rintro e w3 ⟨rfl,hb3⟩;have HG3:Hid (w.grownBy w3 (some A)/\Rd A r w3):=⟨HG.out.1.trans (Ac hb3 _),HG.out.2.below hb3⟩;clear hb3 c0 c1 c2 hW1;go_wp2_with fail;refine(En A r At w3 HG3.out.2 G9 (by decide) (by rw[HN.out];rfl)).mono ?_;rintro e w4 ⟨rfl,hr4,hg4⟩;rw[HN.out,List.tail_cons]at hr4;have HG4:Hid (w.grownBy w4 (some A)/\Rd A r2 w4):=⟨HG3.out.1.trans hg4,hr4⟩;clear hr4 hg4;go_wp2_with fail;refine(BQ A r2 k2 x2 _ w4 HG4.out.2 HR.out.2.2 rfl).mono ?_;rintro _ w5 ⟨rfl,hr5,hg5⟩;have HG5:Hid (w.grownBy w5 (some A)):=HG4.out.1.trans hg5;clear hr5 hg5
 go_wp2_with (go_at_call 41;refine(DM _).mono ?_;rintro _ w0 ⟨rfl,hw0⟩;obtain rfl:=hw0.symm)
 exact⟨rfl,Out.thrown HR.out.1 (by decide) (Ap HG5.out _)⟩
theorem N6 (A:Nat) (d:Int) (x:ByteArray) (r:List ByteArray) (w:World) (R:Qy×Rst) (h:Rd A (x::r) w) (hd:¬12<d) (hx:Ci x) (hs:BX x=false) (r2:List ByteArray) (hn:r=At::r2) (t:ByteArray) (r3:List ByteArray) (hr2:r2=t::r3) (ht:Ci t) (y:ByteArray) (hw:Ad x.data.toList=[y]) (hwt:(Ad t.data.toList).length≠1) (hR:R.2.bad=3):KH A d w R:=by
 show Calls _ _ _ _ _;have H:Hid (Rd A (x::r) w/\Ci x/\BX x=false):=⟨h,hx,hs⟩;have HN:Hid (r=At::r2):=hn;have HS:Hid ((⟨r,0⟩:Rst).peek≠Ao):=by show ¬_;rw[hn];exact(show ¬At=Ao by decide)
 clear hn;have HR:Hid (R.2.bad=3/\Ad x.data.toList=[y]/\Ci t/\(Ad t.data.toList).length≠1):=⟨hR,hw,ht,hwt⟩;have HR2:Hid (r2=t::r3):=hr2;clear hR hw ht hwt hr2;clear h hx hs;go_enter Tryz.func112,Tryz.ntmps112;go_wp2_with fail;refine(BQ A (x::r) 5 x r w H.out.1 H.out.2.1.kind rfl).mono ?_;rintro _ w1 ⟨rfl,hr1,hg1⟩;obtain⟨W1,hW1⟩:∃W,w1.alloc (.cells #[.int .i64 5,.string x] 105)=W:=⟨_,rfl⟩;have HG:Hid (w.grownBy W1 (some A)/\Rd A r W1):=by rw[<-hW1];exact⟨Ap hg1 _,hr1.alloc _⟩
 have hA1:=hr1.lt;have hW:W1.heap.size=w1.heap.size+1:=by rw[<-hW1];simp
 have c0:W1.cell? ⟨w1.heap.size,0,none⟩=some (.int .i64 5):=by rw[<-hW1];simp[go_sem]
 have c1:W1.cell? ⟨w1.heap.size,1,none⟩=some (.string x):=by rw[<-hW1];simp[go_sem]
 obtain⟨k,xk,hk3,hk,hpk⟩:∃k x,k≠3/\AJ r=(k,x)/\(⟨r,0⟩:Rst).peek≠Ao:=by
  rcases Ft HG.out.2.2 with⟨_,r',e,_⟩|h
  ·exact absurd (show(⟨r,0⟩:Rst).peek=Ao by rw[e];rfl) HS.out
  ·exact h
 have c2:W1.cell? ⟨A,0,none⟩=some (.int .i64 k):=by have:=HG.out.2.1.1.1;rw[hk]at this;exact this
 have j3:(k == 3)=false:=by simpa using hk3
 clear hk hk3 hpk;clear hr1 hg1
 go_wp2_with first|(go_at_call 41;refine(BE _).mono ?_;rintro _ w0 ⟨rfl,hw0⟩;obtain rfl:=hw0.symm)|(go_at_call 162;refine(Dc x false H.out.2.2 _).mono ?_;rintro _ w0 ⟨rfl,hw0⟩;obtain rfl:=hw0.symm)|fail
 refine(E4 x y W1 (by have:=H.out.2.1.size;omega) HG.out.2.ends HR.out.2.1).mono ?_;rintro e w3 ⟨rfl,hb3⟩;have HG3:Hid (w.grownBy w3 (some A)/\Rd A r w3):=⟨HG.out.1.trans (Ac hb3 _),HG.out.2.below hb3⟩;clear hb3 c0 c1 c2 hW1;go_wp2_with fail;refine(En A r At w3 HG3.out.2 G9 (by decide) (by rw[HN.out];rfl)).mono ?_;rintro e w4 ⟨rfl,hr4,hg4⟩;rw[HN.out,List.tail_cons]at hr4;have HG4:Hid (w.grownBy w4 (some A)/\Rd A r2 w4):=⟨HG3.out.1.trans hg4,hr4⟩;clear hr4 hg4;go_wp2_with fail;refine(BQ A r2 5 t r3 w4 HG4.out.2 (by rw[HR2.out];exact HR.out.2.2.1.kind) (by rw[HR2.out];rfl)).mono ?_;rintro _ w5 ⟨rfl,hr5,hg5⟩;obtain⟨W5,hW5⟩:∃W,w5.alloc (.cells #[.int .i64 5,.string t] 105)=W:=⟨_,rfl⟩;have HG5:Hid (w.grownBy W5 (some A)/\Rd A r3 W5):=by rw[<-hW5];exact⟨Ap (HG4.out.1.trans hg5) _,hr5.alloc _⟩
 have g0:W5.cell? ⟨w5.heap.size,0,none⟩=some (.int .i64 5):=by rw[<-hW5];simp[go_sem]
 have g1:W5.cell? ⟨w5.heap.size,1,none⟩=some (.string t):=by rw[<-hW5];simp[go_sem]
 clear hr5 hg5
 go_wp2_with first|(go_at_call 41;refine(BE _).mono ?_;rintro _ w0 ⟨rfl,hw0⟩;obtain rfl:=hw0.symm)|fail
 refine(JP t W5 (by have:=HR.out.2.2.1.size;omega) HG5.out.2.ends HR.out.2.2.2).mono ?_;rintro e w6 ⟨rfl,hb6⟩;have HG6:Hid (w.grownBy w6 (some A)):=HG5.out.1.trans (Ac hb6 _);clear hb6 g0 g1 hW5;go_wp2;exact⟨rfl,Out.thrown HR.out.1 (by decide) HG6.out⟩
theorem Mp (A:Nat) (d:Int) (x:ByteArray) (r:List ByteArray) (w:World) (R:Qy×Rst) (h:Rd A (x::r) w) (hd:¬12<d) (hx:Ci x) (hs:BX x=false) (r2:List ByteArray) (hn:r=At::r2) (t:ByteArray) (r3:List ByteArray) (hr2:r2=t::r3) (ht:Ci t) (y z:ByteArray) (hw:Ad x.data.toList=[y]) (hwt:Ad t.data.toList=[z]) (hR:R=(.node 3 [y,z] .nil .nil,⟨r3,0⟩)):KH A d w R:=by
 show Calls _ _ _ _ _;have H:Hid (Rd A (x::r) w/\Ci x/\BX x=false):=⟨h,hx,hs⟩;have HN:Hid (r=At::r2):=hn;have HS:Hid ((⟨r,0⟩:Rst).peek≠Ao):=by show ¬_;rw[hn];exact(show ¬At=Ao by decide)
 clear hn;have HR:Hid (R=(.node 3 [y,z] .nil .nil,⟨r3,0⟩)/\Ad x.data.toList=[y]/\Ci t/\Ad t.data.toList=[z]):=⟨hR,hw,ht,hwt⟩;have HR2:Hid (r2=t::r3):=hr2;clear hR hw ht hwt hr2;clear h hx hs;go_enter Tryz.func112,Tryz.ntmps112;go_wp2_with fail;refine(BQ A (x::r) 5 x r w H.out.1 H.out.2.1.kind rfl).mono ?_;rintro _ w1 ⟨rfl,hr1,hg1⟩;obtain⟨W1,hW1⟩:∃W,w1.alloc (.cells #[.int .i64 5,.string x] 105)=W:=⟨_,rfl⟩;have HG:Hid (w.grownBy W1 (some A)/\Rd A r W1):=by rw[<-hW1];exact⟨Ap hg1 _,hr1.alloc _⟩
 have hA1:=hr1.lt;have hW:W1.heap.size=w1.heap.size+1:=by rw[<-hW1];simp
 have c0:W1.cell? ⟨w1.heap.size,0,none⟩=some (.int .i64 5):=by rw[<-hW1];simp[go_sem]
 have c1:W1.cell? ⟨w1.heap.size,1,none⟩=some (.string x):=by rw[<-hW1];simp[go_sem]
 obtain⟨k,xk,hk3,hk,hpk⟩:∃k x,k≠3/\AJ r=(k,x)/\(⟨r,0⟩:Rst).peek≠Ao:=by
  rcases Ft HG.out.2.2 with⟨_,r',e,_⟩|h
  ·exact absurd (show(⟨r,0⟩:Rst).peek=Ao by rw[e];rfl) HS.out
  ·exact h
 have c2:W1.cell? ⟨A,0,none⟩=some (.int .i64 k):=by have:=HG.out.2.1.1.1;rw[hk]at this;exact this
 have j3:(k == 3)=false:=by simpa using hk3
 clear hk hk3 hpk;clear hr1 hg1
 go_wp2_with first|(go_at_call 41;refine(BE _).mono ?_;rintro _ w0 ⟨rfl,hw0⟩;obtain rfl:=hw0.symm)|(go_at_call 162;refine(Dc x false H.out.2.2 _).mono ?_;rintro _ w0 ⟨rfl,hw0⟩;obtain rfl:=hw0.symm)|fail
 refine(E4 x y W1 (by have:=H.out.2.1.size;omega) HG.out.2.ends HR.out.2.1).mono ?_;rintro e w3 ⟨rfl,hb3⟩;have HG3:Hid (w.grownBy w3 (some A)/\Rd A r w3):=⟨HG.out.1.trans (Ac hb3 _),HG.out.2.below hb3⟩;clear hb3 c0 c1 c2 hW1;go_wp2_with fail;refine(En A r At w3 HG3.out.2 G9 (by decide) (by rw[HN.out];rfl)).mono ?_;rintro e w4 ⟨rfl,hr4,hg4⟩;rw[HN.out,List.tail_cons]at hr4;have HG4:Hid (w.grownBy w4 (some A)/\Rd A r2 w4):=⟨HG3.out.1.trans hg4,hr4⟩;clear hr4 hg4;go_wp2_with fail;refine(BQ A r2 5 t r3 w4 HG4.out.2 (by rw[HR2.out];exact HR.out.2.2.1.kind) (by rw[HR2.out];rfl)).mono ?_;rintro _ w5 ⟨rfl,hr5,hg5⟩;obtain⟨W5,hW5⟩:∃W,w5.alloc (.cells #[.int .i64 5,.string t] 105)=W:=⟨_,rfl⟩;have HG5:Hid (w.grownBy W5 (some A)/\Rd A r3 W5):=by rw[<-hW5];exact⟨Ap (HG4.out.1.trans hg5) _,hr5.alloc _⟩
 have g0:W5.cell? ⟨w5.heap.size,0,none⟩=some (.int .i64 5):=by rw[<-hW5];simp[go_sem]
 have g1:W5.cell? ⟨w5.heap.size,1,none⟩=some (.string t):=by rw[<-hW5];simp[go_sem]
 clear hr5 hg5
 go_wp2_with first|(go_at_call 41;refine(BE _).mono ?_;rintro _ w0 ⟨rfl,hw0⟩;obtain rfl:=hw0.symm)|fail
 refine(E4 t z W5 (by have:=HR.out.2.2.1.size;omega) HG5.out.2.ends HR.out.2.2.2).mono ?_;rintro e w6 ⟨rfl,hb6⟩;have HG6:Hid (w.grownBy w6 (some A)/\Rd A r3 w6):=⟨HG5.out.1.trans (Ac hb6 _),HG5.out.2.below hb6⟩;clear hb6 g0 g1 hW5;go_wp2;go_ret;exact Out.made HR.out.1 (Ap (Ap HG6.out.1 _) _) (MQ.boxAt (by simp) (by simp;have:=HG6.out.2.lt;omega) 3 _ none none [y,z] .nil .nil (Qu y z HG6.out.2.lt) rfl rfl 3 rfl) ((HG6.out.2.alloc _).alloc _)
def Wx (w:World) (A:Nat):Nat:=match w.cell? ⟨A,0,none⟩,w.cell? ⟨A,2,none⟩with
 |some (.int _ k),some (.string t)=>if k=0 then 0 else((pcs t.data.toList.length t.data.toList).getD []).length+1
 |_,_=>0
theorem QF (x:ByteArray):(DU x).1≠0:=by
 unfold DU;split
 ·decide
 ·split
  ·decide
  ·split
   ·decide
   ·split<;>simp
theorem G8 {A:Nat} {l:List ByteArray} {w:World} (h:Rd A l w):Wx w A=l.length:=by
 obtain⟨⟨⟨h1,_,t,h3,_,h5⟩,_⟩,_⟩:=h;unfold Wx;rw[h1,h3];simp only
 cases l with
 |nil=>exact if_pos rfl
 |cons x r=>
  rw[if_neg (show ¬(AJ (x::r)).1=0 from QF x)];have:pcs t.data.toList.length t.data.toList=some r:=h5;rw[this];rfl
def RP (A:Nat) (w:World) (p:Option Addr) (q:Qy) (l:List ByteArray) (wx:World):Prop:=MQ A wx p q/\Rd A l wx/\w.grownBy wx (some A)
theorem RP.to {A:Nat} {w:World} {p:Option Addr} {q:Qy} {l l':List ByteArray} {wx wy:World} (h:RP A w p q l wx) (ha:Rd A l' wy) (hg:wx.grownBy wy (some A)):RP A w p q l' wy:=⟨MQ.grown hg q h.1,ha,h.2.2.trans hg⟩
theorem RP.box {A:Nat} {w:World} {p p':Option Addr} {q q':Qy} {l:List ByteArray} {wx:World} (h:RP A w p q l wx) (h':MQ A wx p' q') (k:Int) (hk:LD k=0):
  RP A w (some ⟨wx.heap.size,0,none⟩) (.node k [] q q') l (wx.alloc (.cells #[.int .i64 k,.slice none 0 0,.int .i64 0,.pointer p,.pointer p'] 144)):=
 ⟨MQ.box h.2.1.lt k _ p p' [] q q' (DA A wx) h.1 h' 0 hk,h.2.1.alloc _,Ap h.2.2 _⟩
theorem OA (all:Rst->Qy×Rst) (f:Nat) (q:Qy) (s:Rst) (h:s.bad≠0):El all f q s=(q,s):=by
 cases f with
 |zero=>rfl
 |succ f=>rw[El,Ca (by rw[G2 h];decide)];rfl
theorem Ir (one:Rst->Qy×Rst) (f:Nat) (q:Qy) (s:Rst) (h:s.bad≠0):CW one f q s=(q,s):=by
 cases f with
 |zero=>rfl
 |succ f=>rw[CW,if_neg (by rw[G2 h];decide)]
theorem F4 {s:Rst} (h:s.bad=0):∃l,s=⟨l,0⟩:=⟨s.l,by cases s;simp only at h;rw[h]⟩
theorem Ia (l:List ByteArray):(⟨l,0⟩:Rst).nu=l.length:=rfl
theorem NJ (one:Rst->Qy×Rst) (d:Int) (hO:DJ 77 (Dz one) d) (hn:∀s,(one s).2.nu<=s.nu):DJ 44 (EH one) d:=by
 intro A l w h;have HO:Hid (DJ 77 (Dz one) d):=hO;have HN:Hid (∀s,(Dz one s).2.nu<=s.nu):=fun s=>Nat.le_trans (Jp hn s) (hn s);have H:Hid (Rd A l w):=h;clear hO hn h;obtain⟨R,hR⟩:∃R,EH one ⟨l,0⟩=R:=⟨_,rfl⟩;have HR:Hid (El (Dz one) (Dz one ⟨l,0⟩).2.nu (Dz one ⟨l,0⟩).1 (Dz one ⟨l,0⟩).2=R):=hR;rw[hR];clear hR;obtain⟨all,hall⟩:∃g,Dz one=g:=⟨_,rfl⟩;rw[hall]at HO HN HR;clear hall;obtain⟨q1,s1,hqs⟩:∃q s,all ⟨l,0⟩=(q,s):=⟨_,_,rfl⟩;have HQ:Hid (all ⟨l,0⟩=(q1,s1)):=hqs;rw[hqs]at HR;clear hqs;go_enter Tryz.func44,Tryz.ntmps44;go_wp2_with fail;refine(HO.out A l w H.out).mono ?_;rintro e w1 ⟨hg1,hcase⟩;rw[HQ.out]at hcase;have HG1:Hid (w.grownBy w1 (some A)):=hg1;clear hg1 H;rcases hcase with⟨hb,p1,rfl,hq1,hr1⟩|⟨hb,rfl⟩
 ·simp only at hb hq1 hr1
  obtain⟨l1,rfl⟩:=F4 hb;have HE:Hid (RP A w p1 q1 l1 w1):=⟨hq1,hr1,HG1.out⟩;clear hb hq1 hr1 HG1 HQ;go_wp2;go_loopw [5] (fun v wr=>∃(p:Option Addr) (q:Qy) (l:List ByteArray) (f:Nat),v= .pointer p/\Hid (RP A w p q l wr)/\Hid (El all f q ⟨l,0⟩=R/\l.length<=f)) (fun _ wr=>Wx wr A)
  case atStart=>exact⟨p1,q1,l1,l1.length,rfl,HE,HR.out,Nat.le_refl _⟩
  case round=>
   clear HE HR;obtain⟨p,q,l,f,rfl,HE,hz⟩:=hrel;have hmu:=G8 HE.out.2.1
   by_cases hg:(⟨l,0⟩:Rst).peek=tOr
   ·obtain⟨_,l2,hl2⟩:=CL (s:=⟨l,0⟩) (by rw[hg];decide)
    rw[hg]at hl2;simp only at hl2
    obtain⟨f',rfl⟩:∃f',f=f'+1:=by
     cases f with
     |zero=>have:=hz.out.2;rw[hl2]at this;simp at this
     |succ f=>exact⟨f,rfl⟩
    have ht:(⟨l,0⟩:Rst).take tOr=(true,⟨l2,0⟩):=by rw[AH hg,hl2];rfl
    obtain⟨q4,s4,hqs⟩:∃q s,all ⟨l2,0⟩=(q,s):=⟨_,_,rfl⟩
    have HZ2:Hid (El all f' (.node 5 [] q q4) s4=R):=by
     have h0:=hz.out.1;rw[El,ht]at h0;simp only[if_true]at h0;rw[hqs]at h0;exact h0
    have hnf:l2.length+1<=f'+1:=by have:=hz.out.2;rw[hl2]at this;exact this
    have hll:l.length=l2.length+1:=by rw[hl2];rfl
    have hlt2:s4.nu<=l2.length:=by have:=HN.out ⟨l2,0⟩;rw[hqs]at this;exact this
    have HT:Hid ((⟨l,0⟩:Rst).peek=tOr/\l.tail=l2/\all ⟨l2,0⟩=(q4,s4)):=⟨hg,by rw[hl2];rfl,hqs⟩;clear hz hg ht hl2 hqs;go_wp2_with fail;refine(En A l tOr wr HE.out.2.1 QE (by decide) HT.out.1).mono ?_;rintro _ w3 ⟨rfl,ha3,hg3⟩;rw[HT.out.2.1]at ha3;have HE3:Hid (RP A w p q l2 w3):=RP.to HE.out ha3 hg3;clear ha3 hg3 HE;go_wp2_with fail;refine(HO.out A l2 w3 HE3.out.2.1).mono ?_;rintro e w4 ⟨hg4,hcase⟩;rw[HT.out.2.2]at hcase;rcases hcase with⟨hb,p4,rfl,hq4,hr4⟩|⟨hb,rfl⟩
    ·simp only at hb hq4 hr4
     obtain⟨l4,rfl⟩:=F4 hb;have HE5:Hid (RP A w (some ⟨w4.heap.size,0,none⟩) (.node 5 [] q q4) l4 (w4.alloc (.cells #[.int .i64 5,.slice none 0 0,.int .i64 0,.pointer p,.pointer p4] 144))):=(RP.to HE3.out hr4 hg4).box hq4 5 rfl;rw[Ia]at hlt2;clear hb hq4 hr4 hg4 HE3 HT;go_wp2;go_roundw
     case rel=>exact⟨_,_,l4,f',rfl,HE5,HZ2.out,by omega⟩
     case measure=>rw[hmu,G8 HE5.out.2.1];omega
    ·simp only at hb
     have HB:Hid (R.2.bad=s4.bad/\s4.bad≠0/\w.grownBy w4 (some A)):=⟨by rw[<-HZ2.out,OA _ _ _ _ hb],hb,HE3.out.2.2.trans hg4⟩;clear hb hg4 HE3 HT HZ2;go_wp2;exact⟨rfl,Out.thrown HB.out.1 HB.out.2.1 HB.out.2.2⟩
   ·have e:(q,(⟨l,0⟩:Rst))=R:=by
     rw[<-hz.out.1]
     cases f with
     |zero=>rfl
     |succ f=>rw[El,Ca hg];rfl
    subst e;have HG:Hid ((⟨l,0⟩:Rst).peek≠tOr):=hg;clear hz hg;go_wp2_with fail;refine(Fi A l tOr wr HE.out.2.1 QE (by decide) HG.out).mono ?_;rintro _ w3 ⟨rfl,ha3,hg3⟩;have HE3:Hid (RP A w p q l w3):=RP.to HE.out ha3 hg3;clear ha3 hg3 HE;go_wp2;go_ret;exact Out.made rfl HE3.out.2.2 HE3.out.1 HE3.out.2.1
 ·simp only at hb
  have HB:Hid (R.2.bad=s1.bad/\s1.bad≠0):=⟨by rw[<-HR.out,OA _ _ _ _ hb],hb⟩;clear hb HR;go_wp2;exact⟨rfl,Out.thrown HB.out.1 HB.out.2 HG1.out⟩
end
end Go.Proofs.YtgfldnaahojnlaaGreatDoor
