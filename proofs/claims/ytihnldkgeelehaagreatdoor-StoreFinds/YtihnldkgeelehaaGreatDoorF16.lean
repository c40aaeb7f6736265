/- StoreFinds: part 16. -/
import Derived.Test.YtihnldkgeelehaaGreatDoorF13
import Derived.Test.YtihnldkgeelehaaGreatDoorF15
set_option maxRecDepth 100000
set_option maxHeartbeats 4000000
namespace Go.Proofs.YtihnldkgeelehaaGreatDoor
section
open Go.RowKit Go.Maps
def En (bp bd bm N r:Nat) (s:St) (up:Nat->Bool) (cm:Int) (V:Pst) (T:Tr) (A nw C:List Pr) (w:World) (e:Ending) (w':World):Prop:=
 (30000<szL (A++nw++C)/\e= .returned (.iface 101 (.int .i64 12))/\Below w.heap.size w w')\/
 (szL (A++nw++C)<=30000/\e= .returned .nilIface/\∃V' N' T',T'.all=A++nw++C/\QM V V' r T T'/\Tw bp bd bm N' s up cm V' w'/\N'<=N+40/\Aa (fun b=>b=bp\/b=bm) w w')
theorem OC (x y:ByteArray) (h:x.size+y.size<=1000000):Op.stringOp .add x y=pure (.string (x++y)):=by
 have hn:¬(((x.size+y.size:Nat):Int) > IntKind.i64.max):=by
  have:IntKind.i64.max=9223372036854775807:=by decide
  omega
 simp only[Op.stringOp,if_neg hn]
theorem RE {M:List (List Pr)} (h:M≠[]):AR M≠[]:=by
 rcases BH M with rfl|⟨M',x,rfl⟩
 ·exact absurd rfl h
 ·rw[Jl]
  rcases BH (AR M')with e|⟨l',y,e⟩
  ·rw[e,F1];simp
  ·rw[e,BJ]
   split<;>simp
section
variable {bt bp bd bm N r:Nat} {s:St} {up:Nat->Bool} {cm:Int} {V:Pst} {w:World}
theorem Mk {l:List Pr} (h:szL l=0):l=[]:=by
 cases l with
 |nil=>rfl
 |cons x r=>rw[szL]at h;unfold Pr.sz at h;omega
theorem JE (hT:Tt bt bp r w) (h:Tw bp bd bm N s up cm V w) (hne:bt≠bp/\bt≠bm) {T:Tr} (hA:Ck V r T) {B0:Nat} {vk:Value} (hk:Ao B0 vk (At T.ks) w) (hB0:bp<B0/\bm<B0) {key txt:ByteArray} {l a b:Nat} {A mid C:List Pr} (hS:Un T key txt l a b A mid C) (hl:l<T.Ls.length\/(T.Ls=[]/\l=0))
  {nw:List Pr} (hnw:nw=[]\/∃x,nw=[x]/\x.k=key) (hnok:∀x∈nw,x.Ok) (hcnt:A1 V.used 2000+30<1999) (hN:N+60<1000000):
  Calls Tryz.prog 123 #[.pointer (some ⟨bt,0,none⟩),.agg #[.int .i64 (T.top:Nat),vk,.int .i64 (l:Nat),.string txt,.int .i64 (a:Nat),.int .i64 (b:Nat)],.string (Al nw)] w fun e w'=>En bp bd bm N r s up cm V T A nw C w e w':=by
 have HA:Hid _:=hA;have HS:Hid _:=hS;have HNW:Hid _:=hnw;have HNOK:Hid _:=hnok;have HLL:Hid _:=hl;have hlt:=h.lt;have hltt:=hT.lt;obtain⟨a9,cap9,hv9,_⟩:=hk.is;rw[Ak]at hv9;obtain⟨n9,hn9⟩:∃n,T.ks.length=n:=⟨_,rfl⟩;rw[hn9]at hv9;subst hv9;have HN9:Hid (T.ks.length=n9):=hn9;have hn9b:n9<=59:=by have:=hA.ok.len;have:=hA.len;omega
 have hl59:l<=59:=by
  rcases hl with h1|h1
  ·have:=hA.ok.len;omega
  ·omega
 have hb0:Below w.heap.size w (w.alloc (.cells #[.int .i64 (T.top:Nat),.slice a9 n9 cap9,.int .i64 (l:Nat),.string txt,.int .i64 (a:Nat),.int .i64 (b:Nat)] 204)):=(Below.refl _ w).alloc (Nat.le_refl _) _;obtain⟨W0,hW0⟩:∃W0,w.alloc (.cells #[.int .i64 (T.top:Nat),.slice a9 n9 cap9,.int .i64 (l:Nat),.string txt,.int .i64 (a:Nat),.int .i64 (b:Nat)] 204)=W0:=⟨_,rfl⟩;rw[hW0]at hb0;have HV6:Hid (Cj w.heap.size [.int .i64 (T.top:Nat),.slice a9 n9 cap9,.int .i64 (l:Nat),.string txt,.int .i64 (a:Nat),.int .i64 (b:Nat)] W0.drew):=by rw[<-hW0];exact(Cj.new6 w _ _ _ _ _ _ 204).below (Below.refl _ _).drew
 have HB0:Hid (Below w.heap.size w W0.drew):=hb0.drew;have HT0:Hid (Tt bt bp r W0.drew):=hT.below HB0.out;have HTW0:Hid (Tw bp bd bm N s up cm V W0.drew):=h.below HB0.out;have HK0:Hid (Ao B0 (.slice a9 n9 cap9) (At T.ks) w):=hk;obtain⟨S,hSm⟩:∃S:Nat,V.rn r=(S:Nat):=⟨_,hA.rn⟩;have hSe:S=szL T.all:=by have:=hA.rn;rw[hSm]at this;exact Int.ofNat.inj this
 have hS3:S<=30000:=by rw[hSe];exact hA.ok.sum
 have hAll:szL T.all=szL A+szL mid+szL C:=by rw[hS.chg.all,Af,Af]
 have hab:=hS.ab;have hbt:=hS.ts;have htsz:=hS.sz;obtain⟨p,hp⟩:∃p,szL nw=p:=⟨_,rfl⟩;have hps:(Al nw).size=p:=by rw[AF];exact hp
 have hp3:p<=162:=by rw[<-hp];exact Lm hnw hnok
 obtain⟨q,hq⟩:∃q,szL (A++nw++C)=q:=⟨_,rfl⟩;have hqe:q=szL A+p+szL C:=by rw[<-hq,Af,Af,hp]
 have hqi:(S:Int)-((b:Int)-(a:Int))+(p:Int)=(q:Int):=by omega
 have HQ:Hid (szL (A++nw++C)=q):=hq;have HSM:Hid (V.rn r=(S:Nat)):=hSm;have hq3:q<=31000:=by omega
 have hw1:IntKind.i64.wrap ((b:Int)-(a:Int))=(b:Int)-(a:Int):=by rw[IntKind.wrap_i64];omega
 have hw2:IntKind.i64.wrap ((S:Int)-((b:Int)-(a:Int)))=(S:Int)-((b:Int)-(a:Int)):=by rw[IntKind.wrap_i64];omega
 have hw3:IntKind.i64.wrap (q:Int)=(q:Int):=by rw[IntKind.wrap_i64];omega
 have C0:Hid (W0.drew.cell? ⟨w.heap.size,4,none⟩=some (.int .i64 (a:Nat))/\W0.drew.cell? ⟨w.heap.size,5,none⟩=some (.int .i64 (b:Nat))):=⟨HV6.out.cell 4 (by simp),HV6.out.cell 5 (by simp)⟩;obtain⟨PB,hPB⟩:∃PB,Al nw=PB:=⟨_,rfl⟩;rw[hPB]at hps;rw[hPB];have HPB:Hid (Al nw=PB):=hPB;have hable:a<=b:=by omega
 clear hA hS hnw hnok hT h hk hb0 hab hn9 hSm hSe hAll hq hqe hp hl hPB;go_enter Tryz.func123,Tryz.ntmps123;go_wp2_with fail
 go_region_held3 (fun wx=>wx.cell? ⟨w.heap.size,4,none⟩=some (.int .i64 (a:Nat))/\wx.cell? ⟨w.heap.size,5,none⟩=some (.int .i64 (b:Nat))) (first|exact C0.out|exact C1.out) (first|(go_at_call 172;refine(SS HT0.out HTW0.out).mono ?_;rintro _ w1 ⟨rfl,hb1⟩;rw[HSM.out];have HB1:Hid (Below W0.drew.heap.size W0.drew w1):=hb1;have C1:Hid (w1.cell? ⟨w.heap.size,4,none⟩=some (.int .i64 (a:Nat))/\w1.cell? ⟨w.heap.size,5,none⟩=some (.int .i64 (b:Nat))):=⟨Ae hb1 C0.out.1,Ae hb1 C0.out.2⟩;clear hb1))
 have HBW:Hid (Below w.heap.size w w1):=HB0.out.trans (HB1.out.mono HB0.out.size);have HT1:Hid (Tt bt bp r w1):=HT0.out.below HB1.out;have HTW1:Hid (Tw bp bd bm N s up cm V w1):=HTW0.out.below HB1.out;have HV61:Hid _:=HV6.out.below HB1.out;clear hw1 hw2 hw3 hqi C0 C1 hW0 HT0 HTW0 HV6 HB0 HB1
 by_cases hbig:30000<q
 ·have hbi:(30000:Int)<(q:Int):=by omega
  go_wp2;go_ret;exact .inl ⟨by rw[HQ.out];exact hbig,rfl,HBW.out⟩
 have hbi:¬(30000:Int)<(q:Int):=by omega
 by_cases hzero:q=0
 ·have hz:(q:Int)=0:=by omega
  have HZ:Hid (A++nw++C=[]):=Mk (by rw[HQ.out];exact hzero);clear hzero;go_wp2_with fail;refine(QE HT1.out HTW1.out hne HA.out hcnt hN).mono ?_;rintro _ w2 ⟨rfl,V',N',T',h1,h2,h3,h4,h5⟩;have HR:Hid (En bp bd bm N r s up cm V T A nw C w (.returned .nilIface) w2):= .inr ⟨by rw[HQ.out];omega,rfl,V',N',T',by rw[HZ.out];unfold Tr.all;rw[h1];rfl,h2,h3,h4,(Ab HBW.out _).trans h5 (fun i hi=> .inl hi)⟩;clear h1 h2 h3 h4 h5;go_wp2;go_ret;exact HR.out
 have hz:¬(q:Int)=0:=by omega
 have HMEM:Hid _:=HS.out.mem nw HNW.out HNOK.out (fun e=>hzero (by rw[<-HQ.out,e];rfl)) (by rw[HQ.out];omega);obtain⟨L',hL1,hL2,hL3,hL4⟩:=HMEM.out;rw[HPB.out]at hL1;have HL2:Hid _:=hL2;have HL4:Hid _:=hL4;clear HMEM hL2 hL4;obtain⟨f,hf⟩:∃f,l-1=f:=⟨_,rfl⟩;obtain⟨t,ht⟩:∃t,min (l+2) n9=t:=⟨_,rfl⟩;have HLN:Hid (T.Ls.length=n9):=by show _=_;rw[<-HA.out.len,HN9.out]
 have hlr:l<n9\/(n9=0/\l=0):=by
  rcases HLL.out with h1|⟨h1,h2⟩
  ·rw[HLN.out]at h1;exact .inl h1
  ·have:=HLN.out;rw[h1]at this;exact .inr ⟨this.symm,h2⟩
 have hft:f<=t:=by omega
 have htn:t<=n9:=by omega
 have HFT:Hid (l-1=f/\min (l+2) n9=t):=⟨hf,ht⟩;have q1:=HV61.out.cell 1 (by simp);have q2:=HV61.out.cell 2 (by simp);simp only[List.getElem_cons_succ,List.getElem_cons_zero]at q1 q2
 go_upto_region 6 with fail
 go_cut [8,9] (fun x y wx=>x= .int .i64 (f:Nat)/\y= .int .i64 (t:Nat)/\Hid (Below w1.heap.size w1 wx))
 case first=>
  rcases Nat.eq_zero_or_pos l with hl0|hl0
  ·subst hl0
   obtain rfl:f=0:=by omega
   rcases Nat.lt_or_ge n9 2 with hn|hn
   ·obtain rfl:t=n9:=by omega
    have i1:(t:Int)<2:=by omega
    clear hf ht hlr hft htn;go_quiet (fail);go_wp2_with fail;go_meet
    case rel=>exact⟨rfl,by congr 1;omega,A4 (Below.refl _ _) nq⟩
   ·obtain rfl:t=2:=by omega
    have i1:¬(n9:Int)<2:=by omega
    clear hf ht hlr hft htn;go_quiet (fail);go_wp2_with fail;go_meet
    case rel=>exact⟨rfl,by congr 1;omega,A4 (Below.refl _ _) nq⟩
  ·have i2:¬(0:Int) > (l:Int)-1:=by omega
   have i3:¬(l:Int)<1:=by omega
   have e1:(l:Int)-1=(f:Int):=by omega
   rcases Nat.lt_or_ge n9 (l+2)with hn|hn
   ·obtain rfl:t=n9:=by omega
    have i1:(t:Int)<(l:Int)+2:=by omega
    clear hf ht hlr hft htn;go_quiet (fail);go_wp2_with fail;go_meet
    case rel=>exact⟨rfl,by congr 1;omega,A4 (Below.refl _ _) nq⟩
   ·obtain rfl:t=l+2:=by omega
    have i1:¬(n9:Int)<(l:Int)+2:=by omega
    clear hf ht hlr hft htn;go_quiet (fail);go_wp2_with fail;go_meet
    case rel=>exact⟨rfl,by congr 1;omega,A4 (Below.refl _ _) nq⟩
 case rest=>
 obtain⟨rfl,rfl,HBC⟩:=hcut;have HT2:Hid (Tt bt bp r wc):=HT1.out.below HBC.out;have HTW2:Hid (Tw bp bd bm N s up cm V wc):=HTW1.out.below HBC.out;have HBW2:Hid (Below w.heap.size w wc):=HBW.out.trans (HBC.out.mono HBW.out.size);have HV62:Hid _:=HV61.out.below HBC.out;have HK2:Hid (Ao B0 (.slice a9 n9 cap9) (At T.ks) wc):=HK0.out.below HBW2.out;have hszc:w.heap.size<wc.heap.size:=HV62.out.lt;obtain⟨w2,hw2⟩:∃w2,w2=wc:=⟨_,rfl⟩;rw[<-hw2]at HT2 HTW2 HBW2 HV62 HK2 hszc;rw[<-hw2];clear hw2 HBC HT1 HTW1 HBW HV61 q1 q2;obtain⟨W3,hW3⟩:∃W3,w2.alloc (.cells #[.slice none 0 0] 85)=W3:=⟨_,rfl⟩;have hb3:Below w2.heap.size w2 W3:=by rw[<-hW3];exact(Below.refl _ w2).alloc (Nat.le_refl _) _
 have HTV0:Hid (Vp w2.heap.size [] W3):=⟨.slice none 0 0,by rw[<-hW3];exact Ai.new w2 _ _,World.ownsRow_nil _ _ _ _⟩;have HB3:Hid (Below w2.heap.size w2 W3):=hb3;obtain⟨v50,hv50,hc50⟩:=HK2.out.cut f t hft (by rw[Ak,HN9.out];exact htn);have hs50:∀wx,(Instr.slice 69 (.slice a9 n9 cap9) (some (.int .i64 (f:Nat))) (some (.int .i64 (t:Nat))) none).run Tryz.prog wx= .ok v50 wx:=fun wx=>(hc50 Tryz.underlying69 C6 DD (f:Nat) (t:Nat) rfl rfl wx).1;have e50:((At T.ks).drop f).take (t-f)=At ((T.ks.drop f).take (t-f)):=by unfold At;rw[List.map_take,List.map_drop]
 rw[e50]at hv50;have HV50:Hid (Ao B0 v50 (At ((T.ks.drop f).take (t-f))) w2):=hv50;obtain⟨a50,c50,hw50,_⟩:=hv50.is;generalize (At ((T.ks.drop f).take (t-f))).length=n50 at hw50;subst hw50;have hmf:∀(fn:Fn) (first cap:Array Value) (w:World),(Instr.makeFunc fn first cap).run Tryz.prog w= .ok (.func fn first cap) w:=fun _ _ _ _=>rfl;have p1:=HV62.out.cell 1 (by simp);simp only[List.getElem_cons_succ,List.getElem_cons_zero]at p1;have p2:=Ae hb3 p1;clear hv50 hc50 e50 hb3 p1;go_wp2_with fail;obtain⟨Lw,hLw⟩:∃Lw,(T.Ls.drop f).take (t-f)=Lw:=⟨_,rfl⟩;have HLw:Hid ((T.Ls.drop f).take (t-f)=Lw):=hLw;have hwl:((T.ks.drop f).take (t-f)).length=Lw.length:=by rw[<-hLw,List.length_take,List.length_take,List.length_drop,List.length_drop,HA.out.len]
 have HLwl:Hid (Lw.length=t-f):=by show _=_;rw[<-hLw,List.length_take,List.length_drop,HLN.out];omega
 have hszW3:w2.heap.size<W3.heap.size:=by rw[<-hW3];simp
 refine(Jq (N:=N) (s:=s) (up:=up) (cm:=cm) (V:=V) (bp:=bp) (bd:=bd) (bm:=bm) (r:=r) (B:=B0) hwl (by rw[hwl,HLwl.out];omega) (fun k hk=>(HA.out.low k (List.mem_of_mem_drop (List.mem_of_mem_take hk))).2) (fun i hi hl=> ?_)
  (fun i wx=>(∃v,Ai w2.heap.size v wx/\Cl (w2.heap.size+1) v ((Lw.take i).map Al) wx/\(i=0->v= .slice none 0 0))/\Below w2.heap.size w2 wx) (fun _=>False) (fun i wx hh=> ?_) (fun i wx wy hh hb=> ?_) (enters_of Tryz.func174 (by kernel_rfl) rfl) (fun i hi wx hh=> ?_) _ ⟨?_,HB3.out⟩).mono ?_
 ·have hi2:f+i<T.Ls.length:=by
   have h9:=HLwl.out;have h8:=HLN.out;omega
  have:=HA.out.leaf (i:=f+i) hi2;subst hLw;simpa using this
 ·exact⟨HT2.out.below hh.2,HTW2.out.below hh.2,HV50.out.below hh.2⟩
 ·obtain⟨⟨v,h1,h2,h3⟩,h4⟩:=hh
  exact⟨⟨v,h1.below hb,Aw h2 (Ab hb (fun _=>False)) (fun _ e=>e.elim),h3⟩,h4.trans (hb.mono h4.size)⟩
 ·obtain⟨⟨v,h1,h2,h3⟩,h4⟩:=hh
  refine(QG wx ⟨v,h1,h2⟩ (by rw[List.length_map,List.length_take];have:=HLwl.out;omega) (Al Lw[i])).mono ?_;rintro _ w' ⟨rfl,⟨v',g1,g2⟩,g3⟩;refine⟨true,rfl,⟨v',g1,?_,fun e=>by omega⟩,h4.trans g3⟩;rw[List.take_succ_eq_append_getElem hi,List.map_append];exact g2
 ·obtain⟨v,h1,h2⟩:=HTV0.out
  have hv0:v= .slice none 0 0:=by
   have c9:=h1.cell;rw[<-hW3,(Ai.new w2 (.slice none 0 0) 85).cell]at c9;exact(Option.some.inj c9).symm
  exact⟨v,h1,h2,fun _=>hv0⟩
 rintro _ w4 ⟨rfl,hD⟩;obtain⟨⟨vx,hx1,hx2,hx3⟩,hx4⟩:=hD.elim id (fun e=>e.elim);rw[List.take_length]at hx2
 obtain⟨ax,nx,cx,hvx⟩:∃a n c,vx= .slice a n c:=by
  obtain⟨a,c,e,_⟩:=(Cl.view hx2).is;exact⟨a,_,c,e⟩
 subst hvx;have HO4:Hid (Ai w2.heap.size (.slice ax nx cx) w4):=hx1;have HR4:Hid (Cl (w2.heap.size+1) (.slice ax nx cx) (Lw.map Al) w4):=hx2;have HZ4:Hid (Lw.length=0->Value.slice ax nx cx= .slice none 0 0):=hx3;have HB4:Hid (Below w2.heap.size w2 w4):=hx4
 have hnx:nx=Lw.length:=by
  obtain⟨a,c,e,_⟩:=(Cl.view hx2).is
  cases e
  simp
 have HNX:Hid (nx=t-f):=by show _=_;rw[hnx,HLwl.out]
 have HV64:Hid _:=HV62.out.below hx4;clear hD hx1 hx2 hx3 hx4 hLw hwl hszW3 p2 hW3 HTV0 HB3 hnx;have s0:=Ky txt a (by omega);have s1:=IQ txt b hbt;have z0:(txt.extract 0 a).size<=1024:=by rw[ByteArray.size_extract];omega
 have z1:(txt.extract b txt.size).size<=1024:=by rw[ByteArray.size_extract];omega
 have e1:=OC (txt.extract 0 a) PB (by omega);have e2:=OC (txt.extract 0 a++PB) (txt.extract b txt.size) (by rw[ByteArray.size_append];omega);rw[hL1]at e2;have D0:Hid (w4.drew.cell? ⟨w.heap.size,3,none⟩=some (.string txt)/\w4.drew.cell? ⟨w.heap.size,4,none⟩=some (.int .i64 (a:Nat))/\w4.drew.cell? ⟨w.heap.size,5,none⟩=some (.int .i64 (b:Nat))):=⟨HV64.out.cell 3 (by simp),HV64.out.cell 4 (by simp),HV64.out.cell 5 (by simp)⟩;clear hL1 z0 z1;go_wp2_with fail
 go_region_held3 (fun wx=>wx.cell? ⟨w.heap.size,3,none⟩=some (.string txt)/\wx.cell? ⟨w.heap.size,4,none⟩=some (.int .i64 (a:Nat))/\wx.cell? ⟨w.heap.size,5,none⟩=some (.int .i64 (b:Nat))) (first|exact D0.out|exact D1.out) (first|(go_at_call 175;refine(PM HL2.out hL3 _).mono ?_;rintro _ w5 ⟨v5,parts,rfl,hp1,hp2,hp3,hp4,hp5,hb5⟩;have HP1:Hid (Cl w4.drew.heap.size v5 (parts.map Al) w5):=hp1;have HP2:Hid _:=hp2;have HP3:Hid _:=hp3;have HB5:Hid (Below w4.drew.heap.size w4.drew w5):=hb5;have D1:Hid (w5.cell? ⟨w.heap.size,3,none⟩=some (.string txt)/\w5.cell? ⟨w.heap.size,4,none⟩=some (.int .i64 (a:Nat))/\w5.cell? ⟨w.heap.size,5,none⟩=some (.int .i64 (b:Nat))):=⟨Ae hb5 D0.out.1,Ae hb5 D0.out.2.1,Ae hb5 D0.out.2.2⟩;clear hp1 hp2 hp3 hb5))
 have HB5':Hid (Below w4.heap.size w4 w5):=(Below.refl _ w4).drew.trans HB5.out;obtain⟨vb,vc,hv5,hvb,hrow5⟩:=HP1.out.at (by rw[List.length_map];omega);rw[List.length_map]at hv5;subst hv5;have HROW:Hid (AM vb vc ((parts.map Al).map .string) w5):=hrow5;have HVB:Hid (w4.heap.size<=vb):=hvb;have HO5:Hid (Ai w2.heap.size (.slice ax nx cx) w5):=HO4.out.below HB5'.out;have HR5:Hid (Cl (w2.heap.size+1) (.slice ax nx cx) (Lw.map Al) w5):=Aw HR4.out (Ab HB5'.out (fun _=>False)) (fun _ e=>e.elim);have HB25:Hid (Below w2.heap.size w2 w5):=HB4.out.trans (HB5'.out.mono HB4.out.size);have hsz25:w2.heap.size<w5.heap.size:=HO5.out.lt;obtain⟨i,hi⟩:∃i,l-f=i:=⟨_,rfl⟩;have hii:(l:Int)-(f:Int)=(i:Int):=by omega
 obtain⟨j,hj⟩:∃j,min (i+1) nx=j:=⟨_,rfl⟩;have hjj:min ((i:Int)+1) (nx:Int)=(j:Int):=by omega
 have hiw:i<nx\/(nx=0/\i=0):=by have:=HNX.out;omega
 obtain⟨mp,hmp⟩:∃m,parts.length=m:=⟨_,rfl⟩
 have hrep:=M2 (B:=w2.heap.size+1) (i:=i) (j:=j) w5 HR5.out (fun e=>by
   refine HZ4.out ?_;have:=congrArg List.length e;simpa using this) (by rw[List.length_map,HLwl.out];omega) (by omega) (by
   rw[List.length_map,HLwl.out,<-HNX.out];rcases hiw with h|h
   ·exact .inl h
   ·refine .inr ⟨?_,h.2⟩
    rw[List.map_eq_nil_iff];exact List.length_eq_zero_iff.1 (by rw[HLwl.out,<-HNX.out];exact h.1)) (by rw[List.length_map,HLwl.out,<-HNX.out];exact hj.symm) (by rw[List.length_map];omega) (by rw[List.length_map];omega) HROW.out (fun e=>by
   have h8:=(World.ownsRow.lt HR4.out vb e).2;have:=HVB.out;omega)
 rw[List.length_map,hmp]at hrep;rw[hmp]at hp4 hp5;rw[hmp];have HREP:Hid _:=hrep;have HMP:Hid (parts.length=mp):=hmp;have HI:Hid (l-f=i):=hi;have c5:=HO5.out.cell;have r2:w5.cell? ⟨w.heap.size,2,none⟩=some (.int .i64 (l:Nat)):=Ae HB5'.out (HV64.out.cell 2 (by simp));clear hrep hrow5 hvb hi hj D0 D1 s0 s1 e1 e2 hmp;have hl63:(i:Int)<=59:=by omega
 go_wp2_with fail;refine(show Calls _ _ _ _ _ from HREP.out).mono ?_;rintro _ w6 ⟨v6,rfl,hv6,ho6⟩;obtain⟨a6,c6,hw6,_⟩:=hv6.is;generalize hn6:(List.map Value.string (List.take i (List.map Al Lw)++List.map Al parts++List.drop (i+1) (List.map Al Lw))).length=n6 at hw6;subst hw6;have HO6:Hid (Ai w2.heap.size (.slice ax nx cx) w6):=HO5.out.only ho6 (by omega);obtain⟨W7,hW7⟩:∃W7,w6.setCell ⟨w2.heap.size,0,none⟩ (.slice a6 n6 c6)=W7:=⟨_,rfl⟩;have HO7:Hid (Ai w2.heap.size (.slice a6 n6 c6) W7):=by rw[<-hW7];exact HO6.out.set _
 have hset:Aa (fun b=>b=w2.heap.size) w6 W7:=by rw[<-hW7];exact Aa.set _ 0 _ _
 obtain⟨M0,hM0⟩:∃M0,Lw.take i++parts++Lw.drop (i+1)=M0:=⟨_,rfl⟩;have HM0:Hid (Lw.take i++parts++Lw.drop (i+1)=M0):=hM0
 have HV7:Hid (Ao (w2.heap.size+1) (.slice a6 n6 c6) ((M0.map Al).map Value.string) W7):=by
  have:=hv6.only hset (fun b e=>by omega);have e9:List.take i (Lw.map Al)++parts.map Al++List.drop (i+1) (Lw.map Al)=M0.map Al:=by rw[<-hM0];simp[List.map_take,List.map_drop]
  rw[e9]at this;exact this
 have HB27:Hid (Below w2.heap.size w2 W7):=Aa.below (Aa.below HB25.out ho6 HB25.out.size (fun i hi=>by omega)) hset (by have:=ho6.size;omega) (fun i hi=>by omega);have cc6:=HO6.out.cell;have f6:=HO6.out.free;clear hv6 ho6 hset hM0 hn6 c5 r2;go_wp2_with fail;have HV67:Hid _:=HV62.out.below HB27.out;have HB7d:Hid (Below w2.heap.size w2 W7.drew):=HB27.out.drew;have E0:Hid (W7.drew.cell? ⟨w.heap.size,0,none⟩=some (.int .i64 (T.top:Nat))/\W7.drew.cell? ⟨w.heap.size,1,none⟩=some (.slice a9 n9 cap9)/\W7.drew.cell? ⟨w2.heap.size,0,none⟩=some (.slice a6 n6 c6)):=⟨HV67.out.cell 0 (by simp),HV67.out.cell 1 (by simp),HO7.out.cell⟩
 have HM0l:Hid (M0.length<=5):=by
  show _<=_;rw[<-HM0.out,List.length_append,List.length_append,List.length_take,List.length_drop,HMP.out,HLwl.out];omega
 have HM0n:Hid (M0≠[]):=fun e=>by
  have:=congrArg List.length HM0.out;rw[e,List.length_append,List.length_append,HMP.out]at this;simp at this;omega
 have HLsw:Hid (∀X∈Lw,X∈T.Ls):=fun X hX=>by
  rw[<-HLw.out]at hX;exact List.mem_of_mem_drop (List.mem_of_mem_take hX)
 have HM0s:Hid (∀x∈M0.map Al,x.size<=2000):=fun x hx=>by
  obtain⟨X,hX,rfl⟩:=List.mem_map.1 hx;rw[AF];rw[<-HM0.out]at hX;rcases List.mem_append.1 hX with hX|hX
  ·rcases List.mem_append.1 hX with hX|hX
   ·have:=HA.out.ok.fit X (HLsw.out X (List.mem_of_mem_take hX));omega
   ·have:=HP3.out X hX;omega
  ·have:=HA.out.ok.fit X (HLsw.out X (List.mem_of_mem_drop hX));omega
 have hnew:=HL4.out parts HP2.out HP3.out (by rw[HMP.out];exact hp5);rw[HLN.out,HFT.out.1,HFT.out.2,HI.out,HLw.out,HM0.out]at hnew;have HNEW:Hid (BC (T.Ls.take f++AR M0++T.Ls.drop t)/\(T.Ls.take f++AR M0++T.Ls.drop t).flatten=A++nw++C):=hnew;have HSQ:Hid (szL (T.Ls.take f++AR M0++T.Ls.drop t).flatten=q):=by show _=_;rw[HNEW.out.2];exact HQ.out
 have hszd:w2.heap.size<=W7.heap.size:=HB27.out.size;have HK7:Hid (Ao B0 (.slice a9 n9 cap9) (At T.ks) W7.drew):=HK2.out.below HB7d.out;clear hnew f6 cc6
 go_region_held3 (fun wx=>wx.cell? ⟨w.heap.size,0,none⟩=some (.int .i64 (T.top:Nat))/\wx.cell? ⟨w.heap.size,1,none⟩=some (.slice a9 n9 cap9)/\wx.cell? ⟨w2.heap.size,0,none⟩=some (.slice a6 n6 c6)) (first|exact E0.out|exact E1.out|exact E2.out) (first|(go_at_call 178;refine(RS _ HV7.out.drew HM0s.out (by rw[List.length_map];have:=HM0l.out;omega)).mono ?_;rintro _ w8 ⟨v8,rfl,hj1,hb8⟩;rw[Qi]at hj1;obtain⟨a8,c8,hw8,_⟩:=(Cl.view hj1).is;generalize (List.map Value.string (List.map Al (AR M0))).length=n8 at hw8;subst hw8;have HJ1:Hid (Cl W7.drew.heap.size (.slice a8 n8 c8) ((AR M0).map Al) w8):=hj1;have HB8:Hid (Below W7.drew.heap.size W7.drew w8):=hb8;have E1:Hid (w8.cell? ⟨w.heap.size,0,none⟩=some (.int .i64 (T.top:Nat))/\w8.cell? ⟨w.heap.size,1,none⟩=some (.slice a9 n9 cap9)/\w8.cell? ⟨w2.heap.size,0,none⟩=some (.slice a6 n6 c6)):=⟨Ae hb8 E0.out.1,Ae hb8 E0.out.2.1,Ae hb8 E0.out.2.2⟩;clear hj1 hb8)|(go_at_call 177;have HB28:Hid (Below w2.heap.size w2 w8):=HB7d.out.trans (HB8.out.mono hszd);have hlay:=OR (bd:=bd) (M:=AR M0) (Bt:=W7.drew.heap.size) (f:=f) (t:=t) (HT2.out.below HB28.out) (HTW2.out.below HB28.out) hne HA.out (HK7.out.below HB8.out) hB0 hft (by rw[HN9.out];exact htn) HJ1.out ⟨by have:=HBW2.out.size;show bt<W7.heap.size;omega,by have:=HBW2.out.size;show bp<W7.heap.size;omega,by have:=HBW2.out.size;show bm<W7.heap.size;omega,by have:=HBW2.out.size;show bd<W7.heap.size;omega,HB8.out.size⟩ (by have:=PX M0;have:=HM0l.out;omega) HNEW.out.1 (.inl (RE HM0n.out)) hcnt hN;rw[HSQ.out]at hlay;refine hlay.mono ?_;clear hlay;rintro _ w9 ⟨rfl,V',N',T',h1,h2,h3,h4,h5⟩;have HR:Hid (En bp bd bm N r s up cm V T A nw C w (.returned .nilIface) w9):=(.inr ⟨by rw[HQ.out];omega,rfl,V',N',T',by unfold Tr.all;rw[h1];exact HNEW.out.2,h2,h3,h4,((Ab HBW2.out _).trans (Ab HB28.out _) (fun _ e=> .inl e)).trans h5 (fun i hi=>by rcases hi with hi|hi|hi;exact .inl (.inl hi);exact .inl (.inr hi);exact .inr (by have h9:=(World.ownsRow.lt HJ1.out i hi.symm).1;have:=HBW2.out.size;change W7.heap.size<=i at h9;omega))⟩);have E2:Hid (w9.cell? ⟨w.heap.size,0,none⟩=some (.int .i64 (T.top:Nat))/\w9.cell? ⟨w.heap.size,1,none⟩=some (.slice a9 n9 cap9)/\w9.cell? ⟨w2.heap.size,0,none⟩=some (.slice a6 n6 c6)):=(by have hx:∀b o v,b<=w2.heap.size->b≠bp->b≠bm->w8.cell? ⟨b,o,none⟩=some v->w9.cell? ⟨b,o,none⟩=some v:=fun b o v hb n1 n2 hc=>(h5.cell (World.block_lt_of_cell? w8 _ hc) (fun e=>by rcases e with e|e|e;exact n1 e;exact n2 e;have h9:=(World.ownsRow.lt HJ1.out b e.symm).1;have h10:=HO7.out.lt;change W7.heap.size<=b at h9;omega) o).trans hc;exact⟨hx _ _ _ (by omega) (by omega) (by omega) E1.out.1,hx _ _ _ (by omega) (by omega) (by omega) E1.out.2.1,hx _ _ _ (by omega) (by omega) (by omega) E1.out.2.2⟩);clear h1 h2 h3 h4 h5))
 go_wp2;go_ret;exact HR.out
end
end
end Go.Proofs.YtihnldkgeelehaaGreatDoor
