/- StoreFinds: part 12. -/
import Derived.Test.YtihnldkgeelehaaGreatDoorF11
import Derived.Deep.CutBlock
import Derived.Deep.DeepCutAuto
set_option maxRecDepth 100000
set_option maxHeartbeats 4000000
namespace Go.Proofs.YtihnldkgeelehaaGreatDoor
section
open Go.RowKit Go.Maps
def Pk (bp bd bm N r:Nat) (s:St) (up:Nat->Bool) (cm:Int) (V:Pst) (T:Tr) (Ls':List (List Pr)) (S:Nat->Prop) (w:World) (e:Ending) (w':World):Prop:=
 e= .returned .nilIface/\∃V' N' T',T'.Ls=Ls'/\QM V V' r T T'/\Tw bp bd bm N' s up cm V' w'/\N'<=N+40/\Aa S w w'
section
variable {bt bp bd bm N r:Nat} {s:St} {up:Nat->Bool} {cm:Int} {V:Pst} {w:World}
theorem OR (hT:Tt bt bp r w) (h:Tw bp bd bm N s up cm V w) (hne:bt≠bp/\bt≠bm) {T:Tr} (hA:Ck V r T) {B0:Nat} {vk:Value} (hk:Ao B0 vk (At T.ks) w) (hB0:bp<B0/\bm<B0) {f t:Nat} (hft:f<=t) (ht:t<=T.ks.length)
  {M:List (List Pr)} {Bt:Nat} {vt:Value} (hM:Cl Bt vt (M.map Al) w) (hBt:bt<Bt/\bp<Bt/\bm<Bt/\bd<Bt/\Bt<=w.heap.size) (hM10:M.length<=10) (hok:BC (T.Ls.take f++M++T.Ls.drop t)) (hm:M≠[]\/(f=0/\t=T.ks.length)) (hcnt:A1 V.used 2000+30<1999) (hN:N+60<1000000):
  Calls Tryz.prog 177 #[.pointer (some ⟨bt,0,none⟩),.agg #[.int .i64 (T.top:Nat),vk],.int .i64 (f:Nat),.int .i64 (t:Nat),vt,.int .i64 (szL (T.Ls.take f++M++T.Ls.drop t).flatten:Nat)] w fun e w'=>
   Pk bp bd bm N r s up cm V T (T.Ls.take f++M++T.Ls.drop t) (fun b=>b=bp\/b=bm\/some b=vt.ownBlock) w e w':=by
 have HA:Hid _:=hA;have HOK:Hid _:=hok;have HM:Hid _:=hM;have HMM:Hid _:=hm;have hlt:=h.lt;have hltt:=hT.lt;have hb0:Below w.heap.size w (w.alloc (.cells #[.int .i64 (T.top:Nat),vk] 202)):=(Below.refl _ w).alloc (Nat.le_refl _) _;obtain⟨a9,cap9,hv9,_⟩:=hk.is;rw[Ak]at hv9;obtain⟨n9,hn9⟩:∃n,T.ks.length=n:=⟨_,rfl⟩;rw[hn9]at hv9 ht;subst hv9;have HN9:Hid (T.ks.length=n9):=hn9;have hn9b:n9<=59:=by have:=hA.ok.len;have:=hA.len;omega
 obtain⟨W0,hW0⟩:∃W0,w.alloc (.cells #[.int .i64 (T.top:Nat),.slice a9 n9 cap9] 202)=W0:=⟨_,rfl⟩;have HT0:Hid (Tt bt bp r W0):=by rw[<-hW0];exact hT.below hb0
 have HTW:Hid (Tw bp bd bm N s up cm V W0):=by rw[<-hW0];exact h.below hb0
 have HKW:Hid (Ao B0 (.slice a9 n9 cap9) (At T.ks) w):=hk;have HK0:Hid (Ao B0 (.slice a9 n9 cap9) (At T.ks) W0):=by rw[<-hW0];exact hk.below hb0
 have HBX:Hid (CO w.heap.size (.int .i64 (T.top:Nat)) (.slice a9 n9 cap9) W0):=by rw[<-hW0];exact CO.new w _ _ _
 have HB0:Hid (Below w.heap.size w W0):=by rw[<-hW0];exact hb0
 have hszW:W0.heap.size=w.heap.size+1:=by rw[<-hW0];exact World.size_alloc _ _
 obtain⟨sum,hsum⟩:∃q,szL (T.Ls.take f++M++T.Ls.drop t).flatten=q:=⟨_,rfl⟩;have hsumb:sum<=30000:=by rw[<-hsum];exact hok.sum
 rw[hsum];have HSUM:Hid _:=hsum;obtain⟨mlen,hml⟩:∃q,M.length=q:=⟨_,rfl⟩
 obtain⟨at_,capt,hvt,hat⟩:∃a cap,vt= .slice a mlen cap/\True:=by
  obtain⟨a,cap,e,_⟩:=(Cl.view hM).is;rw[List.length_map,List.length_map,hml]at e;exact⟨a,cap,e,trivial⟩
 subst hvt;rw[hml]at hM10;have HML:Hid (M.length=mlen):=hml;have c0:=HBX.out.c0;have c1:=HBX.out.c1;clear hA hok hM hm hT h hk hb0 hn9 hsum hml;go_enter Tryz.func177,Tryz.ntmps177;have HSZ:Hid (W0.heap.size=w.heap.size+1):=hszW;clear hszW;obtain⟨tl,htl⟩:∃tl,(if T.top=0 then []else [T.top])=tl:=⟨_,rfl⟩;have HTL:Hid _:=htl;clear htl
 go_upto_if 23 with fail
 go_cut [13] (fun p wx=>∃(a1:Option Addr) (n1 cap1:Nat),p= .slice a1 n1 cap1/\Hid (D5 (w.heap.size+1) p tl wx)/\Hid (Below (w.heap.size+1) W0 wx))
 case first=>
  by_cases htop:T.top=0
  ·have hi:(T.top:Int)=0:=by omega
   have HTL2:Hid (tl=[]):=by show tl=_;rw[<-HTL.out,if_pos htop]
   clear htop;go_wp2_with fail;go_meet
   case rel=>exact⟨none,0,0,rfl,by rw[HTL2.out];exact World.ownsRow_nil _ _ _ _,Below.refl _ _⟩
  ·have hi:¬(T.top:Int)=0:=by omega
   have HTL2:Hid (tl=[T.top]):=by show tl=_;rw[<-HTL.out,if_neg htop]
   obtain⟨i0,hi0,hz0,hz1,hz2⟩:=MR;clear htop
   go_wp2_with (at_builtin;refine wpList_append_own _ rfl _ _ 69 rfl (w.heap.size+1) 3 i0 (.int .i64 0) 1 8 Tryz.underlying69 hi0 hz0 hz1 hz2 rfl (by decide) _ _ _ rfl (World.ownsRow_nil _ _ _ _) ⟨W0.heap.size,0,none⟩ 1 1 [.int .i64 (T.top:Nat)] rfl rfl (Bs W0 _ 3) (by intro u hu;simp at hu;subst hu;rfl) (by simp only[maxLen];omega) (by omega) (by have:=HSZ.out;simp;omega) ?_;intro v' w' hO hG hN;obtain⟨g2,cap2,hv2,_,_⟩:=World.ownsRow.form hO (by omega);subst hv2;have HO2:Hid _:=hO;have HG2:Hid (Below (w.heap.size+1) W0 w'):=(((Below.refl _ W0).alloc (by have:=HSZ.out;omega) _).grown hG (by have:=HSZ.out;simp;omega) (fun k e=>by cases e));clear hO hG hN)
   go_meet
   case rel=>exact⟨_,_,_,rfl,by rw[HTL2.out];exact HO2.out,HG2.out⟩
 case rest=>
 obtain⟨a1,n1,cap1,rfl,HR1,HB1⟩:=hcut;have hSZ:=HSZ.out;have HT1:Hid (Tt bt bp r wc):=HT0.out.below (by rw[HSZ.out];exact HB1.out);have HW1:Hid (Tw bp bd bm N s up cm V wc):=HTW.out.below (by rw[HSZ.out];exact HB1.out);have HK1:Hid (Ao B0 (.slice a9 n9 cap9) (At T.ks) wc):=HK0.out.below (by rw[HSZ.out];exact HB1.out);have HX1:Hid (CO w.heap.size (.int .i64 (T.top:Nat)) (.slice a9 n9 cap9) wc):=HBX.out.block (HB1.out.block _ (by omega));have hszc:w.heap.size+1<=wc.heap.size:=by have:=HB1.out.size;omega
 obtain⟨v34,hv34,hc34⟩:=HK1.out.cut f t hft (by rw[Ak,HN9.out];exact ht);have hs34:∀wx,(Instr.slice 69 (.slice a9 n9 cap9) (some (.int .i64 (f:Nat))) (some (.int .i64 (t:Nat))) none).run Tryz.prog wx= .ok v34 wx:=fun wx=>(hc34 Tryz.underlying69 C6 DD (f:Nat) (t:Nat) rfl rfl wx).1;have e34:((At T.ks).drop f).take (t-f)=At ((T.ks.drop f).take (t-f)):=by unfold At;rw[List.map_take,List.map_drop]
 rw[e34]at hv34;have HV34:Hid (Ao B0 v34 (At ((T.ks.drop f).take (t-f))) wc):=hv34;obtain⟨a34,c34,hw34,_⟩:=hv34.is;generalize (At ((T.ks.drop f).take (t-f))).length=n34 at hw34;subst hw34;have HLT:Hid (tl.length<=1):=by show tl.length<=1;rw[<-HTL.out];split<;>simp
 have HPL:Hid (tl.length+((T.ks.drop f).take (t-f)).length<=70):=by
  show _<=_;have:=HLT.out;have:=HN9.out;rw[List.length_take,List.length_drop];omega
 have HSZC:Hid _:=hszc;have c1:=HX1.out.c1;have hszw1:w.heap.size+1<=wc.heap.size:=hszc;clear c0 hv34 hc34 e34 hSZ hszc
 go_upto_if 46 with(at_builtin;refine D9 rfl _ _ rfl rfl HR1.out rfl HV34.out (by have:=HPL.out;omega) hszw1 ?_;intro v' w2 HR2 HX2;obtain⟨a2,cap2,hv2,_⟩:=HR2.out.view.is;generalize (At (tl++List.take (t-f) (List.drop f T.ks))).length=n2 at hv2;subst hv2;have c2:=HX2.out.cell HX1.out.lt (by omega) 1;rw[c1]at c2;clear c1)
 go_cut [14] (fun q wx=>∃tops:Nat,q= .int .i64 (tops:Nat)/\tops<=1/\Hid (tops=if 1<n9-(t-f)+mlen then 1 else 0)/\Hid (wx=w2))
 case first=>
  by_cases hbig:1<n9-(t-f)+mlen
  ·have hi:(1:Int)<(n9:Int)-((t:Int)-(f:Int))+(mlen:Int):=by omega
   go_wp2_with fail;go_meet
   case rel=>exact⟨1,rfl,by omega,by rw[if_pos hbig];rfl,rfl⟩
  ·have hi:¬(1:Int)<(n9:Int)-((t:Int)-(f:Int))+(mlen:Int):=by omega
   go_wp2_with fail;go_meet
   case rel=>exact⟨0,rfl,by omega,by rw[if_neg hbig];rfl,rfl⟩
 case rest=>
 obtain⟨tops,rfl,htp,HTP,hwc⟩:=hcut;obtain rfl:w2=_:=hwc.out.symm;clear hwc;have HT2:Hid (Tt bt bp r w2):=HT1.out.only HX2.out (by omega);have HW2:Hid (Tw bp bd bm N s up cm V w2):=HW1.out.only HX2.out (by omega) (by omega) (by omega);have HBX2:Hid (CO w.heap.size (.int .i64 (T.top:Nat)) (.slice a9 n9 cap9) w2):=HX1.out.only HX2.out (by omega);have hszw2:w.heap.size+1<=w2.heap.size:=Nat.le_trans hszw1 HX2.out.size
 have hfit:=TA HT2.out HW2.out hne (B:=w.heap.size+1) ⟨by omega,by omega,by omega,by omega,hszw2⟩ HR2.out (fun k hk=>by
   rcases List.mem_append.1 hk with hk|hk
   ·rw[<-HTL.out]at hk
    by_cases h0:T.top=0
    ·rw[if_pos h0]at hk;simp at hk
    ·rw[if_neg h0]at hk
     obtain rfl:=List.mem_singleton.1 hk;have:=HA.out.ltop h0;exact⟨by omega,this.1,this.2.1⟩
   ·exact HA.out.low k (List.mem_of_mem_drop (List.mem_of_mem_take hk))) (by
   rw[List.nodup_append];refine⟨by rw[<-HTL.out];split<;>simp,HA.out.nodup.sublist ((List.take_sublist _ _).trans (List.drop_sublist _ _)),fun a ha b hb e=> ?_⟩;rw[<-HTL.out]at ha
   by_cases h0:T.top=0
   ·rw[if_pos h0]at ha;simp at ha
   ·rw[if_neg h0]at ha
    obtain rfl:=List.mem_singleton.1 ha;subst e;exact(HA.out.ltop h0).2.2.2 (List.mem_of_mem_drop (List.mem_of_mem_take hb))) (by rw[List.length_append];have:=HPL.out;omega) (tops+mlen) (by omega) (by omega) (by omega)
 rw[Int.natCast_add]at hfit;have HFIT:Hid (Calls Tryz.prog 210 #[.pointer (some ⟨bt,0,none⟩),.slice a2 n2 cap2,.int .i64 ((tops:Int)+(mlen:Int))] w2 fun e w'=>Uo bp bd bm N s up cm V w2 (w.heap.size+1) (tl++(T.ks.drop f).take (t-f)) (tops+mlen) e w'):=hfit;clear hfit;go_wp2_with fail;refine(show Calls _ _ _ _ _ from HFIT.out).mono ?_;rintro _ w3 ⟨v3,V1,P',N1,rfl,hv3,hP',hF,hW3,hN1,ho3⟩;clear HFIT;obtain⟨a3,cap3,hw3,_⟩:=hv3.is;rw[Ak,hP']at hw3;subst hw3;have HV3:Hid (Ao (w.heap.size+1) (.slice a3 (tops+mlen) cap3) (At P') w3):=hv3;have HP':Hid (P'.length=tops+mlen):=hP';have HF:Hid _:=hF;have HW3:Hid _:=hW3;have HX3:Hid (Aa (fun b=>b=bp\/b=bm\/w.heap.size+1<=b) w2 w3):=ho3;have HT3:Hid (Tt bt bp r w3):=HT2.out.only ho3 (fun e=>by rcases e with e|e|e;exact hne.1 e;exact hne.2 e;omega);have HBX3:Hid (CO w.heap.size (.int .i64 (T.top:Nat)) (.slice a9 n9 cap9) w3):=HBX2.out.only ho3 (fun e=>by rcases e with e|e|e<;>omega);have HOW:Hid (Aa (fun b=>b=bp\/b=bm) w w3):=(((Ab HB0.out _).trans (by have h9:=HB1.out;rw[<-HSZ.out]at h9;exact Ab h9 _) (fun i hi=> .inl hi)).trans HX2.out (fun i hi=> .inr (by omega))).trans ho3 (fun i hi=>by rcases hi with hi|hi|hi;exact .inl (.inl hi);exact .inl (.inr hi);exact .inr (by omega));have hszw3:w.heap.size+1<=w3.heap.size:=Nat.le_trans hszw2 ho3.size;clear hv3 hP' hF hW3 ho3 c2
 go_upto_if 61 with fail
 obtain⟨txs,htxs⟩:∃txs,(if tops=1 then [F5 (T.ks.take f++P'.drop tops++T.ks.drop t)]else [])++M.map Al=txs:=⟨_,rfl⟩;have HTX:Hid _:=htxs;have HM3:Hid (Cl Bt (.slice at_ mlen capt) (M.map Al) w3):=Aw HM.out HOW.out (fun b e=>by rcases e with e|e<;>omega);have HOB:Hid (∀k,(Value.slice at_ mlen capt).ownBlock=some k->Bt<=k/\k<w.heap.size):=fun k e=>World.ownsRow.lt HM.out k e;clear htxs
 go_cut [4] (fun p wx=>∃(a4:Option Addr) (n4 cap4 B4:Nat),p= .slice a4 n4 cap4/\Hid (n4=tops+mlen)/\n4<=20/\bp<B4/\bm<B4/\Hid (Ao B4 p (txs.map Value.string) wx)/\Hid (Aa (fun b=>some b=(Value.slice at_ mlen capt).ownBlock) w3 wx))
 case first=>
  rcases(show tops=0\/tops=1 by omega)with ht0|ht1
  ·subst ht0
   have HTX0:Hid (txs=M.map Al):=by show txs=_;rw[<-HTX.out];simp
   go_wp2_with fail;go_meet
   case rel=>exact⟨at_,mlen,capt,Bt,rfl,(Nat.zero_add _).symm,by omega,hBt.2.1,hBt.2.2.1,by rw[HTX0.out];exact Cl.view HM3.out,Aa.refl _ _⟩
  ·subst ht1
   obtain⟨ks',hks'⟩:∃ks',T.ks.take f++P'.drop 1++T.ks.drop t=ks':=⟨_,rfl⟩;have HTX1:Hid (txs=F5 ks'::M.map Al):=by show txs=_;rw[<-HTX.out,if_pos rfl,hks'];rfl
   have hbig:1<n9-(t-f)+mlen:=by
    apply Classical.byContradiction;intro h;have:=HTP.out;rw[if_neg h]at this;omega
   have hmp:0<mlen:=by
    rcases HMM.out with h|⟨h1,h2⟩
    ·have:=List.length_pos_iff.2 h;rw[HML.out]at this;exact this
    ·rw[HN9.out]at h2;omega
   have HK3:Hid (Ao B0 (.slice a9 n9 cap9) (At T.ks) w3):=HKW.out.only HOW.out (fun b e=>by rcases e with e|e<;>omega);obtain⟨v65,hv65,hc65⟩:=HK3.out.cut 0 f (by omega) (by rw[Ak,HN9.out];omega);obtain⟨v72,hv72,hc72⟩:=HK3.out.cut t n9 ht (by rw[Ak,HN9.out];exact Nat.le_refl _);obtain⟨v68,hv68,hc68⟩:=HV3.out.cut 1 (1+mlen) (by omega) (by rw[Ak,HP'.out];exact Nat.le_refl _);have hs65:∀wx,(Instr.slice 69 (.slice a9 n9 cap9) none (some (.int .i64 (f:Nat))) none).run Tryz.prog wx= .ok v65 wx:=fun wx=>(hc65 Tryz.underlying69 C6 DD 0 (f:Nat) rfl rfl wx).2.1 rfl;have hs72:∀wx,(Instr.slice 69 (.slice a9 n9 cap9) (some (.int .i64 (t:Nat))) none none).run Tryz.prog wx= .ok v72 wx:=fun wx=>(hc72 Tryz.underlying69 C6 DD (t:Nat) (n9:Nat) rfl rfl wx).2.2 (by rw[Ak,HN9.out]);have hs68:∀wx,(Instr.slice 69 (.slice a3 (1+mlen) cap3) (some (.int .i64 1)) none none).run Tryz.prog wx= .ok v68 wx:=fun wx=>(hc68 Tryz.underlying69 C6 DD 1 ((1+mlen:Nat):Int) rfl rfl wx).2.2 (by rw[Ak,HP'.out]);have e65:((At T.ks).drop 0).take (f-0)=At (T.ks.take f):=by unfold At;rw[List.drop_zero,Nat.sub_zero,List.map_take]
   have e72:((At T.ks).drop t).take (n9-t)=At (T.ks.drop t):=by rw[List.take_of_length_le (by rw[List.length_drop,Ak,HN9.out];exact Nat.le_refl _)];unfold At;rw[List.map_drop]
   have e68:((At P').drop 1).take (1+mlen-1)=At (P'.drop 1):=by rw[List.take_of_length_le (by rw[List.length_drop,Ak,HP'.out];exact Nat.le_refl _)];unfold At;rw[List.map_drop]
   rw[e65]at hv65;rw[e72]at hv72;rw[e68]at hv68;obtain⟨b65,k65,hw65,_⟩:=hv65.is;obtain⟨b72,k72,hw72,_⟩:=hv72.is;obtain⟨b68,k68,hw68,_⟩:=hv68.is;obtain⟨l65,hl65⟩:∃l,(At (T.ks.take f)).length=l:=⟨_,rfl⟩;obtain⟨l72,hl72⟩:∃l,(At (T.ks.drop t)).length=l:=⟨_,rfl⟩;obtain⟨l68,hl68⟩:∃l,(At (P'.drop 1)).length=l:=⟨_,rfl⟩;rw[hl65]at hw65;rw[hl72]at hw72;rw[hl68]at hw68;subst hw65 hw72 hw68;obtain⟨W4,hW4⟩:∃W4,w3.drew.alloc (.cells #[.slice b65 l65 k65,.slice b68 l68 k68,.slice b72 l72 k72] 69)=W4:=⟨_,rfl⟩;have hb4:Below w3.heap.size w3 W4:=by rw[<-hW4];exact(Below.refl _ w3).drew.alloc (Nat.le_refl _) _
   have hn4:W4.heap[w3.heap.size]? =some (.cells #[.slice b65 l65 k65,.slice b68 l68 k68,.slice b72 l72 k72] 69):=by rw[<-hW4];exact heap_alloc_new w3.drew _
   have HV65:Hid _:=hv65.below hb4;have HV72:Hid _:=hv72.below hb4;have HV68:Hid _:=hv68.below hb4;have HFL:Hid (BB [(.slice b65 l65 k65,T.ks.take f),(.slice b68 l68 k68,P'.drop 1),(.slice b72 l72 k72,T.ks.drop t)]=ks'):=by show _=_;rw[<-hks'];simp[BB]
   have HKL:Hid (ks'.length=f+mlen+(n9-t)):=by
    show _=_;rw[<-hks',List.length_append,List.length_append,List.length_take,List.length_drop,List.length_drop,HP'.out,HN9.out];omega
   have HCC:Hid _:=Ow (g:=w3.heap.size) (B:=0) W4 [(.slice b65 l65 k65,T.ks.take f),(.slice b68 l68 k68,P'.drop 1),(.slice b72 l72 k72,T.ks.drop t)] rfl (fun i hi=>by
     simp only[World.cell?,hn4];simp only[List.length_cons,List.length_nil]at hi;rcases i with _|_|_|i<;>first|rfl|omega) (fun i hi=>by
     simp only[List.length_cons,List.length_nil]at hi;rcases i with _|_|_|i
     ·exact HV65.out.mono (Nat.zero_le _)
     ·exact HV68.out.mono (Nat.zero_le _)
     ·exact HV72.out.mono (Nat.zero_le _)
     ·omega) (by rw[HFL.out,HKL.out];omega) (by rw[HFL.out,HKL.out];omega)
   rw[HFL.out]at HCC
   have HKS:Hid (∀k∈ks',k<2000):=fun k hk=>by
    rw[<-hks']at hk;simp only[List.mem_append]at hk;rcases hk with(hk|hk)|hk
    ·exact(HA.out.low k (List.mem_of_mem_take hk)).2.1
    ·exact(HF.out.low k (List.mem_of_mem_drop hk)).2
    ·exact(HA.out.low k (List.mem_of_mem_drop hk)).2.1
   have HB4:Hid (Below w3.heap.size w3 W4):=hb4;clear hv65 hc65 hv72 hc72 hv68 hc68 e65 e72 e68 hl65 hl72 hl68 hb4 hn4 hks' hbig;have q3:Hid (w3.drew.cell? ⟨w.heap.size,1,none⟩=some (.slice a9 n9 cap9)):=HBX3.out.c1;have q4:Hid (W4.cell? ⟨w.heap.size,1,none⟩=some (.slice a9 n9 cap9)):=Ae HB4.out HBX3.out.c1;go_wp2_with fail
   go_region_held3 (fun wx=>wx.cell? ⟨w.heap.size,1,none⟩=some (.slice a9 n9 cap9)) (first|exact q3.out|exact q4.out|exact q5.out|exact q6.out) (first|(go_at_call 212;refine(show Calls _ _ _ _ _ from HCC.out).mono ?_;rintro _ w5 ⟨v5,rfl,hR5,hb5⟩;have HR5:Hid (D5 W4.heap.size v5 ks' w5):=hR5;have HB5:Hid (Below W4.heap.size W4 w5):=hb5;have q5:Hid (w5.cell? ⟨w.heap.size,1,none⟩=some (.slice a9 n9 cap9)):=Ae hb5 q4.out;clear hR5 hb5)|(go_at_call 211;refine(Ld _ HR5.out.view HKS.out (by rw[HKL.out];omega) (by intro e;have:=HKL.out;rw[e]at this;simp at this;omega)).mono ?_;rintro _ w6 ⟨rfl,hb6⟩;have HB6:Hid (Below w5.heap.size w5 w6):=hb6;have q6:Hid (w6.cell? ⟨w.heap.size,1,none⟩=some (.slice a9 n9 cap9)):=Ae hb6 q5.out;clear hb6))
   have HO6:Hid (Below w3.heap.size w3 w6):=(HB4.out.trans (HB5.out.mono HB4.out.size)).trans (HB6.out.mono (Nat.le_trans HB4.out.size HB5.out.size));obtain⟨W7,hW7⟩:∃W7,w6.alloc (.cells #[.string (F5 ks')] 9)=W7:=⟨_,rfl⟩;have hb7:Below w6.heap.size w6 W7:=by rw[<-hW7];exact(Below.refl _ w6).alloc (Nat.le_refl _) _
   have hn7:W7.heap[w6.heap.size]? =some (.cells #[.string (F5 ks')] 9):=by rw[<-hW7];exact heap_alloc_new w6 _
   have HO7:Hid (Below w3.heap.size w3 W7):=HO6.out.trans (hb7.mono HO6.out.size);have HRA:Hid (AM w6.heap.size 1 [.string (F5 ks')] W7):=⟨⟨_,hn7,rfl,rfl⟩,by simp,by unfold maxLen;omega⟩;have HM7:Hid (Cl Bt (.slice at_ mlen capt) (M.map Al) W7):=Aw HM3.out (Ab HO7.out (fun _=>False)) (fun _ e=>e.elim);have HIN:Hid _:=Ob W7 HM7.out (by rw[List.length_map,HML.out];exact hmp) (by rw[List.length_map,HML.out];omega) (F5 ks') HRA.out (fun e=>by have:=(HOB.out _ e).2;have:=HO6.out.size;omega) (by have:=HO7.out.size;omega);have HX7:Hid (w6.heap.size<W7.heap.size):=(Array.getElem?_eq_some_iff.1 hn7).1;clear hb7 hn7 q3 q4 q5 q6;go_wp2_with fail;refine(show Calls _ _ _ _ _ from HIN.out).mono ?_;rintro _ w8 ⟨v8,rfl,hv8,ho8⟩;have HV8:Hid (Ao Bt v8 (txs.map Value.string) w8):=by show Ao _ _ _ _;rw[HTX1.out];exact hv8
   have HO8:Hid (Aa (fun b=>some b=(Value.slice at_ mlen capt).ownBlock) w3 w8):=(Ab HO7.out _).trans ho8 (fun i hi=> .inl hi);obtain⟨a8,cap8,hw8,_⟩:=hv8.is;have hl8:(List.map Value.string (F5 ks'::M.map Al)).length=1+mlen:=by rw[List.length_map,List.length_cons,List.length_map,HML.out];omega
   rw[hl8]at hw8;subst hw8;clear hv8 ho8 hl8;go_wp2_with fail;go_meet
   case rel=>exact⟨a8,1+mlen,cap8,Bt,rfl,rfl,by omega,hBt.2.1,hBt.2.2.1,HV8.out,HO8.out⟩
 case rest=>
 obtain⟨a4,n4,cap4,B4,rfl,HN4,hn4,hB41,hB42,HV4,HO4⟩:=hcut;have hown:∀b,some b=(Value.slice at_ mlen capt).ownBlock->Bt<=b/\b<w.heap.size:=fun b e=>HOB.out b e.symm;have HT4:Hid (Tt bt bp r wc):=HT3.out.only HO4.out (fun e=>by have:=(hown _ e).1;omega);have HW4:Hid (Tw bp bd bm N1 s up cm V1 wc):=HW3.out.only HO4.out (fun e=>by have:=(hown _ e).1;omega) (fun e=>by have:=(hown _ e).1;omega) (fun e=>by have:=(hown _ e).1;omega);have HV34:Hid (Ao (w.heap.size+1) (.slice a3 (tops+mlen) cap3) (At P') wc):=HV3.out.only HO4.out (fun b e=>by have:=(hown _ e).2;omega);have HOW4:Hid (Aa (fun b=>b=bp\/b=bm\/some b=(Value.slice at_ mlen capt).ownBlock) w wc):=(HOW.out.mono (fun i hi=>by rcases hi with hi|hi;exact .inl hi;exact .inr (.inl hi))).trans HO4.out (fun i hi=> .inl (.inr (.inr hi)))
 have HTL4:Hid (txs.length=n4):=by
  show _=_;rw[<-HTX.out,List.length_append,List.length_map,HML.out,HN4.out];rcases(show tops=0\/tops=1 by omega)with e|e
  ·rw[if_neg (by omega),e];simp
  ·rw[if_pos e,e];simp
 have HPN:Hid (P'.length=n4):=by show _=_;rw[HP'.out,HN4.out]
 obtain⟨np,hnp⟩:∃np,tops+mlen=np:=⟨_,rfl⟩;rw[hnp]at HV34 HN4;rw[hnp];have hnpe:n4=np:=HN4.out;clear hnp HN4;subst hnpe
 have HTS:Hid (∀i (hi:i<txs.length),txs[i].size<=1024):=fun i hi=>by
  have hm:txs[i]∈txs:=List.getElem_mem hi;generalize txs[i]=x at hm;rw[<-HTX.out]at hm;rcases List.mem_append.1 hm with hm|hm
  ·rcases(show tops=0\/tops=1 by omega)with e|e
   ·rw[if_neg (by omega)]at hm;simp at hm
   ·rw[if_pos e]at hm
    obtain rfl:=List.mem_singleton.1 hm;rw[Km,List.length_append,List.length_append,List.length_take,List.length_drop,List.length_drop];have:=HPN.out;have:=HN9.out;omega
  ·obtain⟨L,hL,rfl⟩:=List.mem_map.1 hm
   rw[AF];exact HOK.out.fit L (by simp[hL])
 have HWR0:Hid (WrR V1 P' txs 0 V1):=WrR.refl _ _ _;clear hown;obtain⟨w5,hw5⟩:∃w5,w5=wc:=⟨_,rfl⟩;rw[<-hw5]at HT4 HW4 HV34 HOW4 HV4;rw[<-hw5];clear hw5;go_wp2_with fail;go_loopw [82] (fun i wr=>∃(j:Nat) (V2:Pst),j<=n4/\i= .int .i64 (j:Nat)/\Hid (WrR V1 P' txs j V2)/\Hid (Tw bp bd bm (N1+j) s up cm V2 wr)/\Hid (Tt bt bp r wr)/\Hid (Aa (fun b=>b=bp\/b=bm\/some b=(Value.slice at_ mlen capt).ownBlock) w wr)/\Hid (Ao (w.heap.size+1) (.slice a3 n4 cap3) (At P') wr)/\Hid (Ao B4 (.slice a4 n4 cap4) (txs.map Value.string) wr)) (fun i _=>n4+1-(intOf i).toNat)
 case atStart=>exact⟨0,V1,Nat.zero_le _,rfl,HWR0,HW4,HT4,HOW4,HV34,HV4⟩
 case round=>
  clear HWR0 HW4 HT4 HOW4 HV34 HV4;obtain⟨j,V2,hj,rfl,HWR,HW,HT,HO,HVP,HVT⟩:=hrel
  by_cases hjn:j<n4
  ·have h2:(j:Int)<(n4:Int):=by omega
   have hjp:j<P'.length:=by rw[HPN.out];exact hjn
   have hjt:j<txs.length:=by rw[HTL4.out];exact hjn
   obtain⟨b0,o0,_,_,k3,k4⟩:=HVP.out.at (i:=j) (by rw[Ak];exact hjp);rw[DN hjp]at k3;obtain⟨b1,o1,_,_,m3,m4⟩:=HVT.out.at (i:=j) (by rw[List.length_map];exact hjt);rw[List.getElem_map]at m3;have hix:∀wx,(Instr.indexAt 69 (.slice a3 n4 cap3) (.int .i64 (j:Nat))).run Tryz.prog wx= .ok (.pointer (some ⟨b0,o0,none⟩)) wx:=k4 Tryz.underlying69 C6 DD (j:Nat) rfl;have hiy:∀wx,(Instr.indexAt 85 (.slice a4 n4 cap4) (.int .i64 (j:Nat))).run Tryz.prog wx= .ok (.pointer (some ⟨b1,o1,none⟩)) wx:=m4 Tryz.underlying85 AP B7 (j:Nat) rfl;have HWR2:Hid (WrR V1 P' txs (j+1) (V2.write P'[j] (pad txs[j]))):=HWR.out.step HF.out.nodup hjp hjt;have HLO:Hid (P'[j]<2000/\V2.used P'[j]=true):=⟨(HF.out.low _ (List.getElem_mem hjp)).2,by rw[HWR.out.used];exact(HF.out.used _).2 (.inr (List.getElem_mem hjp))⟩;have HSX:Hid (txs[j].size<=1024):=HTS.out j hjt;generalize P'[j]=K at *;generalize txs[j]=X at *;clear k4 m4 hjp hjt;go_wp2_with fail;refine(Pp HT.out HW.out (by omega) hne K HLO.out.1 HLO.out.2 X HSX.out).mono ?_;rintro _ w6 ⟨rfl,hW6,ho6⟩;have HW6:Hid _:=hW6;have HT6:Hid (Tt bt bp r w6):=HT.out.only ho6 (fun e=>by rcases e with e|e;exact hne.1 e;exact hne.2 e);have HO6:Hid (Aa (fun b=>b=bp\/b=bm\/some b=(Value.slice at_ mlen capt).ownBlock) w w6):=HO.out.trans ho6 (fun i hi=> .inl (by rcases hi with hi|hi;exact .inl hi;exact .inr (.inl hi)));have HVP6:Hid (Ao (w.heap.size+1) (.slice a3 n4 cap3) (At P') w6):=HVP.out.only ho6 (fun b e=>by rcases e with e|e<;>omega);have HVT6:Hid (Ao B4 (.slice a4 n4 cap4) (txs.map Value.string) w6):=HVT.out.only ho6 (fun b e=>by rcases e with e|e<;>omega);clear hW6 ho6 k3 m3 HW HT HO HVP HVT HWR;go_wp2_with fail;go_roundw
   case rel=>exact⟨j+1,_,by omega,by go_num,HWR2,HW6,HT6,HO6,HVP6,HVT6⟩
   case measure=>simp[intOf];omega
  ·have h2:¬(j:Int)<(n4:Int):=by omega
   obtain rfl:n4=j:=by omega
   have HWF:Hid (WrR V1 P' txs P'.length V2):=by rw[HPN.out];exact HWR
   have hroot:P'.headD 0<2000:=by
    cases hP:P' with
    |nil=>simp
    |cons a b=>have:=HF.out.low a (by rw[hP];simp);exact this.2
   have HLAY:Hid _:=Ck.lay (M:=M) (P':=P') (tops:=tops) HA.out hft (by rw[HN9.out];exact ht) HOK.out HMM.out (by rw[HTP.out,HN9.out,HML.out]) (by rw[HTL.out];exact HF.out) (by rw[HP'.out,HML.out]) (by rw[HTX.out];exact HWF.out);rw[HSUM.out]at HLAY;have HN1:Hid (N1<=N+(tops+mlen)):=hN1;rcases Nat.eq_zero_or_pos n4 with h0|h0
   ·have hP0:P'=[]:=List.length_eq_zero_iff.1 (by rw[HPN.out,h0])
    have HP0:Hid (P'.headD 0=0):=by rw[hP0];rfl
    rw[HP0.out]at HLAY hroot;have hn0:¬(0:Int)<(n4:Int):=by omega
    clear hP0 h0;go_wp2_with fail;have HTd:Hid (Tt bt bp r _):=HT.out.drew;have HWd:Hid (Tw bp bd bm _ s up cm V2 _):=HW.out.drew
    go_region_held3 (fun wx=>wx.cell? ⟨bt,0,none⟩=some (.pointer (some ⟨bp,0,none⟩))/\wx.cell? ⟨bt,1,none⟩=some (.int .i64 r)) (first|exact⟨HTd.out.cp,HTd.out.cr⟩|exact⟨HT7.out.cp,HT7.out.cr⟩) (first|(go_at_call 214;refine(IH HWd.out r HTd.out.lt8 0 sum hroot (by omega)).mono ?_;rintro _ w7 ⟨rfl,hW7,ho7⟩;have HW7:Hid _:=hW7;have HT7:Hid (Tt bt bp r w7):=HTd.out.only ho7 (fun e=>by rcases e with e|e;exact hne.1 e;exact hne.2 e);have HO7:Hid (Aa (fun b=>b=bp\/b=bm\/some b=(Value.slice at_ mlen capt).ownBlock) w w7):=HO.out.drew.trans ho7 (fun i hi=> .inl (by rcases hi with hi|hi;exact .inl hi;exact .inr (.inl hi)));clear hW7 ho7))
    go_wp2;go_ret;exact⟨rfl,_,_,_,rfl,HLAY.out,HW7.out,by omega,HO7.out⟩
   ·have hn0:(0:Int)<(n4:Int):=by omega
    have hjp:0<P'.length:=by rw[HPN.out];exact h0
    obtain⟨b0,o0,_,_,k3,k4⟩:=HVP.out.at (i:=0) (by rw[Ak];exact hjp);rw[DN hjp]at k3;have hix:∀wx,(Instr.indexAt 69 (.slice a3 n4 cap3) (.int .i64 0)).run Tryz.prog wx= .ok (.pointer (some ⟨b0,o0,none⟩)) wx:=k4 Tryz.underlying69 C6 DD 0 rfl
    have HP0:Hid (P'.headD 0=P'[0]):=by
     have h9:∀(l:List Nat) (h:0<l.length),l.headD 0=l[0]:=fun l h=>by
      cases l with
      |nil=>simp at h
      |cons a b=>rfl
     exact h9 P' hjp
    rw[HP0.out]at HLAY hroot;generalize P'[0]=K at *;clear hjp h0 k4;go_wp2_with fail;have HTd:Hid (Tt bt bp r _):=HT.out.drew;have HWd:Hid (Tw bp bd bm _ s up cm V2 _):=HW.out.drew
    go_region_held3 (fun wx=>wx.cell? ⟨bt,0,none⟩=some (.pointer (some ⟨bp,0,none⟩))/\wx.cell? ⟨bt,1,none⟩=some (.int .i64 r)) (first|exact⟨HTd.out.cp,HTd.out.cr⟩|exact⟨HT7.out.cp,HT7.out.cr⟩) (first|(go_at_call 214;refine(IH HWd.out r HTd.out.lt8 K sum hroot (by omega)).mono ?_;rintro _ w7 ⟨rfl,hW7,ho7⟩;have HW7:Hid _:=hW7;have HT7:Hid (Tt bt bp r w7):=HTd.out.only ho7 (fun e=>by rcases e with e|e;exact hne.1 e;exact hne.2 e);have HO7:Hid (Aa (fun b=>b=bp\/b=bm\/some b=(Value.slice at_ mlen capt).ownBlock) w w7):=HO.out.drew.trans ho7 (fun i hi=> .inl (by rcases hi with hi|hi;exact .inl hi;exact .inr (.inl hi)));clear hW7 ho7))
    go_wp2;go_ret;exact⟨rfl,_,_,_,rfl,HLAY.out,HW7.out,by omega,HO7.out⟩
end
end
end Go.Proofs.YtihnldkgeelehaaGreatDoor
