/- StoreFinds: part 9. -/
import Derived.Test.YtihnldkgeelehaaGreatDoorF08
import Derived.Laws.EntriesVeiled
import Derived.Laws.AppendOwnNone
import Derived.Lib.AppendZeros
set_option maxRecDepth 100000
set_option maxHeartbeats 4000000
namespace Go.Proofs.YtihnldkgeelehaaGreatDoor
section
open Go.RowKit Go.Maps
theorem AE {w:World} {base base2 size n:Nat} {e:TypeId} {v:Value} {xs:List Value} (h:w.ownsRow base e size v n xs) (hb:base2<=base):w.ownsRow base2 e size v n xs:=by
 refine⟨h.1,?_⟩;rcases h.2 with h2|⟨g,cap,cur,h1,h2,h3,h4⟩
 ·exact .inl h2
 ·exact .inr ⟨g,cap,cur,h1,Nat.le_trans hb h2,h3,h4⟩
theorem Kd {B:Nat} {S:Nat->Prop} {w w':World} (h:Below B w w') (hS:∀b,B<=b->S b):Aa S w w':=⟨h.os,h.tape,h.output,h.size,fun k _ hs=>h.block k (Nat.lt_of_not_le (fun e=>hs (hS k e)))⟩
theorem El.lessAll {T:Tr} {key txt:ByteArray} {l a b:Nat} (h:El T key l txt a b) (ok:BC T.Ls):∀x∈(T.Ls.take l).flatten,bl x.k key=true:=by
 rcases h with⟨h1,_⟩|h
 ·rw[h1];simp
 ·intro x hx
  obtain⟨L,hL,hxL⟩:=List.mem_flatten.1 hx;obtain⟨i,hi,rfl⟩:=List.getElem_of_mem hL;rw[List.length_take]at hi;rw[List.getElem_take]at hxL;obtain⟨y,hy,hyk⟩:=ok.first_mem h.lt;have h1:=ok.apart (i:=i) (j:=l) (by omega) h.lt hxL hy;have h2:=h.left l (by omega) (Nat.le_refl _) h.lt;rw[hyk]at h1;rcases DW x.k key with e|e|e
  ·exact e
  ·rw[e]at h1;rw[h1]at h2;cases h2
  ·rw[Cw e h1]at h2;cases h2
section
variable {bt bp bd bm N r:Nat} {s:St} {up:Nat->Bool} {cm:Int} {V:Pst} {wnt:Nat->ByteArray->Bool} {I:Nat->World->Prop} {W:Nat->Prop} {fw:Nat} {cw:Array Value}
set_option maxHeartbeats 1000000
theorem Ni (w:World) (hT:Tt bt bp r w) (h:Tw bp bd bm N s up cm V w) {T:Tr} (hA:Ck V r T) (from_:ByteArray)
  (hW:∀b,W b->b<w.heap.size/\b≠bt/\b≠bp/\b≠bd/\b≠bm) (eg:∀args w,(callFunc fw args).run Tryz.prog w= .ok (.enter fw args) w)
  (hI:I 0 w) (hst:∀k wx wy,I k wx->Aa (fun b=>w.heap.size<=b) wx wy->I k wy)
  (hc:∀k key wx,k<=40000->I k wx->Calls Tryz.prog fw (#[.string key]++cw) wx fun e w'=>e= .returned (.bool (wnt k key))/\I (k+1) w'/\Aa W wx w'):
  Calls Tryz.prog 64 #[.pointer (some ⟨bt,0,none⟩),.string from_,.func (.func fw) #[] cw] w fun e w'=>∃v,e= .returned (.tuple #[v,.nilIface])/\BU w.heap.size v (Bd wnt from_ 0 T.all) w'/\Aa W w w':=by
 have HA:Hid _:=hA;have HT:Hid _:=hT;have HW:Hid _:=h;have hmf:∀(fn:Fn) (first cap:Array Value) (w:World),(Instr.makeFunc fn first cap).run Tryz.prog w= .ok (.func fn first cap) w:=fun _ _ _ _=>rfl;have HI:Hid (I 0 w):=hI;have HST:Hid _:=hst;have HC:Hid _:=hc;have HWW:Hid _:=hW;have HB0:Hid (Below w.heap.size w ((w.alloc (.cells #[.string from_] 9)).alloc (.cells #[.func (.func fw) #[] cw] 156))):=((Below.refl _ w).alloc (Nat.le_refl _) _).alloc (by simp) _;have HT0:Hid _:=hT.below HB0.out;have HW0:Hid _:=h.below HB0.out;have n1:=Ai.new w (.string from_) 9;have HO1:Hid (Ai w.heap.size (.string from_) ((w.alloc (.cells #[.string from_] 9)).alloc (.cells #[.func (.func fw) #[] cw] 156))):=n1.below ((Below.refl _ _).alloc (Nat.le_refl _) _)
 have HO2:Hid (Ai (w.heap.size+1) (.func (.func fw) #[] cw) ((w.alloc (.cells #[.string from_] 9)).alloc (.cells #[.func (.func fw) #[] cw] 156))):=by
  have:=Ai.new (w.alloc (.cells #[.string from_] 9)) (.func (.func fw) #[] cw) 156;rw[World.size_alloc]at this;exact this
 have q1:=HO1.out.cell;clear hA hT h hI hst hc hW n1;go_enter Tryz.func64,Tryz.ntmps64;go_wp2_with fail;refine(Gq HT0.out HW0.out HA.out from_).mono ?_;rintro _ w1 ⟨v,l,txt,a,b,rfl,hs,hv1,hb1⟩;have HS:Hid _:=hs;obtain⟨a9,cap9,hv9,_⟩:=hv1.is;rw[Ak]at hv9;obtain⟨n9,hn9⟩:∃n,T.ks.length=n:=⟨_,rfl⟩;rw[hn9]at hv9;subst hv9;have HV1:Hid _:=hv1;have HO11:Hid _:=HO1.out.below hb1;have HO21:Hid _:=HO2.out.below hb1;have HB1:Hid (Below w.heap.size w w1):=HB0.out.trans (hb1.mono HB0.out.size);have HNN:Hid _:=hn9;have HSZ:Hid (w.heap.size+1+1<=w1.heap.size):=by have:=hb1.size;simp at this;exact this
 have hll:l<=n9:=by
  rcases hs with⟨_,h2,_⟩|h2
  ·omega
  ·have:=h2.lt;rw[<-HA.out.len,hn9]at this;omega
 obtain⟨v',hv2,hcut⟩:=hv1.cut l n9 hll (by rw[Ak,hn9];exact Nat.le_refl _);have hsl:∀wx,(Instr.slice 69 (.slice a9 n9 cap9) (some (.int .i64 (l:Nat))) none none).run Tryz.prog wx= .ok v' wx:=fun wx=>((hcut Tryz.underlying69 C6 DD (l:Nat) (n9:Nat) rfl rfl wx).2.2 (by rw[Ak,hn9]))
 have hdr:((At T.ks).drop l).take (n9-l)=At (T.ks.drop l):=by
  rw[List.take_of_length_le (by rw[List.length_drop,Ak,hn9];exact Nat.le_refl _)];exact(List.map_drop ..).symm
 rw[hdr]at hv2;have HV2:Hid (Ao (w.heap.size+1+1) v' (At (T.ks.drop l)) w1):=by show Ao _ _ _ _;simpa using hv2
 have HT1:Hid (Tt bt bp r w1):=HT.out.below HB1.out;have HW1:Hid (Tw bp bd bm N s up cm V w1):=HW.out.below HB1.out;obtain⟨a8,cap8,hv8,_⟩:=hv2.is;generalize (At (List.drop l T.ks)).length=n8 at hv8;subst hv8;clear hs hv1 hb1 hn9 HB0 HT0 HW0 HO1 HO2 q1 hcut hv2 hdr hll HV1;go_wp2_with fail;obtain⟨wB,hwB⟩:∃wB,((w1.alloc (.cells #[.int .i64 (T.top:Nat),.slice a9 n9 cap9,.int .i64 (l:Nat),.string txt,.int .i64 (a:Nat),.int .i64 (b:Nat)] 204)).alloc (.cells #[.slice none 0 0] 97)).alloc (.cells #[.func (.func 117) #[] #[.pointer (some ⟨w.heap.size,0,none⟩),.pointer (some ⟨w.heap.size+1,0,none⟩),.pointer (some ⟨w1.heap.size+1,0,none⟩)]] 207)=wB:=⟨_,rfl⟩;have hbB:Below w1.heap.size w1 wB:=by rw[<-hwB];exact(((Below.refl _ w1).alloc (Nat.le_refl _) _).alloc (by simp) _).alloc (by simp;omega) _
 have hszB:wB.heap.size=w1.heap.size+1+1+1:=by rw[<-hwB];simp
 have HPV:Hid (LZ (w1.heap.size+1) (w1.heap.size+1+1+1) [] wB):=by
  refine⟨.slice none 0 0,?_,World.ownsRow_nil _ _ _ _⟩;rw[<-hwB];have:=Ai.new (w1.alloc (.cells #[.int .i64 (T.top:Nat),.slice a9 n9 cap9,.int .i64 (l:Nat),.string txt,.int .i64 (a:Nat),.int .i64 (b:Nat)] 204)) (.slice none 0 0) 97;rw[World.size_alloc]at this;exact this.below ((Below.refl _ _).alloc (Nat.le_refl _) _)
 have HTK:Hid (Ai (w1.heap.size+1+1) (.func (.func 117) #[] #[.pointer (some ⟨w.heap.size,0,none⟩),.pointer (some ⟨w.heap.size+1,0,none⟩),.pointer (some ⟨w1.heap.size+1,0,none⟩)]) wB):=by
  rw[<-hwB];have:=Ai.new ((w1.alloc (.cells #[.int .i64 (T.top:Nat),.slice a9 n9 cap9,.int .i64 (l:Nat),.string txt,.int .i64 (a:Nat),.int .i64 (b:Nat)] 204)).alloc (.cells #[.slice none 0 0] 97)) (.func (.func 117) #[] #[.pointer (some ⟨w.heap.size,0,none⟩),.pointer (some ⟨w.heap.size+1,0,none⟩),.pointer (some ⟨w1.heap.size+1,0,none⟩)]) 207;rw[World.size_alloc,World.size_alloc]at this;exact this
 rw[hwB];clear hwB;have hsz:=HSZ.out;have hltw:=HW.out.lt;have hltt:=HT.out.lt;have hWW:=HWW.out;have hcc:SK wnt I W fw w.heap.size (w.heap.size+1) (w1.heap.size+1) (w1.heap.size+1+1+1) cw:=⟨by omega,by omega,by omega,fun b hb=>(hWW b hb).1,eg,HST.out,HC.out⟩;have HCC:Hid _:=hcc;have HE0:Hid (Gg wnt from_ I W fw w.heap.size (w.heap.size+1) (w1.heap.size+1) (w1.heap.size+1+1+1) cw wB [] wB):=⟨HO11.out.below hbB,HO21.out.below hbB,HPV.out,HST.out _ _ _ (HST.out _ _ _ HI.out (Kd HB1.out (fun b h=>h))) (Ab hbB _),Aa.refl _ _,by omega⟩;have hon:∀ps wx,Gg wnt from_ I W fw w.heap.size (w.heap.size+1) (w1.heap.size+1) (w1.heap.size+1+1+1) cw wB ps wx->Aa W w1 wx:=fun ps wx hE=>(Ab hbB W).trans hE.on (fun i hi=>by rcases hi with hi|hi|hi;exact .inl hi;exact .inr (by omega);exact .inr (by omega));obtain⟨fin,hfin⟩:∃fin,Bd wnt from_ 0 (T.Ls.drop l).flatten=fin:=⟨_,rfl⟩;have HFIN:Hid _:=hfin
 have hflen:fin.length<=40000:=by
  have h1:=GM (wnt:=wnt) (from_:=from_) (T.Ls.drop l).flatten 0;have h2:=OQ (T.Ls.drop l).flatten;have h3:szL T.Ls.flatten=szL (T.Ls.take l).flatten+szL (T.Ls.drop l).flatten:=by rw[<-Af,<-List.flatten_append,List.take_append_drop]
  have h4:=HA.out.ok.sum;rw[hfin]at h1;omega
 have hkl:(T.ks.drop l).length=(T.Ls.drop l).length:=by rw[List.length_drop,List.length_drop,HA.out.len]
 refine(Jq (N:=N) (s:=s) (up:=up) (cm:=cm) (V:=V) (bp:=bp) (bd:=bd) (bm:=bm) (r:=r) (B:=w.heap.size+1+1) hkl (by have:=HA.out.ok.len;have:=HA.out.len;rw[List.length_drop];omega) (fun k hk=>(HA.out.low k (List.mem_of_mem_drop hk)).2) (fun i hi hl=> ?_)
  (fun i wx=>∃ps,Gg wnt from_ I W fw w.heap.size (w.heap.size+1) (w1.heap.size+1) (w1.heap.size+1+1+1) cw wB ps wx/\ps++Bd wnt from_ ps.length ((T.Ls.drop l).drop i).flatten=fin)
  (fun wx=>SJ W (w1.heap.size+1) (w1.heap.size+1+1+1) wB fin wx) (fun i wx hh=> ?_) (fun i wx wy hh hb=> ?_) (enters_of Tryz.func120 (by kernel_rfl) rfl) (fun i hi wx hh=> ?_) _ ⟨[],HE0.out,by rw[List.drop_zero];exact hfin⟩).mono ?_
 ·have:=HA.out.leaf (i:=l+i) (by rw[List.length_drop]at hl;omega)
  simpa using this
 ·obtain⟨ps,k1,k2⟩:=hh
  have ho:=hon ps wx k1;refine⟨HT1.out.only ho (fun e=>(hWW _ e).2.1 rfl),HW1.out.only ho (fun e=>(hWW _ e).2.2.1 rfl) (fun e=>(hWW _ e).2.2.2.2 rfl) (fun e=>(hWW _ e).2.2.2.1 rfl),HV2.out.only ho (fun b hb=>by have:=(hWW b hb).1;omega)⟩
 ·obtain⟨ps,k1,k2⟩:=hh
  exact⟨ps,k1.below HCC.out hb,k2⟩
 ·obtain⟨ps,k1,k2⟩:=hh
  rw[List.drop_eq_getElem_cons hi,List.flatten_cons]at k2;have hm:(T.Ls.drop l)[i]∈T.Ls:=List.mem_of_mem_drop (List.getElem_mem hi);have hft:=HA.out.ok.fit _ hm;refine(LQ HCC.out k1 (HTK.out.only k1.on (fun e=>by rcases e with e|e|e;have:=(hWW _ e).1;omega;omega;omega)) (HA.out.ok.ok _ hm) (by omega) k2 hflen).mono ?_;rintro e w' ⟨b,rfl,hb⟩;refine⟨b,rfl,?_⟩
  cases b
  ·exact hb
  ·exact hb
 rintro _ w2 ⟨rfl,hD⟩
 have hD2:SJ W (w1.heap.size+1) (w1.heap.size+1+1+1) wB fin w2:=by
  rcases hD with⟨ps,k1,k2⟩|hD
  ·rw[List.drop_length]at k2
   have e:ps=fin:=by rw[<-k2];simp[Bd]
   subst e;exact⟨k1.pv,k1.on⟩
  ·exact hD
 obtain⟨⟨vl,p1,p2⟩,p3⟩:=hD2;have HP2:Hid (BU w.heap.size vl fin w2):=AE p2 (by omega);have HO3:Hid (Aa W w w2):=((Ab HB1.out W).trans (Ab hbB W) (fun i hi=> .inl hi)).trans p3 (fun i hi=>by rcases hi with hi|hi|hi;exact .inl hi;exact .inr (by omega);exact .inr (by omega));have c9:=p1.cell;clear p1 p2 p3 hD hon hcc hbB hszB;go_wp2;go_ret2;refine⟨_,rfl,?_,HO3.out⟩
 have:Bd wnt from_ 0 T.all=fin:=by
  rw[<-HFIN.out];have e0:T.all=(T.Ls.take l).flatten++(T.Ls.drop l).flatten:=by rw[<-List.flatten_append,List.take_append_drop];rfl
  rw[e0];exact IC _ _ _ (El.lessAll HS.out HA.out.ok)
 rw[this];exact HP2.out
end
def Ue:Value->Nat
 | .slice _ n _=>n
 |_=>0
structure Lc (V:Pst) (P:List Nat) (V':Pst):Prop where
 used:∀k,V'.used k=true↔V.used k=true/\k∉P
 tx:V'.tx=V.tx
 rp:V'.rp=V.rp
 rn:V'.rn=V.rn
theorem Lc.free {V V':Pst} {P:List Nat} (h:Lc V P V') (k:Nat):Lc V (P++[k]) (V'.free k):=by
 refine⟨fun j=> ?_,h.tx,h.rp,h.rn⟩;show(if j=k then false else V'.used j)=true↔_
 by_cases e:j=k
 ·subst e;simp
 ·rw[if_neg e,h.used j];simp[e]
def Uo (bp bd bm N:Nat) (s:St) (up:Nat->Bool) (cm:Int) (V:Pst) (w:World) (B:Nat) (P:List Nat) (want:Nat) (e:Ending) (w':World):Prop:=∃v' V' P' N',e= .returned (.tuple #[v',.nilIface])/\Ao B v' (At P') w'/\P'.length=want/\Gf V P V' P'/\Tw bp bd bm N' s up cm V' w'/\N'<=N+want/\Aa (fun b=>b=bp\/b=bm\/B<=b) w w'
section
variable {bt bp bd bm N r:Nat} {s:St} {up:Nat->Bool} {cm:Int} {V:Pst} {w:World}
set_option maxHeartbeats 1000000
theorem TA (hT:Tt bt bp r w) (h:Tw bp bd bm N s up cm V w) (hne:bt≠bp/\bt≠bm) {B:Nat} {v:Value} {P:List Nat} (hB:bt<B/\bp<B/\bm<B/\bd<B/\B<=w.heap.size) (hR:D5 B v P w)
  (hP:∀k∈P,0<k/\k<2000/\V.used k=true) (hnd:P.Nodup) (hPl:P.length<=100) (want:Nat) (hw:want<=100) (hcnt:A1 V.used 2000+want<1999) (hN:N+want<1000000):
  Calls Tryz.prog 210 #[.pointer (some ⟨bt,0,none⟩),v,.int .i64 (want:Nat)] w fun e w'=>Uo bp bd bm N s up cm V w B P want e w':=by
 have HT:Hid _:=hT;have HW:Hid _:=h;have HR:Hid _:=hR;have HF:Hid (Gf V P V P):=Gf.refl hP hnd;obtain⟨hB1,hB2,hB3,hB4,hB5⟩:=hB;obtain⟨a0,cap0,hv0,_⟩:=hR.view.is;rw[Ak]at hv0;obtain⟨n0,hn0⟩:∃n,P.length=n:=⟨_,rfl⟩;rw[hn0]at hv0;subst hv0;have HN0:Hid (P.length=n0):=hn0;have hn0b:n0<=100:=by omega
 have HCN:Hid (A1 V.used 2000+want<1999):=hcnt;have HNN:Hid (N+want<1000000):=hN;clear hT h hR hP hn0 hcnt hN hPl;go_enter Tryz.func210,Tryz.ntmps210;go_wp2_with fail;go_loopw [1] (fun pg wr=>∃(P1:List Nat) (V1:Pst) (N1 n1:Nat) (a1:Option Addr) (cap1:Nat),pg= .slice a1 n1 cap1/\Hid (P1.length=n1)/\n0<=n1/\(n1<=want\/n1=n0)/\Hid (D5 B pg P1 wr)/\Hid (Gf V P V1 P1)/\Hid (Tw bp bd bm N1 s up cm V1 wr)/\Hid (Tt bt bp r wr)/\N1+n0<=N+n1/\Hid (Aa (fun b=>b=bp\/b=bm\/B<=b) w wr)/\Hid (A1 V1.used 2000+n0<=A1 V.used 2000+n1)) (fun pg _=>want+1-Ue pg)
 case atStart=>exact⟨P,V,N,n0,a0,cap0,rfl,HN0,Nat.le_refl _,.inr rfl,HR,HF,HW,HT,Nat.le_refl _,Aa.refl _ _,Nat.le_refl _⟩
 case round=>
  clear HT HW HR HF;obtain⟨P1,V1,N1,n1,a1,cap1,rfl,HN1,hn1,hn1b,HR,HF,HW,HT,hNN,HO,HCU⟩:=hrel
  by_cases hlt:n1<want
  ·have h1:(n1:Int)<(want:Int):=by omega
   have q0:=HT.out.cp;obtain⟨k,k0,k1,k2,k3⟩:=Qs (f:=V1.used) 1999 (by have:=HCU.out;have:=HCN.out;show A1 V1.used 2000<1999;omega);have HF2:Hid (Gf V P (V1.alloc k) (P1++[k])):=HF.out.alloc (by rw[HN0.out,HN1.out];exact hn1) k0 k1 k2;have HK:Hid (V1.used k=false/\∀j,0<j->j<k->V1.used j=true):=⟨k2,k3⟩;clear k2 k3;go_wp2_with fail;refine(QW HW.out (by have:=HNN.out;omega) k k0 k1 HK.out.1 HK.out.2).mono ?_;rintro _ w1 ⟨rfl,hW1,ho1⟩;have HW1:Hid _:=hW1;have HT1:Hid (Tt bt bp r w1):=HT.out.only ho1 (fun e=>by rcases e with e|e;exact hne.1 e;exact hne.2 e);have HR1:Hid (D5 B (.slice a1 n1 cap1) P1 w1):=Aw HR.out ho1 (fun b e=>by rcases e with e|e<;>omega);have HO1:Hid (Aa (fun b=>b=bp\/b=bm\/B<=b) w w1):=HO.out.trans ho1 (fun i hi=> .inl (by rcases hi with hi|hi;exact .inl hi;exact .inr (.inl hi)))
   have HCU1:Hid (A1 (V1.alloc k).used 2000+n0<=A1 V.used 2000+(n1+1)):=by
    have:=Gb V1.used k 2000;have h9:=HCU.out;show A1 (fun i=>if i=k then true else V1.used i) 2000+n0<=_;omega
   have hsz1:B<=w1.heap.size:=Nat.le_trans hB5 HO1.out.size;clear hW1 ho1 q0 HW HT HR HO HCU HF;have HO2:Hid _:=World.ownsRow.alloc HR1.out (.cells #[.int .i64 (k:Nat)] 3);have hll:P1.length=n1:=HN1.out;obtain⟨i0,hi,hz0,hz1,hz2⟩:=MR;have HLL:Hid (P1.length=n1):=hll;clear hll
   go_wp2_with (at_builtin;refine wpList_append_own _ rfl _ _ 69 rfl B 3 i0 (.int .i64 0) 1 8 Tryz.underlying69 hi hz0 hz1 hz2 rfl (by decide) _ _ _ rfl HO2.out ⟨w1.heap.size,0,none⟩ 1 1 [.int .i64 (k:Nat)] rfl rfl (Bs w1 _ 3) (by intro u hu;simp at hu;subst hu;rfl) (by rw[HLL.out];simp only[maxLen];omega) (by rw[HLL.out];omega) (by simp;omega) ?_;intro v' w' hO hG hN;have HX:Hid (Aa (fun b=>B<=b) w1 w'):=((Ab ((Below.refl _ w1).alloc (Nat.le_refl _) _) _).trans (By (S:=fun b=>B<=b) hG (fun b e=>(World.ownsRow.lt HR1.out b e).1)) (fun i hi=> .inl hi));have HOO:Hid (D5 B v' (P1++[k]) w'):=(by unfold D5;rw[List.length_append,List.map_append];exact hO);clear hO hG hN;obtain⟨a2,cap2,hv2,_⟩:=HOO.out.view.is;have hle:(At (P1++[k])).length=n1+1:=(by rw[Ak,List.length_append,HLL.out];rfl);rw[hle]at hv2;subst hv2)
   go_roundw
   case rel=>
    refine⟨P1++[k],V1.alloc k,N1+1,n1+1,a2,cap2,rfl,?_,by omega,.inl (by omega),HOO,HF2,?_,?_,by omega,?_,HCU1⟩
    ·show _=_
     rw[List.length_append,HLL.out];rfl
    ·exact HW1.out.only HX.out (by omega) (by omega) (by omega)
    ·exact HT1.out.only HX.out (by omega)
    ·exact HO1.out.trans HX.out (fun i hi=> .inl (.inr (.inr hi)))
   case measure=>simp[Ue];omega
  ·have h1:¬(n1:Int)<(want:Int):=by omega
   obtain⟨v2,hv2,hc2⟩:=HR.out.view.cut want n1 (by omega) (by rw[Ak,HN1.out];exact Nat.le_refl _);obtain⟨v3,hv3,hc3⟩:=HR.out.view.cut 0 want (by omega) (by rw[Ak,HN1.out];omega);have hs2:∀wx,(Instr.slice 69 (.slice a1 n1 cap1) (some (.int .i64 (want:Nat))) none none).run Tryz.prog wx= .ok v2 wx:=fun wx=>((hc2 Tryz.underlying69 C6 DD (want:Nat) (n1:Nat) rfl rfl wx).2.2 (by rw[Ak,HN1.out]));have hs3:∀wx,(Instr.slice 69 (.slice a1 n1 cap1) none (some (.int .i64 (want:Nat))) none).run Tryz.prog wx= .ok v3 wx:=fun wx=>((hc3 Tryz.underlying69 C6 DD 0 (want:Nat) rfl rfl wx).2.1 rfl)
   have e2:((At P1).drop want).take (n1-want)=At (P1.drop want):=by
    rw[List.take_of_length_le (by rw[List.length_drop,Ak,HN1.out];exact Nat.le_refl _)];exact(List.map_drop ..).symm
   have e3:((At P1).drop 0).take (want-0)=At (P1.take want):=by
    rw[List.drop_zero,Nat.sub_zero];exact(List.map_take ..).symm
   rw[e2]at hv2;rw[e3]at hv3;obtain⟨a2,cap2,hw2,_⟩:=hv2.is;have hl2:(At (P1.drop want)).length=n1-want:=by rw[Ak,List.length_drop,HN1.out]
   rw[hl2]at hw2;subst hw2;obtain⟨m,hm⟩:∃m,n1-want=m:=⟨_,rfl⟩;rw[hm]at hv2 hs2;have HV2:Hid (Ao B (.slice a2 m cap2) (At (P1.drop want)) _):=hv2;have HV3:Hid (Ao B v3 (At (P1.take want)) _):=hv3;have HM:Hid ((P1.drop want).length=m):=by show _=_;rw[List.length_drop,HN1.out];exact hm
   have hmb:m<=100:=by omega
   obtain⟨a3,cap3,hw3,_⟩:=hv3.is;have hl3:(At (P1.take want)).length=want:=by rw[Ak,List.length_take,HN1.out];omega
   rw[hl3]at hw3;subst hw3;have HL3:Hid ((P1.take want).length=want):=by show _=_;rw[List.length_take,HN1.out];omega
   have HNV:Hid (N1<=N+want):=by show N1<=_;omega
   have HR0:Hid (Lc V1 ((P1.drop want).take 0) V1):=⟨fun k=>by simp,rfl,rfl,rfl⟩;clear hc2 hc3 hv2 hv3 e2 e3 hl2 hl3 hm HR HCU hNN;obtain⟨wf,hwf⟩:∃wf,wf=wr:=⟨_,rfl⟩;rw[<-hwf]at HW HT HO HV2 HV3;rw[<-hwf];clear hwf;go_wp2_with fail;go_loopw [43] (fun i wr=>∃(j:Nat) (V2:Pst),j<=m/\i= .int .i64 (j:Nat)/\Hid (Lc V1 ((P1.drop want).take j) V2)/\Hid (Tw bp bd bm N1 s up cm V2 wr)/\Hid (Tt bt bp r wr)/\Hid (Aa (fun b=>b=bp\/b=bm\/B<=b) w wr)/\Hid (Ao B (.slice a2 m cap2) (At (P1.drop want)) wr)/\Hid (Ao B (.slice a3 want cap3) (At (P1.take want)) wr)) (fun i _=>m+1-(intOf i).toNat)
   case atStart=>exact⟨0,V1,Nat.zero_le _,rfl,HR0,HW,HT,HO,HV2,HV3⟩
   case round=>
    clear HR0 HW HT HO HV2 HV3;obtain⟨j,V2,hj,rfl,HR,HW,HT,HO,HV2,HV3⟩:=hrel
    by_cases hjm:j<m
    ·have h2:(j:Int)<(m:Int):=by omega
     have hjj:j<(P1.drop want).length:=by rw[HM.out];exact hjm
     obtain⟨b0,o0,k1,k2,k3,k4⟩:=HV2.out.at (i:=j) (by rw[Ak];exact hjj);rw[DN hjj]at k3;have hix:∀wx,(Instr.indexAt 69 (.slice a2 m cap2) (.int .i64 (j:Nat))).run Tryz.prog wx= .ok (.pointer (some ⟨b0,o0,none⟩)) wx:=k4 Tryz.underlying69 C6 DD (j:Nat) rfl;have q0:=HT.out.cp;have hmem:(P1.drop want)[j]∈P1:=List.mem_of_mem_drop (List.getElem_mem hjj);have HLO:Hid _:=HF.out.low _ hmem
     have HUS:Hid (V2.used (P1.drop want)[j]=true):=by
      rw[show Hid (V2.used (P1.drop want)[j]=true)=(V2.used (P1.drop want)[j]=true)from rfl,HR.out.used];refine⟨(HF.out.used _).2 (.inr hmem),fun e=> ?_⟩;have hn:(P1.drop want).Nodup:=HF.out.nodup.sublist (List.drop_sublist _ _);obtain⟨i,hi,he⟩:=List.getElem_of_mem e;rw[List.getElem_take]at he;rw[List.length_take]at hi;have:=(List.getElem_inj hn).1 he;omega
     have HR2:Hid (Lc V1 ((P1.drop want).take (j+1)) (V2.free (P1.drop want)[j])):=by
      have:=HR.out.free (P1.drop want)[j];rw[<-List.take_succ_eq_append_getElem hjj]at this;exact this
     obtain⟨K,hK⟩:∃K,(P1.drop want)[j]=K:=⟨_,rfl⟩;rw[hK]at k3 HLO HUS HR2;clear hK hmem hjj k1 k2 k4;go_wp2_with fail;refine(SP HW.out K HLO.out.2 HUS.out).mono ?_;rintro _ w2 ⟨rfl,hW2,ho2⟩;have HW2:Hid _:=hW2;have HT2:Hid (Tt bt bp r w2):=HT.out.only ho2 (fun e=>by rcases e with e|e;exact hne.1 e;exact hne.2 e);have HO2:Hid (Aa (fun b=>b=bp\/b=bm\/B<=b) w w2):=HO.out.trans ho2 (fun i hi=> .inl (by rcases hi with hi|hi;exact .inl hi;exact .inr (.inl hi)));have HV22:Hid (Ao B (.slice a2 m cap2) (At (P1.drop want)) w2):=HV2.out.only ho2 (fun b e=>by rcases e with e|e<;>omega);have HV32:Hid (Ao B (.slice a3 want cap3) (At (P1.take want)) w2):=HV3.out.only ho2 (fun b e=>by rcases e with e|e<;>omega);clear hW2 ho2 k3 q0 HW HT HO HV2 HV3 HR;go_wp2_with fail;go_roundw
     case rel=>exact⟨j+1,_,by omega,by go_num,HR2,HW2,HT2,HO2,HV22,HV32⟩
     case measure=>simp[intOf];omega
    ·have h2:¬(j:Int)<(m:Int):=by omega
     obtain rfl:j=m:=by omega
     have hrr:=HR.out;rw[List.take_of_length_le (by rw[HM.out];exact Nat.le_refl _)]at hrr;have HFF:Hid (Gf V P V2 (P1.take want)):=HF.out.cut want hrr.used hrr.tx hrr.rp hrr.rn;clear hrr;go_wp2;go_ret2;exact⟨_,V2,P1.take want,N1,rfl,HV3.out,HL3.out,HFF.out,HW.out,HNV.out,HO.out⟩
end
theorem D9 {w:World} {ops:Array Oper} {rest:List Oper} {o:Oper} {a:Act} {Q:Exit->Act->World->Prop} (hgd:o.guard=none) (s x:Operand)
  (ho:o.op= .call {callee:= .builtin .append,args:= #[s,x],argTypes:= #[69,69]}) {B C:Nat} {v u:Value} {ks js:List Nat} (hs:a.eval s=v) (hown:D5 B v ks w) (hx:a.eval x=u) (hv:Ao C u (At js) w)
  (hb:ks.length+js.length<=4000) (hB:B<=w.heap.size)
  (h:∀v' w',Hid (D5 B v' (ks++js) w')->Hid (Aa (fun b=>B<=b) w w')->wpList Tryz.prog ops Q rest (a.put o.dst v') w'):wpList Tryz.prog ops Q (o::rest) a w:=by
 obtain⟨i0,hi,hz0,hz1,hz2⟩:=MR;obtain⟨ad,cap,e,h1,h2,h3,h4⟩:=hv.is;rw[Ak]at e h1
 cases ad with
 |none=>
  have h0:=h3 rfl;obtain rfl:js=[]:=List.length_eq_zero_iff.1 (by omega);subst h0;refine wpList_append_own_none hgd s x 69 ho B 3 i0 1 Tryz.underlying69 hi v _ _ hs hown (by rw[hx,e];rfl) ?_;exact h v w (by rw[List.append_nil];exact hown) (Aa.refl _ _)
 |some ad=>
  obtain⟨b,off,rfl,k1,k2,k3⟩:=h4 ad rfl;refine wpList_append_own w hgd s x 69 ho B 3 i0 (.int .i64 0) 1 8 Tryz.underlying69 hi hz0 hz1 hz2 rfl (by decide) v _ _ hs hown ⟨b,off,none⟩ js.length cap (At js) (by rw[hx,e]) (by rw[Ak,Nat.mul_one]) (fun j u hu=> ?_) (fun u hu=> ?_) (by simp only[maxLen];omega) (by omega) hB ?_
  ·obtain⟨hj,rfl⟩:=List.getElem?_eq_some_iff.1 hu
   rw[A6];exact k3 j hj
  ·obtain⟨k,_,rfl⟩:=List.mem_map.1 hu
   rfl
  ·intro v' w' hO hG _
   refine h v' w' ?_ (By hG (fun k e=>(World.ownsRow.lt hown k e).1));show D5 _ _ _ _;unfold D5;rw[List.length_append,List.map_append];exact hO
theorem Vt:(Value.int .i64 0).cells= #[.int .i64 0]:=rfl
theorem Sd (n:Nat) (h0:0<n) (hn:n<=4000) (w:World):
  Calls Tryz.prog 237 #[.slice none 0 0,.int .i64 (n:Nat)] w fun e w'=>∃v,e= .returned v/\D5 w.heap.size v [] w'/\Below w.heap.size w w':=by
 obtain⟨i0,hi,hz0,hz1,hz2⟩:=MR;have hr:=fun ty=>Lib.run_append_nil_zeros (P:=Tryz.prog) w 69 3 ty 3 i0 (.int .i64 0) .i64 .i64 Tryz.underlying69 Tryz.underlying3 hi hz0 n h0 (by omega) (by omega) (by rw[hz2];omega);have hG1:=grownCap_ge w n 0 3;have hG2:=grownCap_le_maxLen w n 0 3 (by unfold maxLen;omega)
 have hgz:(Builtin.zeroCells (Value.int .i64 0).cells n++Builtin.zeroCells (Value.int .i64 0).cells (grownCap w n 0 3-n)).size=grownCap w n 0 3:=by
  simp[Builtin.zeroCells,Vt];omega
 obtain⟨G,hG⟩:∃G,grownCap w n 0 3=G:=⟨_,rfl⟩;rw[hG]at hr hG1 hG2 hgz;obtain⟨cs,hcs⟩:∃cs,Builtin.zeroCells (Value.int .i64 0).cells n++Builtin.zeroCells (Value.int .i64 0).cells (G-n)=cs:=⟨_,rfl⟩;rw[hcs]at hr hgz;have HR:Hid (D5 w.heap.size (.slice (some ⟨w.heap.size,0,none⟩) 0 G) [] (w.drew.alloc (.cells cs 3))):=⟨rfl,.inr ⟨w.heap.size,G,cs,rfl,Nat.le_refl _,heap_alloc_new w.drew _,Nat.zero_le _,hG2,by rw[hgz,Nat.mul_one],by simp⟩⟩;have HB:Hid (Below w.heap.size w (w.drew.alloc (.cells cs 3))):=(Below.refl _ w).drew.alloc (Nat.le_refl _) _;clear hG hcs hgz hG2;have hGi:(0:Int)<=(G:Int):=by omega
 have hgz:¬G=0:=by omega
 go_enter Tryz.func237,Tryz.ntmps237
 go_wp2_with (at_builtin;refine Lib.wpList_append_run _ rfl _ _ _ _ rfl _ _ rfl rfl _ _ (hr _) ?_)
 go_ret;exact⟨_,rfl,HR.out,HB.out⟩
end
end Go.Proofs.YtihnldkgeelehaaGreatDoor
