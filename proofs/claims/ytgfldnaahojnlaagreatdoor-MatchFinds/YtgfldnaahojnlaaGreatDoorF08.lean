/- MatchFinds: part 8. -/
import Derived.Test.YtgfldnaahojnlaaGreatDoorF07
import Derived.Laws.AppendOwnNone
import Derived.Lib.AppendZeros
set_option maxRecDepth 100000
set_option maxHeartbeats 4000000
namespace Go.Proofs.YtgfldnaahojnlaaGreatDoor
section
open Go.RowKit Go.Maps
def Xk:Value->Nat
 | .slice _ n _=>n
 |_=>0
structure LP (V:Pst) (P:List Nat) (V':Pst):Prop where
 used:∀k,V'.used k=true↔V.used k=true/\k∉P
 tx:V'.tx=V.tx
 rp:V'.rp=V.rp
 rn:V'.rn=V.rn
theorem LP.free {V V':Pst} {P:List Nat} (h:LP V P V') (k:Nat):LP V (P++[k]) (V'.free k):=by
 refine⟨fun j=> ?_,h.tx,h.rp,h.rn⟩;show(if j=k then false else V'.used j)=true↔_
 by_cases e:j=k
 ·subst e;simp
 ·rw[if_neg e,h.used j];simp[e]
def Xw (bp bd bm N:Nat) (s:St) (up:Nat->Bool) (cm:Int) (V:Pst) (w:World) (B:Nat) (P:List Nat) (want:Nat) (e:Ending) (w':World):Prop:=∃v' V' P' N',e= .returned (.tuple #[v',.nilIface])/\An B v' (Ay P') w'/\P'.length=want/\Hn V P V' P'/\Tw bp bd bm N' s up cm V' w'/\N'<=N+want/\Aa (fun b=>b=bp\/b=bm\/B<=b) w w'
section
variable {bt bp bd bm N r:Nat} {s:St} {up:Nat->Bool} {cm:Int} {V:Pst} {w:World}
set_option maxHeartbeats 1000000
theorem WH (hT:Tt bt bp r w) (h:Tw bp bd bm N s up cm V w) (hne:bt≠bp/\bt≠bm) {B:Nat} {v:Value} {P:List Nat} (hB:bt<B/\bp<B/\bm<B/\bd<B/\B<=w.heap.size) (hR:Em B v P w)
  (hP:∀k∈P,0<k/\k<2000/\V.used k=true) (hnd:P.Nodup) (hPl:P.length<=100) (want:Nat) (hw:want<=100) (hcnt:AB V.used 2000+want<1999) (hN:N+want<1000000):
  Calls Tryz.prog 185 #[.pointer (some ⟨bt,0,none⟩),v,.int .i64 (want:Nat)] w fun e w'=>Xw bp bd bm N s up cm V w B P want e w':=by
 have HT:Hid _:=hT;have HW:Hid _:=h;have HR:Hid _:=hR;have HF:Hid (Hn V P V P):=Hn.refl hP hnd;obtain⟨hB1,hB2,hB3,hB4,hB5⟩:=hB;obtain⟨a0,cap0,hv0,_⟩:=hR.view.is;rw[Ai]at hv0;obtain⟨n0,hn0⟩:∃n,P.length=n:=⟨_,rfl⟩;rw[hn0]at hv0;subst hv0;have HN0:Hid (P.length=n0):=hn0;have hn0b:n0<=100:=by omega
 have HCN:Hid (AB V.used 2000+want<1999):=hcnt;have HNN:Hid (N+want<1000000):=hN;clear hT h hR hP hn0 hcnt hN hPl;go_enter Tryz.func185,Tryz.ntmps185;go_wp2_with fail;go_loopw [1] (fun pg wr=>∃(P1:List Nat) (V1:Pst) (N1 n1:Nat) (a1:Option Addr) (cap1:Nat),pg= .slice a1 n1 cap1/\Hid (P1.length=n1)/\n0<=n1/\(n1<=want\/n1=n0)/\Hid (Em B pg P1 wr)/\Hid (Hn V P V1 P1)/\Hid (Tw bp bd bm N1 s up cm V1 wr)/\Hid (Tt bt bp r wr)/\N1+n0<=N+n1/\Hid (Aa (fun b=>b=bp\/b=bm\/B<=b) w wr)/\Hid (AB V1.used 2000+n0<=AB V.used 2000+n1)) (fun pg _=>want+1-Xk pg)
 case atStart=>exact⟨P,V,N,n0,a0,cap0,rfl,HN0,Nat.le_refl _,.inr rfl,HR,HF,HW,HT,Nat.le_refl _,Aa.refl _ _,Nat.le_refl _⟩
 case round=>
  clear HT HW HR HF;obtain⟨P1,V1,N1,n1,a1,cap1,rfl,HN1,hn1,hn1b,HR,HF,HW,HT,hNN,HO,HCU⟩:=hrel
  by_cases hlt:n1<want
  ·have h1:(n1:Int)<(want:Int):=by omega
   have q0:=HT.out.cp;obtain⟨k,k0,k1,k2,k3⟩:=S6 (f:=V1.used) 1999 (by have:=HCU.out;have:=HCN.out;show AB V1.used 2000<1999;omega);have HF2:Hid (Hn V P (V1.alloc k) (P1++[k])):=HF.out.alloc (by rw[HN0.out,HN1.out];exact hn1) k0 k1 k2;have HK:Hid (V1.used k=false/\∀j,0<j->j<k->V1.used j=true):=⟨k2,k3⟩;clear k2 k3;go_wp2_with fail;refine(Tu HW.out (by have:=HNN.out;omega) k k0 k1 HK.out.1 HK.out.2).mono ?_;rintro _ w1 ⟨rfl,hW1,ho1⟩;have HW1:Hid _:=hW1;have HT1:Hid (Tt bt bp r w1):=HT.out.only ho1 (fun e=>by rcases e with e|e;exact hne.1 e;exact hne.2 e);have HR1:Hid (Em B (.slice a1 n1 cap1) P1 w1):=Be HR.out ho1 (fun b e=>by rcases e with e|e<;>omega);have HO1:Hid (Aa (fun b=>b=bp\/b=bm\/B<=b) w w1):=HO.out.trans ho1 (fun i hi=> .inl (by rcases hi with hi|hi;exact .inl hi;exact .inr (.inl hi)))
   have HCU1:Hid (AB (V1.alloc k).used 2000+n0<=AB V.used 2000+(n1+1)):=by
    have:=K2 V1.used k 2000;have h9:=HCU.out;show AB (fun i=>if i=k then true else V1.used i) 2000+n0<=_;omega
   have hsz1:B<=w1.heap.size:=Nat.le_trans hB5 HO1.out.size;clear hW1 ho1 q0 HW HT HR HO HCU HF;have HO2:Hid _:=World.ownsRow.alloc HR1.out (.cells #[.int .i64 (k:Nat)] 3);have hll:P1.length=n1:=HN1.out;obtain⟨i0,hi,hz0,hz1,hz2⟩:=Ob;have HLL:Hid (P1.length=n1):=hll;clear hll
   go_wp2_with (at_builtin;refine wpList_append_own _ rfl _ _ 95 rfl B 3 i0 (.int .i64 0) 1 8 Tryz.underlying95 hi hz0 hz1 hz2 rfl (by decide) _ _ _ rfl HO2.out ⟨w1.heap.size,0,none⟩ 1 1 [.int .i64 (k:Nat)] rfl rfl (IA w1 _ 3) (by intro u hu;simp at hu;subst hu;rfl) (by rw[HLL.out];simp only[maxLen];omega) (by rw[HLL.out];omega) (by simp;omega) ?_;intro v' w' hO hG hN;have HX:Hid (Aa (fun b=>B<=b) w1 w'):=((Ab ((Below.refl _ w1).alloc (Nat.le_refl _) _) _).trans (AI (S:=fun b=>B<=b) hG (fun b e=>(World.ownsRow.lt HR1.out b e).1)) (fun i hi=> .inl hi));have HOO:Hid (Em B v' (P1++[k]) w'):=(by unfold Em;rw[List.length_append,List.map_append];exact hO);clear hO hG hN;obtain⟨a2,cap2,hv2,_⟩:=HOO.out.view.is;have hle:(Ay (P1++[k])).length=n1+1:=(by rw[Ai,List.length_append,HLL.out];rfl);rw[hle]at hv2;subst hv2)
   go_roundw
   case rel=>
    refine⟨P1++[k],V1.alloc k,N1+1,n1+1,a2,cap2,rfl,?_,by omega,.inl (by omega),HOO,HF2,?_,?_,by omega,?_,HCU1⟩
    ·show _=_
     rw[List.length_append,HLL.out];rfl
    ·exact HW1.out.only HX.out (by omega) (by omega) (by omega)
    ·exact HT1.out.only HX.out (by omega)
    ·exact HO1.out.trans HX.out (fun i hi=> .inl (.inr (.inr hi)))
   case measure=>simp[Xk];omega
  ·have h1:¬(n1:Int)<(want:Int):=by omega
   obtain⟨v2,hv2,hc2⟩:=HR.out.view.cut want n1 (by omega) (by rw[Ai,HN1.out];exact Nat.le_refl _);obtain⟨v3,hv3,hc3⟩:=HR.out.view.cut 0 want (by omega) (by rw[Ai,HN1.out];omega);have hs2:∀wx,(Instr.slice 95 (.slice a1 n1 cap1) (some (.int .i64 (want:Nat))) none none).run Tryz.prog wx= .ok v2 wx:=fun wx=>((hc2 Tryz.underlying95 Dh Ex (want:Nat) (n1:Nat) rfl rfl wx).2.2 (by rw[Ai,HN1.out]));have hs3:∀wx,(Instr.slice 95 (.slice a1 n1 cap1) none (some (.int .i64 (want:Nat))) none).run Tryz.prog wx= .ok v3 wx:=fun wx=>((hc3 Tryz.underlying95 Dh Ex 0 (want:Nat) rfl rfl wx).2.1 rfl)
   have e2:((Ay P1).drop want).take (n1-want)=Ay (P1.drop want):=by
    rw[List.take_of_length_le (by rw[List.length_drop,Ai,HN1.out];exact Nat.le_refl _)];exact(List.map_drop ..).symm
   have e3:((Ay P1).drop 0).take (want-0)=Ay (P1.take want):=by
    rw[List.drop_zero,Nat.sub_zero];exact(List.map_take ..).symm
   rw[e2]at hv2;rw[e3]at hv3;obtain⟨a2,cap2,hw2,_⟩:=hv2.is;have hl2:(Ay (P1.drop want)).length=n1-want:=by rw[Ai,List.length_drop,HN1.out]
   rw[hl2]at hw2;subst hw2;obtain⟨m,hm⟩:∃m,n1-want=m:=⟨_,rfl⟩;rw[hm]at hv2 hs2;have HV2:Hid (An B (.slice a2 m cap2) (Ay (P1.drop want)) _):=hv2;have HV3:Hid (An B v3 (Ay (P1.take want)) _):=hv3;have HM:Hid ((P1.drop want).length=m):=by show _=_;rw[List.length_drop,HN1.out];exact hm
   have hmb:m<=100:=by omega
   obtain⟨a3,cap3,hw3,_⟩:=hv3.is;have hl3:(Ay (P1.take want)).length=want:=by rw[Ai,List.length_take,HN1.out];omega
   rw[hl3]at hw3;subst hw3;have HL3:Hid ((P1.take want).length=want):=by show _=_;rw[List.length_take,HN1.out];omega
   have HNV:Hid (N1<=N+want):=by show N1<=_;omega
   have HR0:Hid (LP V1 ((P1.drop want).take 0) V1):=⟨fun k=>by simp,rfl,rfl,rfl⟩;clear hc2 hc3 hv2 hv3 e2 e3 hl2 hl3 hm HR HCU hNN;obtain⟨wf,hwf⟩:∃wf,wf=wr:=⟨_,rfl⟩;rw[<-hwf]at HW HT HO HV2 HV3;rw[<-hwf];clear hwf;go_wp2_with fail;go_loopw [43] (fun i wr=>∃(j:Nat) (V2:Pst),j<=m/\i= .int .i64 (j:Nat)/\Hid (LP V1 ((P1.drop want).take j) V2)/\Hid (Tw bp bd bm N1 s up cm V2 wr)/\Hid (Tt bt bp r wr)/\Hid (Aa (fun b=>b=bp\/b=bm\/B<=b) w wr)/\Hid (An B (.slice a2 m cap2) (Ay (P1.drop want)) wr)/\Hid (An B (.slice a3 want cap3) (Ay (P1.take want)) wr)) (fun i _=>m+1-(intOf i).toNat)
   case atStart=>exact⟨0,V1,Nat.zero_le _,rfl,HR0,HW,HT,HO,HV2,HV3⟩
   case round=>
    clear HR0 HW HT HO HV2 HV3;obtain⟨j,V2,hj,rfl,HR,HW,HT,HO,HV2,HV3⟩:=hrel
    by_cases hjm:j<m
    ·have h2:(j:Int)<(m:Int):=by omega
     have hjj:j<(P1.drop want).length:=by rw[HM.out];exact hjm
     obtain⟨b0,o0,k1,k2,k3,k4⟩:=HV2.out.at (i:=j) (by rw[Ai];exact hjj);rw[EB hjj]at k3;have hix:∀wx,(Instr.indexAt 95 (.slice a2 m cap2) (.int .i64 (j:Nat))).run Tryz.prog wx= .ok (.pointer (some ⟨b0,o0,none⟩)) wx:=k4 Tryz.underlying95 Dh Ex (j:Nat) rfl;have q0:=HT.out.cp;have hmem:(P1.drop want)[j]∈P1:=List.mem_of_mem_drop (List.getElem_mem hjj);have HLO:Hid _:=HF.out.low _ hmem
     have HUS:Hid (V2.used (P1.drop want)[j]=true):=by
      rw[show Hid (V2.used (P1.drop want)[j]=true)=(V2.used (P1.drop want)[j]=true)from rfl,HR.out.used];refine⟨(HF.out.used _).2 (.inr hmem),fun e=> ?_⟩;have hn:(P1.drop want).Nodup:=HF.out.nodup.sublist (List.drop_sublist _ _);obtain⟨i,hi,he⟩:=List.getElem_of_mem e;rw[List.getElem_take]at he;rw[List.length_take]at hi;have:=(List.getElem_inj hn).1 he;omega
     have HR2:Hid (LP V1 ((P1.drop want).take (j+1)) (V2.free (P1.drop want)[j])):=by
      have:=HR.out.free (P1.drop want)[j];rw[<-List.take_succ_eq_append_getElem hjj]at this;exact this
     obtain⟨K,hK⟩:∃K,(P1.drop want)[j]=K:=⟨_,rfl⟩;rw[hK]at k3 HLO HUS HR2;clear hK hmem hjj k1 k2 k4;go_wp2_with fail;refine(VI HW.out K HLO.out.2 HUS.out).mono ?_;rintro _ w2 ⟨rfl,hW2,ho2⟩;have HW2:Hid _:=hW2;have HT2:Hid (Tt bt bp r w2):=HT.out.only ho2 (fun e=>by rcases e with e|e;exact hne.1 e;exact hne.2 e);have HO2:Hid (Aa (fun b=>b=bp\/b=bm\/B<=b) w w2):=HO.out.trans ho2 (fun i hi=> .inl (by rcases hi with hi|hi;exact .inl hi;exact .inr (.inl hi)));have HV22:Hid (An B (.slice a2 m cap2) (Ay (P1.drop want)) w2):=HV2.out.only ho2 (fun b e=>by rcases e with e|e<;>omega);have HV32:Hid (An B (.slice a3 want cap3) (Ay (P1.take want)) w2):=HV3.out.only ho2 (fun b e=>by rcases e with e|e<;>omega);clear hW2 ho2 k3 q0 HW HT HO HV2 HV3 HR;go_wp2_with fail;go_roundw
     case rel=>exact⟨j+1,_,by omega,by go_num,HR2,HW2,HT2,HO2,HV22,HV32⟩
     case measure=>simp[intOf];omega
    ·have h2:¬(j:Int)<(m:Int):=by omega
     obtain rfl:j=m:=by omega
     have hrr:=HR.out;rw[List.take_of_length_le (by rw[HM.out];exact Nat.le_refl _)]at hrr;have HFF:Hid (Hn V P V2 (P1.take want)):=HF.out.cut want hrr.used hrr.tx hrr.rp hrr.rn;clear hrr;go_wp2;go_ret2;exact⟨_,V2,P1.take want,N1,rfl,HV3.out,HL3.out,HFF.out,HW.out,HNV.out,HO.out⟩
end
theorem Et {w:World} {ops:Array Oper} {rest:List Oper} {o:Oper} {a:Act} {Q:Exit->Act->World->Prop} (hgd:o.guard=none) (s x:Operand)
  (ho:o.op= .call {callee:= .builtin .append,args:= #[s,x],argTypes:= #[95,95]}) {B C:Nat} {v u:Value} {ks js:List Nat} (hs:a.eval s=v) (hown:Em B v ks w) (hx:a.eval x=u) (hv:An C u (Ay js) w)
  (hb:ks.length+js.length<=4000) (hB:B<=w.heap.size)
  (h:∀v' w',Hid (Em B v' (ks++js) w')->Hid (Aa (fun b=>B<=b) w w')->wpList Tryz.prog ops Q rest (a.put o.dst v') w'):wpList Tryz.prog ops Q (o::rest) a w:=by
 obtain⟨i0,hi,hz0,hz1,hz2⟩:=Ob;obtain⟨ad,cap,e,h1,h2,h3,h4⟩:=hv.is;rw[Ai]at e h1
 cases ad with
 |none=>
  have h0:=h3 rfl;obtain rfl:js=[]:=List.length_eq_zero_iff.1 (by omega);subst h0;refine wpList_append_own_none hgd s x 95 ho B 3 i0 1 Tryz.underlying95 hi v _ _ hs hown (by rw[hx,e];rfl) ?_;exact h v w (by rw[List.append_nil];exact hown) (Aa.refl _ _)
 |some ad=>
  obtain⟨b,off,rfl,k1,k2,k3⟩:=h4 ad rfl;refine wpList_append_own w hgd s x 95 ho B 3 i0 (.int .i64 0) 1 8 Tryz.underlying95 hi hz0 hz1 hz2 rfl (by decide) v _ _ hs hown ⟨b,off,none⟩ js.length cap (Ay js) (by rw[hx,e]) (by rw[Ai,Nat.mul_one]) (fun j u hu=> ?_) (fun u hu=> ?_) (by simp only[maxLen];omega) (by omega) hB ?_
  ·obtain⟨hj,rfl⟩:=List.getElem?_eq_some_iff.1 hu
   rw[AG];exact k3 j hj
  ·obtain⟨k,_,rfl⟩:=List.mem_map.1 hu
   rfl
  ·intro v' w' hO hG _
   refine h v' w' ?_ (AI hG (fun k e=>(World.ownsRow.lt hown k e).1));show Em _ _ _ _;unfold Em;rw[List.length_append,List.map_append];exact hO
theorem Ys:(Value.int .i64 0).cells= #[.int .i64 0]:=rfl
theorem UR (n:Nat) (h0:0<n) (hn:n<=4000) (w:World):
  Calls Tryz.prog 232 #[.slice none 0 0,.int .i64 (n:Nat)] w fun e w'=>∃v,e= .returned v/\Em w.heap.size v [] w'/\Below w.heap.size w w':=by
 obtain⟨i0,hi,hz0,hz1,hz2⟩:=Ob;have hr:=fun ty=>Lib.run_append_nil_zeros (P:=Tryz.prog) w 95 3 ty 3 i0 (.int .i64 0) .i64 .i64 Tryz.underlying95 Tryz.underlying3 hi hz0 n h0 (by omega) (by omega) (by rw[hz2];omega);have hG1:=grownCap_ge w n 0 3;have hG2:=grownCap_le_maxLen w n 0 3 (by unfold maxLen;omega)
 have hgz:(Builtin.zeroCells (Value.int .i64 0).cells n++Builtin.zeroCells (Value.int .i64 0).cells (grownCap w n 0 3-n)).size=grownCap w n 0 3:=by
  simp[Builtin.zeroCells,Ys];omega
 obtain⟨G,hG⟩:∃G,grownCap w n 0 3=G:=⟨_,rfl⟩;rw[hG]at hr hG1 hG2 hgz;obtain⟨cs,hcs⟩:∃cs,Builtin.zeroCells (Value.int .i64 0).cells n++Builtin.zeroCells (Value.int .i64 0).cells (G-n)=cs:=⟨_,rfl⟩;rw[hcs]at hr hgz;have HR:Hid (Em w.heap.size (.slice (some ⟨w.heap.size,0,none⟩) 0 G) [] (w.drew.alloc (.cells cs 3))):=⟨rfl,.inr ⟨w.heap.size,G,cs,rfl,Nat.le_refl _,heap_alloc_new w.drew _,Nat.zero_le _,hG2,by rw[hgz,Nat.mul_one],by simp⟩⟩;have HB:Hid (Below w.heap.size w (w.drew.alloc (.cells cs 3))):=(Below.refl _ w).drew.alloc (Nat.le_refl _) _;clear hG hcs hgz hG2;have hGi:(0:Int)<=(G:Int):=by omega
 have hgz:¬G=0:=by omega
 go_enter Tryz.func232,Tryz.ntmps232
 go_wp2_with (at_builtin;refine Lib.wpList_append_run _ rfl _ _ _ _ rfl _ _ rfl rfl _ _ (hr _) ?_)
 go_ret;exact⟨_,rfl,HR.out,HB.out⟩
end
end Go.Proofs.YtgfldnaahojnlaaGreatDoor
