/- MatchFinds: part 27. -/
import Derived.Test.YtgfldnaahojnlaaGreatDoorF25
import Derived.Test.YtgfldnaahojnlaaGreatDoorF26
set_option maxRecDepth 100000
set_option maxHeartbeats 4000000
namespace Go.Proofs.YtgfldnaahojnlaaGreatDoor
section
open Go.RowKit Go.Maps
theorem NT (w:World) (n x:ByteArray) (r a:Int):∀(j:Nat) (u:Value),[Value.string n,Value.string x,Value.int .i64 r,Value.int .i64 a][j]? =some u->(w.alloc (.cells #[.string n,.string x,.int .i64 r,.int .i64 a] 83)).cell? ((⟨w.heap.size,0,none⟩:Addr).add j)=some u:=by
 intro j u hu;have hV:=Cp.new w #[.string n,.string x,.int .i64 r,.int .i64 a] 83 (by simp);rw[AG];exact hV.get hu
theorem Q6 (n x:ByteArray) (r a:Int):∀u∈[Value.string n,Value.string x,Value.int .i64 r,Value.int .i64 a],u.oneCell'=true:=by
 intro u hu;simp at hu;rcases hu with rfl|rfl|rfl|rfl<;>rfl
theorem RL (w:World):(w.alloc (.cells #[] 83)).ownsRow w.heap.size 83 4 (.slice (some ⟨w.heap.size,0,none⟩) 0 0) 0 []:=
 ⟨rfl,.inr ⟨w.heap.size,0,#[],rfl,Nat.le_refl _,heap_alloc_new w _,Nat.le_refl _,Nat.zero_le _,rfl,rfl⟩⟩
theorem S2 {D:List Nd} {nm:ByteArray} {r:Nat} {ws:List ByteArray} {i:Nat} (hi:i<D.length) (h:¬Fe (D.take i) nm r ws) (k:∀x∈ws,¬(D[i].n=nm/\D[i].w=x/\D[i].r=r)):¬Fe (D.take (i+1)) nm r ws:=by
 rintro⟨x,hx,d,hd,e⟩;rw[List.take_succ_eq_append_getElem hi,List.mem_append,List.mem_singleton]at hd;rcases hd with hd|rfl
 ·exact h ⟨x,hx,d,hd,e⟩
 ·exact k x hx e
theorem Hc (nm:ByteArray) (r:Nat):∀(i:Nat) (ws:List ByteArray) (k:Nat) (hk:k<ws.length),AX nm r i (ws.take (k+1))=AX nm r i (ws.take k)++[⟨nm,ws[k],r,i+k⟩]
 |i,x::t,0,_=>by simp[AX]
 |i,x::t,k+1,hk=>by
  have ih:=Hc nm r (i+1) t k (by simpa using hk);rw[List.take_succ_cons,List.take_succ_cons,AX,AX,ih,List.cons_append];simp only[List.getElem_cons_succ];congr 3;congr 1;omega
def Uy (dn dw:ByteArray) (dr:Nat) (nm:ByteArray) (ra:Nat) (l:List ByteArray):Prop:=∀x∈l,¬(dn=nm/\dw=x/\dr=ra)
section
variable {B0 b:Nat} {D:List Nd} {w:World}
set_option maxHeartbeats 8000000
theorem Pa (hD:Nts D) (h:Gs B0 b D w) (nm s:ByteArray) (r:Int) (hs:s.size<=1000):
  Calls Tryz.prog 9 #[.pointer (some ⟨b,0,none⟩),.string nm,.int .i64 r,.string s] w fun e w'=>e= .returned (.int .i64 (Co D nm r s))/\Gs B0 b (C3 D nm r s) w'/\Aa (fun k=>k=b) w w':=by
 have hDl:=hD.len;have HD:Hid (Gs B0 b D w):=h;obtain⟨hle,v,hO,hR⟩:=h;have HO:Hid (Af b v w):=hO;have HR:Hid (w.ownsRow B0 83 4 v D.length (ndc D)):=hR;have hbl:=hO.lt;obtain⟨a9,c9,hv9⟩:=Bz hR;clear hO hR
 by_cases h1:CV nm r=0
 ·have HNM:Hid (Calls Tryz.prog 28 #[.string nm,.int .i64 r] w fun e w'=>e= .returned (.int .i64 0)/\w'=w):=(L2 nm r w).mono (fun e w' hh=>⟨by rw[hh.1,h1],hh.2⟩)
  by_cases h2:40<s.size
  ·have he:Co D nm r s=1:=by unfold Co;rw[if_pos h1,if_pos h2]
   have hd:C3 D nm r s=D:=by unfold C3;rw[he];rfl
   rw[he,hd];have i2:(40:Int)<(s.size:Int):=by omega
   clear he hd h1 h2 hv9 hD;go_enter Tryz.func9,Tryz.ntmps9;go_wp2_with fail;refine(show Calls _ _ _ _ _ from HNM.out).mono ?_;rintro _ w9 ⟨rfl,h9⟩;obtain rfl:=h9.symm;clear h9;go_wp2;go_ret;exact⟨rfl,HD.out,Aa.refl _ _⟩
  ·have i2:¬(40:Int)<(s.size:Int):=by omega
   have ht:=LZ h1 (s:=s) (by omega);have hrr:=(MI h1).2;obtain⟨ra,hra⟩:∃ra:Nat,r=(ra:Nat):=⟨r.toNat,by omega⟩;have hrt:r.toNat=ra:=by omega
   have htl:=ht.len;have HW:Hid _:=Fh s w (by omega);obtain⟨ws,hws⟩:∃ws,Ad s.data.toList=ws:=⟨_,rfl⟩;rw[hws]at HW htl
   have HE9:Hid (Fe D nm ra ws->Co D nm r s=9/\C3 D nm r s=D):=fun hh=>by
    have he:Co D nm r s=9:=by unfold Co;rw[if_pos h1,if_neg h2,hws,hrt,if_pos (DE.2 hh)]
    exact⟨he,by unfold C3;rw[he];rfl⟩
   have HE12:Hid (¬Fe D nm ra ws->500<D.length+ws.length->Co D nm r s=12/\C3 D nm r s=D):=fun hh hf=>by
    have he:Co D nm r s=12:=by unfold Co;rw[if_pos h1,if_neg h2,hws,hrt,if_neg (fun e=>hh (DE.1 e)),if_pos hf]
    exact⟨he,by unfold C3;rw[he];rfl⟩
   have HE0:Hid (¬Fe D nm ra ws->¬500<D.length+ws.length->Co D nm r s=0/\C3 D nm r s=D++AX nm ra 0 ws):=fun hh hf=>by
    have he:Co D nm r s=0:=by unfold Co;rw[if_pos h1,if_neg h2,hws,hrt,if_neg (fun e=>hh (DE.1 e)),if_neg hf]
    exact⟨he,by unfold C3;rw[he,if_pos rfl,hws,hrt]⟩
   obtain⟨AE,hAE⟩:∃AE,Co D nm r s=AE:=⟨_,rfl⟩;obtain⟨AD,hAD⟩:∃AD,C3 D nm r s=AD:=⟨_,rfl⟩;rw[hAE,hAD]at HE9 HE12 HE0 ⊢;obtain⟨m,hm⟩:∃m,D.length=m:=⟨_,rfl⟩;have HM:Hid (D.length=m):=hm;obtain⟨n,hn⟩:∃n,ws.length=n:=⟨_,rfl⟩;have HN:Hid (ws.length=n):=hn;rw[hm]at hv9 hDl HE12 HE0;rw[hn]at HE12 HE0 htl HW;subst hv9 hra;clear h1 h2 hAE hAD hws hm hn ht hrr hrt hD;go_enter Tryz.func9,Tryz.ntmps9;go_wp2_with fail;refine(show Calls _ _ _ _ _ from HNM.out).mono ?_;rintro _ w9 ⟨rfl,h9⟩;obtain rfl:=h9.symm;clear h9 HNM;go_wp2_with fail;refine(show Calls _ _ _ _ _ from HW.out).mono ?_;rintro _ w2 ⟨v2,rfl,hr2,hb2⟩;obtain⟨a2,c2,hv2⟩:=Bz hr2;subst hv2;have HR2:Hid (w2.ownsRow w.heap.size 9 1 (.slice a2 n c2) ws.length (sc ws)):=by rw[HN.out];exact hr2
   have HB2:Hid (Below w.heap.size w w2):=hb2;have cb:=(HO.out.below hb2).cell;clear hr2 hb2 HW;go_wp2_with fail;clear cb;go_loopw [34] (fun iv wr=>∃(i:Nat),i<=m/\iv= .int .i64 (i:Nat)/\Hid (Below w.heap.size w wr)/\Hid (Below w2.heap.size w2 wr)/\Hid (¬Fe (D.take i) nm ra ws)) (fun iv _=>m+1-(intOf iv).toNat)
   case atStart=>exact⟨0,Nat.zero_le _,rfl,HB2,Below.refl _ _,(show ¬Fe (D.take 0) nm ra ws from fun hh=>by obtain⟨x,_,d,hd,_⟩:=hh;rw[List.take_zero]at hd;cases hd)⟩
   case round=>
    obtain⟨i,hi,rfl,HB,HB9,HT⟩:=hrel
    by_cases hlt:i<m
    ·have j1:(i:Int)<(m:Int):=by omega
     have hil:i<D.length:=by rw[HM.out];exact hlt
     obtain⟨g,cap,hv,hg0,hgl,k0,k1,k2,k3⟩:=Q3 (As HR.out HB.out) hil;rw[HM.out]at hv
     cases hv
     have hix:=fun wx=>Oc g m c9 i hlt wx;have HTK:Hid _:=S2 (nm:=nm) (r:=ra) (ws:=ws) hil HT.out;have HDM:Hid (D[i]∈D):=List.getElem_mem hil;obtain⟨d,hd⟩:∃d,D[i]=d:=⟨_,rfl⟩;rw[hd]at k0 k1 k2 k3 HTK HDM;obtain⟨dn,dw,dr,da⟩:=d;simp only at k0 k1 k2 k3 HTK;clear hd hil hg0 hgl;have HBA:Hid (Below w.heap.size w (wr.alloc (.cells #[.string dn,.string dw,.int .i64 (dr:Nat),.int .i64 (da:Nat)] 83))):=HB.out.alloc HB.out.size _;have HBA9:Hid (Below w2.heap.size w2 (wr.alloc (.cells #[.string dn,.string dw,.int .i64 (dr:Nat),.int .i64 (da:Nat)] 83))):=HB9.out.alloc HB9.out.size _;have HV:Hid (Cp wr.heap.size [.string dn,.string dw,.int .i64 (dr:Nat),.int .i64 (da:Nat)] (wr.alloc (.cells #[.string dn,.string dw,.int .i64 (dr:Nat),.int .i64 (da:Nat)] 83))):=Cp.new wr #[.string dn,.string dw,.int .i64 (dr:Nat),.int .i64 (da:Nat)] 83 (by simp);obtain⟨wA,hwA⟩:∃z,wr.alloc (.cells #[.string dn,.string dw,.int .i64 (dr:Nat),.int .i64 (da:Nat)] 83)=z:=⟨_,rfl⟩;go_wp2_with fail;rw[hwA]at HBA HBA9 HV;clear k0 k1 k2 k3 hix hwA;go_loopw [40] (fun jv wx=>∃(j:Nat),j<=n/\jv= .int .i64 (j:Nat)/\wx=wA/\Hid (Uy dn dw dr nm ra (ws.take j))) (fun jv _=>n+1-(intOf jv).toNat)
     case atStart=>exact⟨0,Nat.zero_le _,rfl,rfl,(show Uy dn dw dr nm ra (ws.take 0)from fun x hx=>by rw[List.take_zero]at hx;cases hx)⟩
     case round=>
      obtain⟨j,hj,rfl,rfl,HJ⟩:=hrel
      by_cases hjn:j<n
      ·have j2:(j:Int)<(n:Int):=by omega
       have hjl:j<ws.length:=by rw[HN.out];exact hjn
       obtain⟨g2,cap2,hv2,hcell2⟩:=Gw (As HR2.out HBA9.out) hjl;rw[HN.out]at hv2
       cases hv2
       have hix2:=fun wx=>Ep g2 n c2 j hjn wx;have HMX:Hid (ws[j]∈ws):=List.getElem_mem hjl
       have HJ2:Hid (¬(dn=nm/\dw=ws[j]/\dr=ra)->Uy dn dw dr nm ra (ws.take (j+1))):=fun hq x hx=>by
        rw[List.take_succ_eq_append_getElem hjl,List.mem_append,List.mem_singleton]at hx;rcases hx with hx|rfl
        ·exact HJ.out x hx
        ·exact hq
       obtain⟨x,hx⟩:∃x,ws[j]=x:=⟨_,rfl⟩;rw[hx]at hcell2 HMX HJ2;clear hx hjl;have q0:=HV.out.cell 0 (by simp);have q1:=HV.out.cell 1 (by simp);have q2:=HV.out.cell 2 (by simp);simp only[List.getElem_cons_zero,List.getElem_cons_succ]at q0 q1 q2
       by_cases e1:dn=nm
       ·subst e1
        by_cases e2:dw=x
        ·subst e2
         by_cases e3:dr=ra
         ·subst e3
          have HHD:Hid (Fe D dn dr ws):=⟨dw,HMX.out,_,HDM.out,rfl,rfl,rfl⟩;have hv:AE=9:=(HE9.out HHD.out).1;have HDD:Hid (AD=D):=(HE9.out HHD.out).2;subst hv;go_wp2;go_ret;refine⟨rfl,?_,Ab HBA.out _⟩;rw[HDD.out];exact HD.out.below HBA.out
         ·have e4:¬(dr:Int)=(ra:Int):=by omega
          have HQ:Hid (¬dr=ra):=e3;clear e3;go_wp2_with fail;go_roundw
          case rel=>exact⟨j+1,by omega,by go_num,trivial,HJ2.out (fun hh=>HQ.out hh.2.2)⟩
          case measure=>simp[intOf];omega
        ·have hq:=F0 e2
         have HQ:Hid (¬dw=x):=e2;clear e2;go_wp2_with fail;go_roundw
         case rel=>exact⟨j+1,by omega,by go_num,trivial,HJ2.out (fun hh=>HQ.out hh.2.1)⟩
         case measure=>simp[intOf];omega
       ·have hq:=F0 e1
        have HQ:Hid (¬dn=nm):=e1;clear e1;go_wp2_with fail;go_roundw
        case rel=>exact⟨j+1,by omega,by go_num,trivial,HJ2.out (fun hh=>HQ.out hh.1)⟩
        case measure=>simp[intOf];omega
      ·have j2:¬(j:Int)<(n:Int):=by omega
       have HT2:Hid (¬Fe (D.take (i+1)) nm ra ws):=HTK.out (fun x hx=>HJ.out x (by rw[List.take_of_length_le (by rw[HN.out];omega)];exact hx));go_wp2_with fail;go_roundw
       case rel=>exact⟨i+1,by omega,by go_num,HBA,HBA9,HT2⟩
       case measure=>simp[intOf];omega
    ·have j1:¬(i:Int)<(m:Int):=by omega
     obtain rfl:m=i:=by omega
     have HNO:Hid (¬Fe D nm ra ws):=by
      have:=HT.out;rw[List.take_of_length_le (by rw[HM.out];exact Nat.le_refl _)]at this;exact this
     have cb:=(HO.out.below HB.out).cell;have hwp:IntKind.i64.wrap ((m:Int)+(n:Int))=(m:Int)+(n:Int):=By _ (by omega) (by omega)
     by_cases hf:500<m+n
     ·have hle2:(500:Int)<(m:Int)+(n:Int):=by omega
      have hv:AE=12:=(HE12.out HNO.out hf).1;have HDD:Hid (AD=D):=(HE12.out HNO.out hf).2;subst hv;clear hf;go_wp2;go_ret;refine⟨rfl,?_,Ab HB.out _⟩;rw[HDD.out];exact HD.out.below HB.out
     ·have hle2:¬(500:Int)<(m:Int)+(n:Int):=by omega
      have hv:AE=0:=(HE0.out HNO.out hf).1;have HDD:Hid (AD=D++AX nm ra 0 ws):=(HE0.out HNO.out hf).2;subst hv;clear hf;obtain⟨i0,hi0,hz0,hz1,hz2⟩:=A5 XW;have HBE:Hid (Below w.heap.size w (wr.alloc (.cells #[] 83))):=HB.out.alloc HB.out.size _;have HOE:Hid ((wr.alloc (.cells #[] 83)).ownsRow w2.heap.size 83 4 (.slice (some ⟨wr.heap.size,0,none⟩) 0 0) 0 []):=Du (RL wr) HB9.out.size;have HBE2:Hid (Below w2.heap.size w2 (wr.alloc (.cells #[] 83))):=HB9.out.alloc HB9.out.size _;have cb2:=(HO.out.below HBE.out).cell
      have HRE:Hid ((wr.alloc (.cells #[] 83)).ownsRow B0 83 4 (.slice a9 m c9) m (ndc D)):=by
       have:=As HR.out HBE.out;rw[HM.out]at this;exact this
      rcases HRE.out.2 with⟨e,h0⟩|⟨g,cap,cur,e,hBg,hgb,_⟩
      ·cases e
       have HB3:Hid (Below w.heap.size w (wr.alloc (.cells #[] 83))):=HBE.out;have HB32:Hid (Below w2.heap.size w2 (wr.alloc (.cells #[] 83))):=HBE2.out
       have HO3:Hid ((wr.alloc (.cells #[] 83)).ownsRow w2.heap.size 83 4 (.slice (some ⟨wr.heap.size,0,none⟩) 0 0) 0 (ndc D)):=by
        have hd0:D=[]:=List.length_eq_zero_iff.1 HM.out;show World.ownsRow _ _ _ _ _ _ _;rw[hd0];exact HOE.out
       go_wp2_with (at_builtin;refine wpList_append_own_none rfl _ _ 36 rfl w2.heap.size 83 i0 4 Tryz.underlying36 hi0 _ 0 [] rfl HOE.out rfl ?_)
       go_wp2_with fail;go_loopw [15,80] (fun rv kv wx=>∃(k:Nat),k<=n/\kv= .int .i64 (k:Nat)/\Hid (wx.ownsRow w2.heap.size 83 4 rv k (ndc (D++AX nm ra 0 (ws.take k))))/\Hid (Below w.heap.size w wx)/\Hid (Below w2.heap.size w2 wx)) (fun _ kv _=>n+1-(intOf kv).toNat)
       case atStart=>
        refine⟨0,Nat.zero_le _,rfl,?_,HB3,HB32⟩;show World.ownsRow _ _ _ _ _ _ _;rw[List.take_zero,AX,List.append_nil];exact HO3.out
       case round=>
        clear HO3 HB3 HB32;obtain⟨k,hk,rfl,HOK,HBK,HBK2⟩:=hrel
        by_cases hkn:k<n
        ·have j3:(k:Int)<(n:Int):=by omega
         have hkl:k<ws.length:=by rw[HN.out];exact hkn
         obtain⟨g2,cap2,hv2,hcell2⟩:=Gw (As HR2.out HBK2.out) hkl;rw[HN.out]at hv2
         cases hv2
         have hix2:=fun wx=>Ep g2 n c2 k hkn wx;have hsn:=Hc nm ra 0 ws k hkl;obtain⟨x,hx⟩:∃x,ws[k]=x:=⟨_,rfl⟩;rw[hx,Nat.zero_add]at hsn;rw[hx]at hcell2;have HSN:Hid _:=hsn;clear hsn hx hkl;have hbA:Below wr.heap.size wr (wr.alloc (.cells #[.string nm,.string x,.int .i64 (ra:Nat),.int .i64 (k:Nat)] 83)):=(Below.refl _ _).alloc (Nat.le_refl _) _;have HOA:Hid ((wr.alloc (.cells #[.string nm,.string x,.int .i64 (ra:Nat),.int .i64 (k:Nat)] 83)).ownsRow w2.heap.size 83 4 u15 k (ndc (D++AX nm ra 0 (ws.take k)))):=As HOK.out hbA;have HBA:Hid (Below w.heap.size w (wr.alloc (.cells #[.string nm,.string x,.int .i64 (ra:Nat),.int .i64 (k:Nat)] 83))):=HBK.out.alloc HBK.out.size _;have HBA2:Hid (Below w2.heap.size w2 (wr.alloc (.cells #[.string nm,.string x,.int .i64 (ra:Nat),.int .i64 (k:Nat)] 83))):=HBK2.out.alloc HBK2.out.size _;have HNW:Hid _:=NT wr nm x (ra:Nat) (k:Nat);clear hbA
         go_wp2_with (at_builtin;refine wpList_append_lies _ rfl _ _ 36 rfl w2.heap.size 83 i0 (.agg #[.string ⟨#[]⟩,.string ⟨#[]⟩,.int .i64 0,.int .i64 0]) 4 48 Tryz.underlying36 hi0 hz0 hz1 hz2 rfl (by decide) _ _ _ rfl HOA.out ⟨wr.heap.size,0,none⟩ 1 1 [.string nm,.string x,.int .i64 (ra:Nat),.int .i64 (k:Nat)] rfl rfl HNW.out (Q6 _ _ _ _) (by decide) (by simp only[maxLen];omega) (by omega) HBA2.out.size _ rfl ?_;intro g' cap' w' hO hG hat hlt')
         refine⟨⟨k+1,by omega,by go_num,?_,?_,?_⟩,by simp[intOf];omega⟩
         ·show World.ownsRow _ _ _ _ _ _ _
          rw[HSN.out,<-List.append_assoc,Ka];exact hO
         ·exact Aa.below HBA.out (AI (S:=fun q=>w.heap.size<=q) hG (fun q e=>Nat.le_trans HB2.out.size (World.ownsRow.lt HOA.out q e).1)) HBA.out.size (fun _ e=>e)
         ·exact Aa.below HBA2.out (AI (S:=fun q=>w2.heap.size<=q) hG (fun q e=>(World.ownsRow.lt HOA.out q e).1)) HBA2.out.size (fun _ e=>e)
        ·have j3:¬(k:Int)<(n:Int):=by omega
         obtain rfl:n=k:=by omega
         obtain⟨a15,c15,hv15⟩:=Bz HOK.out;subst hv15;have cb9:=(HO.out.below HBK.out).cell;have fb9:=(HO.out.below HBK.out).free;have HOS:Hid (Af b (.slice a15 n c15) (wr.setCell ⟨b,0,none⟩ (.slice a15 n c15))):=(HO.out.below HBK.out).set (.slice a15 n c15)
         have HRS:Hid (wr.ownsRow w2.heap.size 83 4 (.slice a15 n c15) (D++AX nm ra 0 ws).length (ndc (D++AX nm ra 0 ws))):=by
          have:=HOK.out;rw[List.take_of_length_le (by rw[HN.out];exact Nat.le_refl _)]at this;show World.ownsRow _ _ _ _ _ _ _;rw[List.length_append,G5,HM.out,HN.out,Nat.zero_add];exact this
         go_wp2;go_ret;rw[HDD.out];refine⟨rfl,⟨hle,(.slice a15 n c15),HOS.out,Du (Be HRS.out (Aa.set b 0 (.slice a15 n c15) wr) (fun q e=>by have e':q=b:=e;have:=HB2.out.size;omega)) (by have:=HB2.out.size;omega)⟩,?_⟩;exact(Ab HBK.out (fun q=>q=b)).trans (Aa.set b 0 (.slice a15 n c15) wr) (fun _ e=> .inl e)
      ·cases e
       go_wp2_with (at_builtin;refine wpList_append_own _ rfl _ _ 36 rfl w2.heap.size 83 i0 (.agg #[.string ⟨#[]⟩,.string ⟨#[]⟩,.int .i64 0,.int .i64 0]) 4 48 Tryz.underlying36 hi0 hz0 hz1 hz2 rfl (by decide) _ 0 [] rfl HOE.out ⟨g,0,none⟩ m c9 (ndc D) rfl (by rw[Pu,HM.out]) (fun j u hu=>HRE.out.cells rfl j u hu) (Wq D) (by simp only[maxLen];omega) (by omega) HBE2.out.size ?_;intro v3 w3 hO3 hG3 _)
       have HO3:Hid (w3.ownsRow w2.heap.size 83 4 v3 m (ndc D)):=by
        have:=hO3;rw[Nat.zero_add,List.nil_append]at this;exact this
       have HB3:Hid (Below w.heap.size w w3):=Aa.below HBE.out (AI (S:=fun q=>w.heap.size<=q) hG3 (fun q e=>by cases e;exact HB.out.size)) HBE.out.size (fun _ e=>e);have HB32:Hid (Below w2.heap.size w2 w3):=Aa.below HBE2.out (AI (S:=fun q=>w2.heap.size<=q) hG3 (fun q e=>by cases e;exact HB9.out.size)) HBE2.out.size (fun _ e=>e);clear hO3 hG3;go_wp2_with fail;go_loopw [15,80] (fun rv kv wx=>∃(k:Nat),k<=n/\kv= .int .i64 (k:Nat)/\Hid (wx.ownsRow w2.heap.size 83 4 rv (m+k) (ndc (D++AX nm ra 0 (ws.take k))))/\Hid (Below w.heap.size w wx)/\Hid (Below w2.heap.size w2 wx)) (fun _ kv _=>n+1-(intOf kv).toNat)
       case atStart=>
        refine⟨0,Nat.zero_le _,rfl,?_,HB3,HB32⟩;show World.ownsRow _ _ _ _ _ _ _;rw[List.take_zero,AX,List.append_nil,Nat.add_zero];exact HO3.out
       case round=>
        clear HO3 HB3 HB32;obtain⟨k,hk,rfl,HOK,HBK,HBK2⟩:=hrel
        by_cases hkn:k<n
        ·have j3:(k:Int)<(n:Int):=by omega
         have hkl:k<ws.length:=by rw[HN.out];exact hkn
         obtain⟨g2,cap2,hv2,hcell2⟩:=Gw (As HR2.out HBK2.out) hkl;rw[HN.out]at hv2
         cases hv2
         have hix2:=fun wx=>Ep g2 n c2 k hkn wx;have hsn:=Hc nm ra 0 ws k hkl;obtain⟨x,hx⟩:∃x,ws[k]=x:=⟨_,rfl⟩;rw[hx,Nat.zero_add]at hsn;rw[hx]at hcell2;have HSN:Hid _:=hsn;clear hsn hx hkl;have hbA:Below wr.heap.size wr (wr.alloc (.cells #[.string nm,.string x,.int .i64 (ra:Nat),.int .i64 (k:Nat)] 83)):=(Below.refl _ _).alloc (Nat.le_refl _) _;have HOA:Hid ((wr.alloc (.cells #[.string nm,.string x,.int .i64 (ra:Nat),.int .i64 (k:Nat)] 83)).ownsRow w2.heap.size 83 4 u15 (m+k) (ndc (D++AX nm ra 0 (ws.take k)))):=As HOK.out hbA;have HBA:Hid (Below w.heap.size w (wr.alloc (.cells #[.string nm,.string x,.int .i64 (ra:Nat),.int .i64 (k:Nat)] 83))):=HBK.out.alloc HBK.out.size _;have HBA2:Hid (Below w2.heap.size w2 (wr.alloc (.cells #[.string nm,.string x,.int .i64 (ra:Nat),.int .i64 (k:Nat)] 83))):=HBK2.out.alloc HBK2.out.size _;have HNW:Hid _:=NT wr nm x (ra:Nat) (k:Nat);clear hbA
         go_wp2_with (at_builtin;refine wpList_append_lies _ rfl _ _ 36 rfl w2.heap.size 83 i0 (.agg #[.string ⟨#[]⟩,.string ⟨#[]⟩,.int .i64 0,.int .i64 0]) 4 48 Tryz.underlying36 hi0 hz0 hz1 hz2 rfl (by decide) _ _ _ rfl HOA.out ⟨wr.heap.size,0,none⟩ 1 1 [.string nm,.string x,.int .i64 (ra:Nat),.int .i64 (k:Nat)] rfl rfl HNW.out (Q6 _ _ _ _) (by decide) (by simp only[maxLen];omega) (by omega) HBA2.out.size _ rfl ?_;intro g' cap' w' hO hG hat hlt')
         refine⟨⟨k+1,by omega,by go_num,?_,?_,?_⟩,by simp[intOf];omega⟩
         ·show World.ownsRow _ _ _ _ _ _ _
          rw[HSN.out,<-List.append_assoc,Ka];exact hO
         ·exact Aa.below HBA.out (AI (S:=fun q=>w.heap.size<=q) hG (fun q e=>Nat.le_trans HB2.out.size (World.ownsRow.lt HOA.out q e).1)) HBA.out.size (fun _ e=>e)
         ·exact Aa.below HBA2.out (AI (S:=fun q=>w2.heap.size<=q) hG (fun q e=>(World.ownsRow.lt HOA.out q e).1)) HBA2.out.size (fun _ e=>e)
        ·have j3:¬(k:Int)<(n:Int):=by omega
         obtain rfl:n=k:=by omega
         obtain⟨a15,c15,hv15⟩:=Bz HOK.out;subst hv15;have cb9:=(HO.out.below HBK.out).cell;have fb9:=(HO.out.below HBK.out).free;have HOS:Hid (Af b (.slice a15 (m+n) c15) (wr.setCell ⟨b,0,none⟩ (.slice a15 (m+n) c15))):=(HO.out.below HBK.out).set (.slice a15 (m+n) c15)
         have HRS:Hid (wr.ownsRow w2.heap.size 83 4 (.slice a15 (m+n) c15) (D++AX nm ra 0 ws).length (ndc (D++AX nm ra 0 ws))):=by
          have:=HOK.out;rw[List.take_of_length_le (by rw[HN.out];exact Nat.le_refl _)]at this;show World.ownsRow _ _ _ _ _ _ _;rw[List.length_append,G5,HM.out,HN.out];exact this
         go_wp2;go_ret;rw[HDD.out];refine⟨rfl,⟨hle,(.slice a15 (m+n) c15),HOS.out,Du (Be HRS.out (Aa.set b 0 (.slice a15 (m+n) c15) wr) (fun q e=>by have e':q=b:=e;have:=HB2.out.size;omega)) (by have:=HB2.out.size;omega)⟩,?_⟩;exact(Ab HBK.out (fun q=>q=b)).trans (Aa.set b 0 (.slice a15 (m+n) c15) wr) (fun _ e=> .inl e)
 ·have he:Co D nm r s=CV nm r:=by unfold Co;rw[if_neg h1]
  have hd:C3 D nm r s=D:=by unfold C3;rw[he,if_neg h1]
  have HNM:Hid _:=L2 nm r w;rw[he,hd];obtain⟨c,hc⟩:∃c,CV nm r=c:=⟨_,rfl⟩;rw[hc]at HNM h1 ⊢;clear he hd hc hv9 hD;go_enter Tryz.func9,Tryz.ntmps9;go_wp2_with fail;refine(show Calls _ _ _ _ _ from HNM.out).mono ?_;rintro _ w9 ⟨rfl,h9⟩;obtain rfl:=h9.symm;clear h9;go_wp2;go_ret;exact⟨rfl,HD.out,Aa.refl _ _⟩
end
end
section
open Go.RowKit
def Ix (E:Value) (n j:Int) (w:World):Prop:=
 (E= .nilIface/\n=0/\j= -1)\/(∃b,E= .iface 156 (.pointer (some ⟨b,0,none⟩))/\w.cell? ⟨b,0,none⟩=some (.int .i64 n)/\w.cell? ⟨b,1,none⟩=some (.int .i64 j))\/(E= .iface 24 (.int .i64 n)/\j= -1)
theorem Ix.below {E:Value} {n j:Int} {w w':World} (h:Ix E n j w) (hb:Below w.heap.size w w'):Ix E n j w':=by
 rcases h with h|⟨b,h1,h2,h3⟩|h
 ·exact .inl h
 ·have hlt:=World.block_lt_of_cell? w _ h2
  exact .inr (.inl ⟨b,h1,(hb.cell (p:=⟨b,0,none⟩) hlt).trans h2,(hb.cell (p:=⟨b,1,none⟩) hlt).trans h3⟩)
 ·exact .inr (.inr h)
theorem Pk (E:Value) (n j:Int) (w:World) (hg:HG w) (h:Ix E n j w):Calls Tryz.prog 47 #[E] w fun e w'=>e= .returned (.tuple #[.int .i64 n,.int .i64 j])/\Below w.heap.size w w':=by
 rcases h with⟨rfl,rfl,rfl⟩|⟨b,rfl,h2,h3⟩|⟨rfl,rfl⟩
 ·exact RH w
 ·exact TT b n j w hg h2 h3
 ·exact NC n w hg
set_option maxHeartbeats 1000000
theorem XT (E:Value) (n j:Int) (w:World) (hg:HG w) (h:Ix E n j w):Calls Tryz.prog 21 #[E,.agg #[.int .i64 n,.int .i64 j]] w fun e w'=>e= .returned (.bool true)/\Below w.heap.size w w':=by
 have hb0:Below w.heap.size w (w.alloc (.cells #[.int .i64 n,.int .i64 j] 72)):=(Below.refl _ w).alloc (Nat.le_refl _) _;have hg2:=hg.below hb0 hg.lt;have h2:=h.below hb0;have HH:Hid _:=h2;clear h h2;go_enter Tryz.func21,Tryz.ntmps21;go_wp2_with fail;refine(Pk E n j _ hg2 HH.out).mono ?_;rintro _ w1 ⟨rfl,hb1⟩;have q0:=hb1.cell (p:=⟨w.heap.size,0,none⟩) (by simp);have q1:=hb1.cell (p:=⟨w.heap.size,1,none⟩) (by simp);simp at q0 q1;have hb2:=hb0.trans (hb1.mono (by simp));clear hb1 hb0 HH hg2;go_wp2;go_ret;exact⟨rfl,hb2⟩
theorem Nz (n:Int) (w:World):Calls Tryz.prog 22 #[.int .i64 n] w fun e w'=>e= .returned (.agg #[.int .i64 n,.int .i64 (-1)])/\Below w.heap.size w w':=by
 go_enter Tryz.func22,Tryz.ntmps22;go_wp2;exact bodyPost_ret (v:= .agg #[.int .i64 n,.int .i64 (-1)]) (by simp[results,Tryz.results22,go_sem]) rfl ⟨rfl,(Below.refl _ _).alloc (Nat.le_refl _) _⟩
theorem V6 (E:Value) (n:Int) (w:World) (hg:HG w) (h:Ix E n (-1) w):Calls Tryz.prog 7 #[E,.int .i64 n] w fun e w'=>e= .returned (.bool true)/\Below w.heap.size w w':=by
 have HH:Hid (Ix E n (-1) w):=h;clear h;go_enter Tryz.func7,Tryz.ntmps7;go_wp2_with fail;refine(Nz n _).mono ?_;rintro _ w1 ⟨rfl,hb1⟩;have hs1:=hb1.size;go_wp2_with fail;refine(XT E n (-1) _ (hg.below hb1 hg.lt) (Ix.below HH.out hb1)).mono ?_;rintro _ w2 ⟨rfl,hb2⟩;have hb3:=hb1.trans (hb2.mono hs1);clear hb1 hb2 HH;go_wp2;go_ret;exact⟨rfl,hb3⟩
end
section
open Go.RowKit Go.Maps
set_option maxHeartbeats 1000000
theorem RO (w:World):Calls Tryz.prog 6 #[] w fun e w'=>∃bf bt bp bd bm,e= .returned (.pointer (some ⟨bf,0,none⟩))/\PrS bf bt bp bd bm 0 0 (InD []) w'/\(w.heap.size<=bf/\w.heap.size<=bt/\w.heap.size<=bp/\w.heap.size<=bd/\w.heap.size<=bm)/\Below w.heap.size w w':=by
 have hz:=Tryz.zeroValue64;have HO:Hid _:=Ui w;go_enter Tryz.func6,Tryz.ntmps6;go_wp2_with fail;refine(show Calls _ _ _ _ _ from HO.out).mono ?_;rintro _ w1 ⟨bp,bm,up,V,rfl,h1,h2,h3,hW,hU,hE,hb⟩;have HW:Hid _:=hW;have HU:Hid _:=hU;have HE:Hid (D4 V 3 Tr.none):=hE 3 (by omega);have HB:Hid (Below w.heap.size w w1):=hb;obtain⟨bd,hbd⟩:∃bd,w.heap.size=bd:=⟨_,rfl⟩;rw[hbd]at h1 h2 HW;have hbd2:w.heap.size<=bd:=by omega
 clear hW hU hE hb HO hbd;go_wp2_with fail;refine(Yl (r:=3) HW.out (by omega)).mono ?_;rintro _ w2 ⟨bt,rfl,hT2,hlt2,hb2⟩;have hwl:=HW.out.lt;have HT2:Hid (Tt bt bp 3 w2):=hT2;have HW2:Hid _:=HW.out.below hb2;have HB2:Hid (Below w.heap.size w w2):=HB.out.trans (hb2.mono HB.out.size);have hs2:=hT2.lt;have hs12:=hb2.size;have hs11:=HB.out.size;clear hT2 hb2;go_wp2_with fail;refine(RM bt w2).mono ?_;rintro _ w3 ⟨rfl,hw3⟩;have hb3:Below w2.heap.size w2 w3:=by rw[hw3];exact(Below.refl _ _).alloc (Nat.le_refl _) _
 have HF:Hid (Fs w2.heap.size bt bp bd bm 0 up V Tr.none w3):=⟨by rw[hw3];exact Af.new w2 _ _,HT2.out.below hb3,HW2.out.below hb3,HE.out,MS.none HU.out,⟨by omega,by omega⟩,⟨by omega,by omega⟩⟩;have HB3:Hid (Below w.heap.size w w3):=HB2.out.trans (hb3.mono HB2.out.size);clear hw3 hb3;go_wp2;go_ret;refine⟨_,bt,bp,bd,bm,rfl,⟨0,up,V,Tr.none,Nat.le_refl _,HF.out,Nat.le_refl _,fun x=> ?_⟩,⟨by omega,by omega,by omega,by omega,by omega⟩,HB3.out⟩;constructor
 ·intro h;cases h
 ·rintro⟨t,ht,_⟩;cases ht
structure Bks (bf bt bp bd bm B0 s0:Nat):Prop where
 lo:3<=s0
 ge:s0<=bf/\s0<=bt/\s0<=bp/\s0<=bd/\s0<=bm
 lt:bf<B0/\bt<B0/\bp<B0/\bm<B0/\bd<B0
structure Bt (bf bt bp bd bm N B0 b:Nat) (D:List Nd) (w0 w:World):Prop where
 f:PrS bf bt bp bd bm N 21000 (InD D) w
 x:Gs B0 b D w
 n:Nts D
 g:Gl w
 b:Below w0.heap.size w0 w
section
variable {bf bt bp bd bm N B0 b:Nat} {D:List Nd} {w0 w w':World}
theorem Bt.below (h:Bt bf bt bp bd bm N B0 b D w0 w) (hb:Below w.heap.size w w'):Bt bf bt bp bd bm N B0 b D w0 w':=
 ⟨h.f.below hb,h.x.below hb,h.n,h.g.below hb,h.b.trans (hb.mono h.b.size)⟩
theorem Bt.mono {N':Nat} (h:Bt bf bt bp bd bm N B0 b D w0 w) (hN:N<=N'):Bt bf bt bp bd bm N' B0 b D w0 w:=⟨h.f.mono hN (Nat.le_refl _),h.x,h.n,h.g,h.b⟩
end
theorem WI (n:Int) (w:World):Ix (Gh n) n (-1) w:=by
 unfold Gh
 by_cases h:n=0
 ·rw[if_pos h];exact .inl ⟨rfl,h,rfl⟩
 ·rw[if_neg h];exact .inr (.inr ⟨rfl,rfl⟩)
structure Md (bf bt bp bd bm N B0 b:Nat) (D D':List Nd) (w0 w:World):Prop where
 f:PrS bf bt bp bd bm N 21000 (InD D') w
 x:Gs B0 b D w
 n:Nts D
 n':Nts D'
 g:Gl w
 b:Below w0.heap.size w0 w
section
variable {bf bt bp bd bm N B0 b:Nat} {D D':List Nd} {w0 w w':World}
theorem Zm (h:Bt bf bt bp bd bm N B0 b D w0 w) (hB:Bks bf bt bp bd bm B0 w0.heap.size) (nm s:ByteArray) (r:Int) (hnm:nm.size<=1000) (hs:s.size<=1000) (hN:N+1000<1000000):
  Calls Tryz.prog 8 #[.pointer (some ⟨bf,0,none⟩),.string nm,.int .i64 r,.string s] w fun e w'=>e= .returned (Gh (Co D nm r s))/\Md bf bt bp bd bm (N+800) B0 b D (C3 D nm r s) w0 w'/\Aa (fun k=>k<B0) w w':=by
 obtain⟨l0,⟨a1,a2,a3,a4,a5⟩,⟨b1,b2,b3,b4,b5⟩⟩:=hB;refine(VE h.n h.f h.g nm s r hnm hs hN).mono ?_;rintro e w' ⟨rfl,g1,g2⟩;refine⟨rfl,⟨g1,h.x.only g2 (fun k e=>by rcases e with e|e<;>omega),h.n,h.n.add nm r s,h.g.only g2 (fun k e=>by rcases e with e|e<;>omega),Aa.below h.b g2 h.b.size (fun k e=>by rcases e with e|e<;>omega)⟩,g2.mono (fun k e=>by rcases e with e|e<;>omega)⟩
theorem Md.doc (h:Md bf bt bp bd bm N B0 b D D' w0 w) (hB:Bks bf bt bp bd bm B0 w0.heap.size) (hx:Gs B0 b D' w') (ho:Aa (fun k=>k=b) w w'):Bt bf bt bp bd bm N B0 b D' w0 w':=by
 obtain⟨l0,⟨a1,a2,a3,a4,a5⟩,⟨b1,b2,b3,b4,b5⟩⟩:=hB;have hle:=hx.le;exact⟨h.f.only ho (by omega) (by omega) (by omega) (by omega) (by omega),hx,h.n',h.g.only ho (fun k e=>by have e':k=b:=e;omega),Aa.below h.b ho h.b.size (fun k e=>by have e':k=b:=e;omega)⟩
theorem Zl {nm s:ByteArray} {r:Int} (h:Md bf bt bp bd bm N B0 b D (C3 D nm r s) w0 w) (hB:Bks bf bt bp bd bm B0 w0.heap.size) (hs:s.size<=1000):
  Calls Tryz.prog 9 #[.pointer (some ⟨b,0,none⟩),.string nm,.int .i64 r,.string s] w fun e w'=>e= .returned (.int .i64 (Co D nm r s))/\Bt bf bt bp bd bm N B0 b (C3 D nm r s) w0 w'/\Aa (fun k=>k=b) w w':=by
 refine(Pa h.n h.x nm s r hs).mono ?_;rintro e w' ⟨rfl,g1,g2⟩;exact⟨rfl,h.doc hB g1 g2,g2⟩
theorem Xt (n:Int) (h:Gl w):Calls Tryz.prog 7 #[Gh n,.int .i64 n] w fun e w'=>e= .returned (.bool true)/\Below w.heap.size w w':=V6 _ n w h.h (WI n w)
end
structure Jk (k:Nat) (D:List Nd):Prop where
 le:∀d∈D,d.r<=k
 one:∀d∈D,∀e∈D,d.n=e.n->d.r=e.r->d.a=e.a->d.w=e.w
theorem Jk.nil:Jk 0 []:=⟨fun _ h=>(by cases h),fun _ h=>(by cases h)⟩
theorem L0 {nm:ByteArray} {r:Nat}:∀(ws:List ByteArray) (i:Nat),∀d∈AX nm r i ws,∀e∈AX nm r i ws,d.a=e.a->d.w=e.w
 | [],_,_,h,_,_,_=>by cases h
 |x::t,i,d,hd,e,he,h=>by
  rw[AX]at hd he;rcases List.mem_cons.1 hd with rfl|hd
  ·rcases List.mem_cons.1 he with rfl|he
   ·rfl
   ·have:=(BI he).2.2.2.1
    simp only at h;omega
  ·rcases List.mem_cons.1 he with rfl|he
   ·have:=(BI hd).2.2.2.1
    simp only at h;omega
   ·exact L0 t (i+1) d hd e he h
theorem Jk.more {k:Nat} {D:List Nd} (h:Jk k D):Jk (k+1) D:=⟨fun d hd=>by have:=h.le d hd;omega,h.one⟩
theorem Jk.add {k:Nat} {D:List Nd} (h:Jk k D) (nm s:ByteArray):Jk (k+1) (C3 D nm ((k:Int)+1) s):=by
 unfold C3;split
 ·have hr:((k:Int)+1).toNat=k+1:=by omega
  rw[hr];refine⟨fun d hd=> ?_,fun d hd e he hn hr ha=> ?_⟩
  ·rcases List.mem_append.1 hd with hd|hd
   ·have:=h.le d hd;omega
   ·have:=(BI hd).2.1;omega
  ·rcases List.mem_append.1 hd with hd|hd
   ·rcases List.mem_append.1 he with he|he
    ·exact h.one d hd e he hn hr ha
    ·have h1:=h.le d hd
     have h2:=(BI he).2.1;omega
   ·rcases List.mem_append.1 he with he|he
    ·have h1:=h.le e he
     have h2:=(BI hd).2.1;omega
    ·exact L0 _ _ d hd e he ha
 ·exact h.more
end
section
open Go.RowKit
def AT {α:Type} (f:Pl->Pl->Option α) (o i:List Pl):List α:=o.flatMap fun q=>i.filterMap (f q)
theorem Kd {α:Type} {f:Pl->Pl->Option α} {o i:List Pl} {x:α}:x∈AT f o i↔∃q∈o,∃p∈i,f q p=some x:=by simp[AT]
theorem Kz {α:Type} (f:Pl->Pl->Option α) (i:List Pl):AT f [] i=[]:=rfl
theorem Jd {α:Type} (f:Pl->Pl->Option α) {o:List Pl} (i:List Pl) {k:Nat} (h:k<o.length):AT f (o.drop k) i=(i.drop 0).filterMap (f o[k])++AT f (o.drop (k+1)) i:=by
 unfold AT;rw[List.drop_eq_getElem_cons h,List.flatMap_cons,List.drop_zero]
theorem LF {α:Type} {f:Pl->Pl->Option α} {q:Pl} {i:List Pl} {j:Nat} (h:j<i.length) {x:α} (e:f q i[j]=some x):(i.drop j).filterMap (f q)=[x]++(i.drop (j+1)).filterMap (f q):=by
 rw[List.drop_eq_getElem_cons h,List.filterMap_cons,e];rfl
theorem Oo {α:Type} {f:Pl->Pl->Option α} {q:Pl} {i:List Pl} {j:Nat} (h:j<i.length) (e:f q i[j]=none):(i.drop j).filterMap (f q)=(i.drop (j+1)).filterMap (f q):=by
 rw[List.drop_eq_getElem_cons h,List.filterMap_cons,e]
def Dp (q p:Pl):Option Pl:=if p.r=q.r/\q.a=p.a+1 then some q else none
def BT (far:Int) (p q:Pl):Option Int:=if p.r=q.r/\p.a-q.a<=far/\ -(p.a-q.a)<=far then some p.r else none
theorem U9 {xs ys:List Pl} {x:Pl}:x∈AT Dp ys xs↔x∈ys/\∃p∈xs,p.r=x.r/\x.a=p.a+1:=by
 rw[Kd];constructor
 ·rintro⟨q,hq,p,hp,e⟩
  unfold Dp at e;split at e
  ·rename_i h;cases e;exact⟨hq,p,hp,h⟩
  ·cases e
 ·rintro⟨hx,p,hp,h⟩
  exact⟨x,hx,p,hp,by rw[Dp,if_pos h]⟩
theorem L7 {far:Int} {xs ys:List Pl} {r:Int}:r∈AT (BT far) xs ys↔∃p∈xs,∃q∈ys,p.r=r/\q.r=r/\p.a-q.a<=far/\q.a-p.a<=far:=by
 rw[Kd];constructor
 ·rintro⟨p,hp,q,hq,e⟩
  unfold BT at e;split at e
  ·rename_i h;cases e;exact⟨p,hp,q,hq,rfl,h.1.symm,h.2.1,by omega⟩
  ·cases e
 ·rintro⟨p,hp,q,hq,h1,h2,h3,h4⟩
  exact⟨p,hp,q,hq,by rw[BT,if_pos ⟨by omega,h3,by omega⟩,h1]⟩
theorem Gr.more {w w1:World} {v v1:Value} (h:Gr w w1 v v1) (o:Obj):Gr w (w1.alloc o) v v1:=
 Gr.trans h ⟨Aq ((Below.refl _ _).alloc (Nat.le_refl _) _) _,fun _ e=> .inl e⟩
theorem Vz {z p:Pl}:BO (beh z) p<0↔LtP (beh z) p:=GA
theorem PJ (p:Pl) (zs:List Pl) (hz:zs.Pairwise LtP):(∀z∈zs,z∈Cl p zs\/LtP (beh z) p)/\(Cl p zs).Sublist zs/\(GP p (Cl p zs)=true↔∃z∈zs,beh z=p):=by
 induction zs with
 |nil=>exact⟨fun z h=>(by cases h),(by simp[Cl]),(by simp[Cl,GP])⟩
 |cons z zs ih=>
  obtain⟨h1,h2⟩:=List.pairwise_cons.1 hz;obtain⟨i1,i2,i3⟩:=ih h2;unfold Cl;split
  ·rename_i hlt
   have hl:=Vz.1 hlt;refine⟨fun y hy=> ?_,i2.cons z,?_⟩
   ·rcases List.mem_cons.1 hy with rfl|hy
    ·exact .inr hl
    ·exact i1 y hy
   ·rw[i3]
    constructor
    ·rintro⟨y,hy,e⟩;exact⟨y,by simp[hy],e⟩
    ·rintro⟨y,hy,e⟩
     rcases List.mem_cons.1 hy with rfl|hy
     ·rw[e]at hl;exact absurd hl (LtP.irrefl _)
     ·exact⟨y,hy,e⟩
  ·rename_i hlt
   have hl:¬LtP (beh z) p:=fun h=>hlt (Vz.2 h);refine⟨fun y hy=> .inl hy,List.Sublist.refl _,?_⟩;simp only[GP,decide_eq_true_eq];constructor
   ·intro e;exact⟨z,by simp,e⟩
   ·rintro⟨y,hy,e⟩
    rcases List.mem_cons.1 hy with rfl|hy
    ·exact e
    ·have:=h1 y hy
     rw[<-e]at hl;unfold LtP beh at *;simp only at *;omega
theorem P4 (ys:List Pl):∀(zs xs:List Pl),zs.Pairwise LtP->ys.Pairwise LtP->zs.Sublist xs->(∀x∈xs,x∈zs\/∀y∈ys,LtP (beh x) y)->∀x,x∈AC Cz zs ys↔x∈ys/\∃z∈xs,beh z=x:=by
 induction ys with
 |nil=>intro zs xs _ _ _ _ x;simp[AC]
 |cons y ys ih=>
  intro zs xs hz hy hs hx x;obtain⟨y1,y2⟩:=List.pairwise_cons.1 hy;obtain⟨d1,d2,d3⟩:=PJ y zs hz
  have hrec:=ih (Cl y zs) xs (hz.sublist d2) y2 (d2.trans hs) (fun z hzx=>by
   rcases hx z hzx with h|h
   ·rcases d1 z h with h|h
    ·exact .inl h
    ·exact .inr (fun q hq=>h.trans (y1 q hq))
   ·exact .inr (fun q hq=>h q (by simp[hq]))) x
  have hd3:GP y (Cl y zs)=true↔∃z∈xs,beh z=y:=by
   rw[d3];constructor
   ·rintro⟨z,hz,e⟩;exact⟨z,hs.subset hz,e⟩
   ·rintro⟨z,hz,e⟩
    rcases hx z hz with h|h
    ·exact⟨z,h,e⟩
    ·have:=h y (by simp)
     rw[e]at this;exact absurd this (LtP.irrefl _)
  have ek:AC Cz zs (y::ys)=if GP y (Cl y zs)=true then y::AC Cz (Cl y zs) ys else AC Cz (Cl y zs) ys:=rfl;rw[ek]
  by_cases hh:GP y (Cl y zs)=true
  ·rw[if_pos hh,List.mem_cons]
   constructor
   ·rintro(rfl|h)
    ·exact⟨by simp,hd3.1 hh⟩
    ·have:=hrec.1 h;exact⟨by simp[this.1],this.2⟩
   ·rintro⟨h1,h2⟩
    rcases List.mem_cons.1 h1 with rfl|h1
    ·exact .inl rfl
    ·exact .inr (hrec.2 ⟨h1,h2⟩)
  ·rw[if_neg hh]
   constructor
   ·intro h;have:=hrec.1 h;exact⟨by simp[this.1],this.2⟩
   ·rintro⟨h1,h2⟩
    rcases List.mem_cons.1 h1 with rfl|h1
    ·exact absurd (hd3.2 h2) hh
    ·exact hrec.2 ⟨h1,h2⟩
theorem IJ {xs ys:List Pl} (hx:xs.Pairwise LtP) (hy:ys.Pairwise LtP):(AC Cz xs ys).Pairwise LtP/\∀x,x∈AC Cz xs ys↔x∈AT Dp ys xs:=by
 refine⟨hy.sublist (If Cz ys xs),fun x=> ?_⟩;rw[U9,P4 ys xs xs hx hy (List.Sublist.refl _) (fun x h=> .inl h)];refine and_congr_right fun _=>exists_congr fun p=>and_congr_right fun _=> ?_;obtain⟨r,a⟩:=x;simp only[beh,Pl.mk.injEq];exact⟨fun⟨h1,h2⟩=>⟨h1,by omega⟩,fun⟨h1,h2⟩=>⟨h1,by omega⟩⟩
def AS:Prop:=∀(B0:Nat) (v:Value) (xs:List Pl) (w:World),w.ownsRow B0 81 2 v xs.length (plc xs)->B0<=w.heap.size->xs.length<=100000->
  Calls Tryz.prog 67 #[v] w fun e w'=>∃v' T,e= .returned v'/\w'.ownsRow B0 81 2 v' T.length (plc T)/\(T.Pairwise LtP/\(∀x,x∈T↔x∈xs)/\T.length<=xs.length)/\Below B0 w w'
def CI:Prop:=∀(B0:Nat) (v:Value) (xs:List Int) (w:World),w.ownsRow B0 3 1 v xs.length (icc xs)->B0<=w.heap.size->xs.length<=100000->
  Calls Tryz.prog 69 #[v] w fun e w'=>∃v' T,e= .returned v'/\w'.ownsRow B0 3 1 v' T.length (icc T)/\(T.Pairwise (·< ·)/\(∀x,x∈T↔x∈xs)/\T.length<=xs.length)/\Below B0 w w'
theorem QQ {q:Pl}:∀xs:List Pl,xs.Pairwise LtP->(xs.filterMap (Dp q)).length<=1
 | [],_=>Nat.zero_le _
 |p::xs,h=>by
  obtain⟨h1,h2⟩:=List.pairwise_cons.1 h;rw[List.filterMap_cons]
  by_cases e:p.r=q.r/\q.a=p.a+1
  ·have hn:xs.filterMap (Dp q)=[]:=by
    refine List.filterMap_eq_nil_iff.2 fun z hz=> ?_;have:=h1 z hz;unfold LtP at this;rw[Dp,if_neg (by omega)]
   rw[hn,Dp,if_pos e];exact Nat.le_refl _
  ·rw[Dp,if_neg e]
   exact QQ xs h2
theorem IM {α:Type} {f:Pl->Pl->Option α} {i:List Pl} {K:Nat}:∀o:List Pl,(∀q∈o,(i.filterMap (f q)).length<=K)->(AT f o i).length<=o.length * K
 | [],_=>Nat.zero_le _
 |q::o,h=>by
  have h1:=h q (List.mem_cons_self ..);have h2:=IM o fun z hz=>h z (List.mem_cons_of_mem _ hz);show(i.filterMap (f q)++AT f o i).length<=_;rw[List.length_append,List.length_cons,Nat.add_mul];omega
theorem JY {q:Pl}:∀(xs:List Pl) (n:Nat),xs.Pairwise LtP->(∀p∈xs,q.r=p.r->q.a-p.a<=3->p.a-q.a<=3->q.a+4-n<=p.a)->(xs.filterMap (BT 3 q)).length<=n
 | [],_,_,_=>Nat.zero_le _
 |p::xs,n,h,hk=>by
  obtain⟨h1,h2⟩:=List.pairwise_cons.1 h;rw[List.filterMap_cons]
  by_cases e:q.r=p.r/\q.a-p.a<=3/\ -(q.a-p.a)<=3
  ·have k:=hk p (List.mem_cons_self ..) e.1 e.2.1 (by omega)
   have:=JY (q:=q) xs (n-1) h2 fun z hz a b c=>by
    have:=h1 z hz;unfold LtP at this;omega
   rw[BT,if_pos e];simp only[List.length_cons];omega
  ·rw[BT,if_neg e]
   exact JY xs n h2 fun z hz=>hk z (List.mem_cons_of_mem _ hz)
theorem WG {xs ys:List Pl} (hx:xs.Pairwise LtP):(AT Dp ys xs).length<=ys.length:=by
 have:=IM (f:=Dp) (i:=xs) (K:=1) ys fun q _=>QQ xs hx;omega
theorem U1 {xs ys:List Pl} (hx:xs.Pairwise LtP):(AT (BT 3) ys xs).length<=ys.length * 7:=
 IM (f:=BT 3) (i:=xs) (K:=7) ys fun q _=>JY xs 7 hx fun p _ _ a _=>by omega
end
end Go.Proofs.YtgfldnaahojnlaaGreatDoor
