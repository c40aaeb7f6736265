/- MatchFinds: part 31. -/
import Derived.Test.YtgfldnaahojnlaaGreatDoorF30
set_option maxRecDepth 100000
set_option maxHeartbeats 4000000
namespace Go.Proofs.YtgfldnaahojnlaaGreatDoor
section
open Go.RowKit Go.Maps
section
variable {B0 b:Nat} {nm:ByteArray} {D:List Nd} {pls:ByteArray->List Pl} {beg:ByteArray->List ByteArray} {w:World}
set_option maxHeartbeats 8000000
theorem YG (h:Dr B0 b nm D pls beg w) {B:Nat} {pa pb:Option Addr} {ca cb:Int->Int} {na nb:Nat} {Env:World->Prop} (hE:Env w) (hEs:∀ {wx wy},Env wx->Below wx.heap.size wx wy->Env wy)
  (hk:∀ {wx},Env wx->wx.cell? ⟨B,0,none⟩=some (.int .i64 4)/\wx.cell? ⟨B,2,none⟩=some (.pointer pa)/\wx.cell? ⟨B,3,none⟩=some (.pointer pb)) (hna:na+nb<=100000000) (hca:CB ca) (hcb:CB cb)
  (hA:∀wx,Dr B0 b nm D pls beg wx->Env wx->Calls Tryz.prog 11 #[.pointer (some ⟨b,0,none⟩),.string nm,.pointer pa] wx fun e w'=>Cq wx ca na e w')
  (hB:∀wx,Dr B0 b nm D pls beg wx->Env wx->Calls Tryz.prog 11 #[.pointer (some ⟨b,0,none⟩),.string nm,.pointer pb] wx fun e w'=>Cq wx cb nb e w'):
  Calls Tryz.prog 11 #[.pointer (some ⟨b,0,none⟩),.string nm,.pointer (some ⟨B,0,none⟩)] w fun e w'=>Cq w (gF 4 ca cb) (na+nb) e w':=by
 have HES:Hid (∀ {wx wy},Env wx->Below wx.heap.size wx wy->Env wy):=hEs;have HK:Hid (∀ {wx},Env wx->wx.cell? ⟨B,0,none⟩=some (.int .i64 4)/\wx.cell? ⟨B,2,none⟩=some (.pointer pa)/\wx.cell? ⟨B,3,none⟩=some (.pointer pb)):=hk;have HA:Hid (∀wx,Dr B0 b nm D pls beg wx->Env wx->Calls Tryz.prog 11 #[.pointer (some ⟨b,0,none⟩),.string nm,.pointer pa] wx fun e w'=>Cq wx ca na e w'):=hA;have HB:Hid (∀wx,Dr B0 b nm D pls beg wx->Env wx->Calls Tryz.prog 11 #[.pointer (some ⟨b,0,none⟩),.string nm,.pointer pb] wx fun e w'=>Cq wx cb nb e w'):=hB;have HCA:Hid (CB ca):=hca;have HCB:Hid (CB cb):=hcb;have l1:=World.block_lt_of_cell? w _ (hk hE).1;obtain⟨W1,hW1⟩:∃W1,(w.alloc (.cells #[.pointer (some ⟨B,0,none⟩)] 23)).alloc (.map #[] 0)=W1:=⟨_,rfl⟩;have hM:EN w B0 b nm D pls beg B Env (w.heap.size+1) W1:=by rw[<-hW1];exact EN.new h hE hEs
 have HM:Hid (EN w B0 b nm D pls beg B Env (w.heap.size+1) W1):=hM;have hmm:= @run_makeMap Tryz.prog;have k0:=(hk hM.ev).1;rw[<-hW1]at k0;have HWE:Hid ((w.alloc (.cells #[.pointer (some ⟨B,0,none⟩)] 23)).alloc (.map #[] 0)=W1):=hW1;clear hEs hk hA hB hca hcb h hE hW1 hM;obtain⟨g,hg⟩:∃g,gF 4 ca cb=g:=⟨_,rfl⟩;have HGG:Hid (∀r,g r=gF 4 ca cb r):=fun r=>by rw[<-hg]
 rw[hg];clear hg;go_enter Tryz.func11,Tryz.ntmps11
 go_upto_region 4 with fail
 rw[HWE.out];have HM:Hid (EN w B0 b nm D pls beg B Env (w.heap.size+1) W1.drew):=HM.out.step HES.out (Below.refl _ _).drew;have A1:Hid True:=trivial;clear k0 HWE
 go_region_held3 (fun wx=>wx.cell? ⟨w.heap.size,0,none⟩=some (.pointer (some ⟨B,0,none⟩))/\wx.cell? ⟨B,2,none⟩=some (.pointer pa)/\wx.cell? ⟨B,3,none⟩=some (.pointer pb))
  (exact⟨HM.out.bx.cell,(HK.out HM.out.ev).2⟩)
  (first
    |(go_at_call 11;have A3:=HRA;refine Calls.mono (HB.out _ HM.out.dr HM.out.ev) ?_;rintro _ w3 ⟨mb,kb,rfl,hm3,hk3,hr3,hb3⟩;have HRB:Hid (Ah mb kb cb w3/\ma<mb/\kb<=nb):=⟨hr3,Nat.lt_of_lt_of_le HRA.out.1.lt hm3,hk3⟩;have HRA:Hid (Ah ma ka ca w3/\w.heap.size+1<ma/\ka<=na):=⟨HRA.out.1.below hb3,HRA.out.2⟩;have HM:Hid (EN w B0 b nm D pls beg B Env (w.heap.size+1) w3):=HM.out.step HES.out hb3;clear hm3 hk3 hr3 hb3 A3)
    |(go_at_call 11;have A2:=A1;refine Calls.mono (HA.out _ HM.out.dr HM.out.ev) ?_;rintro _ w2 ⟨ma,ka,rfl,hm2,hk2,hr2,hb2⟩;have HRA:Hid (Ah ma ka ca w2/\w.heap.size+1<ma/\ka<=na):=⟨hr2,Nat.lt_of_lt_of_le HM.out.mp.lt hm2,hk2⟩;have HM:Hid (EN w B0 b nm D pls beg B Env (w.heap.size+1) w2):=HM.out.step HES.out hb2;clear hm2 hk2 hr2 hb2 A1 A2))
 obtain⟨m,hm⟩:∃m,w.heap.size+1=m:=⟨_,rfl⟩;rw[hm]at HM HRA ⊢;have hmx:w.heap.size<m:=by omega
 have HT3:Hid (HT w B 4 m ma mb ka kb ca cb w3):=⟨HM.out.bx.cell,(HK.out HM.out.ev).1,HRA.out.1,HRB.out.1,HM.out.b,l1,hmx,HRA.out.2.1,HRB.out.2.1⟩;have HM3:Hid (Ah m 0 (fun _=>0) w3):=HM.out.mp;have hka:ka<=na:=HRA.out.2.2;have hkb:kb<=nb:=HRB.out.2.2;have hmw:=HM.out.b.size;clear HRA HRB HM HA HB HK HES hm;have HTO:Hid (HT w B 4 m ma mb ka kb ca cb w3):=HT3.out;clear HT3;obtain⟨DX,hDX,hHX,hsX⟩:=HTO.out.ra;have HDX:Hid (w3.ownsMap Tryz.prog 3 (plainElem Tryz.prog 3) ma ka DX):=hDX;have HHX:Hid (FP DX ca/\Maps.size DX<=ka):=⟨hHX,hsX⟩;clear hDX hHX hsX
 go_wp2_with (refine wpList_range_own _ rfl _ 44 rfl 3 3 BF Tryz.underlying44 (plainElem Tryz.prog 3) ma ka DX rfl HDX.out ?_;intro w8 hrg hg8 hs8)
 try go_frame
 have ho8:Aa (fun _=>False) w3 w8:=⟨hg8.os,hg8.tape,hg8.output,hg8.size,fun k hk _=>hg8.block k hk (by simp)⟩;obtain⟨r2,hr2⟩:∃r2,w3.heap.size=r2:=⟨_,rfl⟩;have HNE:Hid (mb<r2/\m<r2):=by have h1:=HTO.out.rb.lt;have h2:=HTO.out.ne;exact⟨by omega,by omega⟩
 rw[hr2]at hrg ⊢;have HR8:Hid (∃left cnt Z,R1 g m ma ka ca DX r2 0 (fun _=>false) left cnt Z w8/\HT w B 4 m ma mb ka kb ca cb w8):=⟨_,_,_,R1.start hrg HHX.out.1 HHX.out.2 ((HM3.out.only ho8 (fun e=>e)).as fun r=>by simp),HTO.out.only ho8 (fun i e=>e.elim)⟩;clear hrg hg8 hs8 ho8 HDX hr2 HTO HM3;go_loopw [] (fun wq=>Hid (∃left cnt Z,R1 g m ma ka ca DX r2 0 (fun _=>false) left cnt Z wq/\HT w B 4 m ma mb ka kb ca cb wq)) (fun wq=>wq.rangeLeft ma r2)
 case atStart=>exact HR8
 case round=>
  clear HR8;have hrel2:=hrel.out;obtain⟨left,cnt,Z,h1,h2⟩:=hrel2;have HR1:Hid (R1 g m ma ka ca DX r2 0 (fun _=>false) left cnt Z wr):=h1;have HT1:Hid (HT w B 4 m ma mb ka kb ca cb wr):=h2;have hrg:=h1.rg;clear h1 h2 hrel
  go_wp2_with (at_next;refine wpList_next_ranges_ii _ rfl _ rfl 3 3 .i64 .i64 BF Tryz.underlying3 Tryz.underlying3 ma r2 ka DX left cnt rfl hrg ?_ ?_)
  ·intro _ hdone
   obtain⟨w5,hw5⟩:∃w5,w5=wr:=⟨_,rfl⟩;subst hw5;have HTO:Hid (HT w B 4 m ma mb ka kb ca cb w5):=HT1.out
   have HM5:Hid (Ah m ka (fun r=>if neB ca r=true then g r else 0) w5):=by
    have hz:=HR1.out.rn.done hdone;have hsz:=HR1.out.sz;refine(HR1.out.mp.mono (by omega)).as fun r=> ?_
    have:(((fun _=>false) r=true\/r∈Z))↔(neB ca r=true):=by
     rw[hz r];simp[neB]
    simp only[this]
   clear HR1 HT1 hrg hdone HHX HNE;obtain⟨D2,hD2,hHX,hsX⟩:=HTO.out.rb;have HD2:Hid (w5.ownsMap Tryz.prog 3 (plainElem Tryz.prog 3) mb kb D2):=hD2;have HHY:Hid (FP D2 cb/\Maps.size D2<=kb):=⟨hHX,hsX⟩;clear hD2 hHX hsX
   go_wp2_with (refine wpList_range_own _ rfl _ 44 rfl 3 3 BF Tryz.underlying44 (plainElem Tryz.prog 3) mb kb D2 rfl HD2.out ?_;intro w8 hrg hg8 hs8)
   try go_frame
   have ho8:Aa (fun _=>False) w5 w8:=⟨hg8.os,hg8.tape,hg8.output,hg8.size,fun k hk _=>hg8.block k hk (by simp)⟩;obtain⟨r2,hr2⟩:∃r2,w5.heap.size=r2:=⟨_,rfl⟩;have HNE:Hid (mb<r2/\m<r2):=by have h1:=HTO.out.rb.lt;have h2:=HTO.out.ne;exact⟨by omega,by omega⟩
   rw[hr2]at hrg ⊢;have HR8:Hid (∃left cnt Z,R1 g m mb kb cb D2 r2 ka (neB ca) left cnt Z w8/\HT w B 4 m ma mb ka kb ca cb w8):=⟨_,_,_,R1.start hrg HHY.out.1 HHY.out.2 (HM5.out.only ho8 (fun e=>e)),HTO.out.only ho8 (fun i e=>e.elim)⟩;clear hrg hg8 hs8 ho8 HD2 hr2 HTO HM5;go_loopw [] (fun wq=>Hid (∃left cnt Z,R1 g m mb kb cb D2 r2 ka (neB ca) left cnt Z wq/\HT w B 4 m ma mb ka kb ca cb wq)) (fun wq=>wq.rangeLeft mb r2)
   case atStart=>exact HR8
   case round=>
    clear HR8;have hrel2:=hrel.out;obtain⟨left,cnt,Z,h1,h2⟩:=hrel2;have HR1:Hid (R1 g m mb kb cb D2 r2 ka (neB ca) left cnt Z wr):=h1;have HT1:Hid (HT w B 4 m ma mb ka kb ca cb wr):=h2;have hrg:=h1.rg;clear h1 h2 hrel
    go_wp2_with (at_next;refine wpList_next_ranges_ii _ rfl _ rfl 3 3 .i64 .i64 BF Tryz.underlying3 Tryz.underlying3 mb r2 kb D2 left cnt rfl hrg ?_ ?_)
    ·intro _ hdone
     have HF:Hid (Ah m (ka+Z.length) g wr/\Below w.heap.size w wr/\ka+Z.length<=na+nb):=by
      have hz:=HR1.out.rn.done hdone;have hsz:=HR1.out.sz;refine⟨HR1.out.mp.as fun r=> ?_,HT1.out.b,by omega⟩
      by_cases e:neB ca r=true\/r∈Z
      ·rw[if_pos e]
      ·rw[if_neg e]
       have e1:ca r=0:=by
        by_cases h:ca r=0
        ·exact h
        ·exact absurd (.inl (by simpa [neB]using h)) e
       have e2:cb r=0:=by
        by_cases h:cb r=0
        ·exact h
        ·exact absurd (.inr ((hz r).2 h)) e
       rw[HGG.out];unfold gF;rw[e1,e2];simp
     clear HR1 HT1 hrg hdone;go_wp2;go_ret;exact⟨m,_,rfl,by omega,HF.out.2.2,HF.out.1,HF.out.2.1⟩
    ·intro x c7 w7 cnt7 hwf1 hwf2 hlx hat hrg7 hlt7 hg7 hs7 hen
     have HN:Hid (N1 g m mb kb cb D2 r2 ka (neB ca) left cnt cnt7 Z x w7):=HR1.out.next hlx hrg7 hlt7 hg7 (by have:=HNE.out;omega);have HT7:Hid (HT w B 4 m ma mb ka kb ca cb w7):=HT1.out.only (Aa.of_grown (S:=fun b=>b=r2) hg7 rfl) (fun i e=>by have:=HNE.out;have e':i=r2:=e;omega);have hc7:c7=cb x:=HN.out.hf.at_ HN.out.cx0 hat;have HX0:Hid (cb x≠0):=HN.out.cx0;obtain⟨x1,x2⟩:=(HCB.out x).2.2 HX0.out;have HWL:Hid (wr.rangeLeft mb r2=cnt):=hrg.left_eq;subst hc7;obtain⟨A,hCA⟩:∃A,ca x=A:=⟨_,rfl⟩;obtain⟨C,hCC⟩:∃C,cb x=C:=⟨_,rfl⟩;have ha:=HCA.out x;have hc:=HCB.out x;have hlkA:=HT7.out.ra.look hCA (by omega) (by omega);have hlkB:=HT7.out.rb.look hCC (by omega) (by omega);have HLA:Hid (ca x=A):=hCA;have HLC:Hid (cb x=C):=hCC;have c1:=HT7.out.bx;have c2:=HT7.out.kd;have HZL:Hid (Z.length<=kb):=by have:=HN.out.sz;simp only[List.length_cons]at this;show _<=_;omega
     have HG:Hid (g x=gF 4 (fun _=>A) (fun _=>C) 0):=by show _=_;rw[HGG.out];unfold gF;rw[hCA,hCC]
     rw[hCC]at hen HX0;have a0:0<=A:=by rw[<-hCA];exact ha.1
     have a1:A<=1000000000:=by rw[<-hCA];exact ha.2.1
     have c0:0<=C:=by rw[<-hCC];exact hc.1
     have c9:C<=1000000000:=by rw[<-hCC];exact hc.2.1
     rw[hCC];have HQA:Hid (A≠0->neB ca x=true):=fun h=>by rw[<-hCA]at h;simpa [neB]using h
     clear hlx hat hrg7 hlt7 hg7 hs7 hwf1 hwf2 HR1 HT1 hrg hCA hCC ha hc;have c3:0<C:=by have:=HX0.out;omega
     have HR9:Hid (∃left cnt Z,R1 g m mb kb cb D2 r2 ka (neB ca) left cnt Z w7/\HT w B 4 m ma mb ka kb ca cb w7):=⟨_,_,_,HN.out.skip (by(by_cases hA:A=0;exact .inl (by rw[HG.out,gF4,if_neg (fun h=>by have:=h.1;omega)]);exact .inr (HQA.out hA))),HT7.out⟩;have HL9:Hid (w7.rangeLeft mb r2<wr.rangeLeft mb r2):=by show _<_;rw[HWL.out,HN.out.rg.left_eq];exact HN.out.lt
     clear HN HT7;go_wp2;go_roundw
     case rel=>first|exact HR9|(obtain⟨q1,q2,q3,q4,q5⟩:=HR9.out;exact⟨⟨q1,q2,q3,q4⟩,q5⟩)
     case measure=>exact HL9.out
  ·intro x c7 w7 cnt7 hwf1 hwf2 hlx hat hrg7 hlt7 hg7 hs7 hen
   have HN:Hid (N1 g m ma ka ca DX r2 0 (fun _=>false) left cnt cnt7 Z x w7):=HR1.out.next hlx hrg7 hlt7 hg7 (by have:=HNE.out;omega);have HT7:Hid (HT w B 4 m ma mb ka kb ca cb w7):=HT1.out.only (Aa.of_grown (S:=fun b=>b=r2) hg7 rfl) (fun i e=>by have:=HNE.out;have e':i=r2:=e;omega);have hc7:c7=ca x:=HN.out.hf.at_ HN.out.cx0 hat;have HX0:Hid (ca x≠0):=HN.out.cx0;obtain⟨x1,x2⟩:=(HCA.out x).2.2 HX0.out;have HWL:Hid (wr.rangeLeft ma r2=cnt):=hrg.left_eq;subst hc7;obtain⟨A,hCA⟩:∃A,ca x=A:=⟨_,rfl⟩;obtain⟨C,hCC⟩:∃C,cb x=C:=⟨_,rfl⟩;have ha:=HCA.out x;have hc:=HCB.out x;have hlkA:=HT7.out.ra.look hCA (by omega) (by omega);have hlkB:=HT7.out.rb.look hCC (by omega) (by omega);have HLA:Hid (ca x=A):=hCA;have HLC:Hid (cb x=C):=hCC;have c1:=HT7.out.bx;have c2:=HT7.out.kd;have HZL:Hid (Z.length<=ka):=by have:=HN.out.sz;simp only[List.length_cons]at this;show _<=_;omega
   have HG:Hid (g x=gF 4 (fun _=>A) (fun _=>C) 0):=by show _=_;rw[HGG.out];unfold gF;rw[hCA,hCC]
   rw[hCA]at hen HX0;have a0:0<=A:=by rw[<-hCA];exact ha.1
   have a1:A<=1000000000:=by rw[<-hCA];exact ha.2.1
   have c0:0<=C:=by rw[<-hCC];exact hc.1
   have c9:C<=1000000000:=by rw[<-hCC];exact hc.2.1
   rw[hCA];clear hlx hat hrg7 hlt7 hg7 hs7 hwf1 hwf2 HR1 HT1 hrg hCA hCC ha hc;have a2:0<A:=by have:=HX0.out;omega
   by_cases hC:0<C
   ·have hC':decide (0<C)=true:=by simpa using hC
    have HGY:Hid (g x=A+C):=by show _=_;rw[HG.out,gF4,if_pos ⟨a2,hC⟩]
    go_wp2_with (refine N4 _ rfl _ _ _ rfl HN.out.mp (by have:=HZL.out;omega) _ (A+C) (by omega) (by omega) (by omega) (by omega) (HN.out.putD HGY.out) rfl rfl rfl ?_;intro w9 hk9 ho9;have hT9:=HT7.out.only ho9 (fun i e=> .inl e);have e1:=hT9.bx;have e2:=hT9.kd;clear hT9;have HR9:Hid (∃left cnt Z,R1 g m ma ka ca DX r2 0 (fun _=>false) left cnt Z w9/\HT w B 4 m ma mb ka kb ca cb w9):=⟨_,_,_,HN.out.put hk9 ho9 (by have:=HT7.out.ne;omega) (by have:=HNE.out;omega),HT7.out.only ho9 (fun i e=> .inl e)⟩;have HL9:Hid (w9.rangeLeft ma r2<wr.rangeLeft ma r2):=(by show _<_;rw[HWL.out,(HN.out.put hk9 ho9 (by have:=HT7.out.ne;omega) (by have:=HNE.out;omega)).rg.left_eq];exact HN.out.lt);clear hk9 ho9)
    try simp only[Act.put]
    go_roundw
    case rel=>first|exact HR9|(obtain⟨q1,q2,q3,q4,q5⟩:=HR9.out;exact⟨⟨q1,q2,q3,q4⟩,q5⟩)
    case measure=>exact HL9.out
   ·have hC':decide (0<C)=false:=by simpa using hC
    have HR9:Hid (∃left cnt Z,R1 g m ma ka ca DX r2 0 (fun _=>false) left cnt Z w7/\HT w B 4 m ma mb ka kb ca cb w7):=⟨_,_,_,HN.out.skip (.inl (by rw[HG.out,gF4,if_neg (fun h=>hC h.2)])),HT7.out⟩;have HL9:Hid (w7.rangeLeft ma r2<wr.rangeLeft ma r2):=by show _<_;rw[HWL.out,HN.out.rg.left_eq];exact HN.out.lt
    clear HN HT7;go_wp2;go_roundw
    case rel=>first|exact HR9|(obtain⟨q1,q2,q3,q4,q5⟩:=HR9.out;exact⟨⟨q1,q2,q3,q4⟩,q5⟩)
    case measure=>exact HL9.out
end
section
variable {B0 b:Nat} {nm:ByteArray} {D:List Nd} {pls:ByteArray->List Pl} {beg:ByteArray->List ByteArray} {w:World}
set_option maxHeartbeats 8000000
theorem YF (h:Dr B0 b nm D pls beg w) {B:Nat} {pa pb:Option Addr} {ca cb:Int->Int} {na nb:Nat} {Env:World->Prop} (hE:Env w) (hEs:∀ {wx wy},Env wx->Below wx.heap.size wx wy->Env wy)
  (hk:∀ {wx},Env wx->wx.cell? ⟨B,0,none⟩=some (.int .i64 5)/\wx.cell? ⟨B,2,none⟩=some (.pointer pa)/\wx.cell? ⟨B,3,none⟩=some (.pointer pb)) (hna:na+nb<=100000000) (hca:CB ca) (hcb:CB cb)
  (hA:∀wx,Dr B0 b nm D pls beg wx->Env wx->Calls Tryz.prog 11 #[.pointer (some ⟨b,0,none⟩),.string nm,.pointer pa] wx fun e w'=>Cq wx ca na e w')
  (hB:∀wx,Dr B0 b nm D pls beg wx->Env wx->Calls Tryz.prog 11 #[.pointer (some ⟨b,0,none⟩),.string nm,.pointer pb] wx fun e w'=>Cq wx cb nb e w'):
  Calls Tryz.prog 11 #[.pointer (some ⟨b,0,none⟩),.string nm,.pointer (some ⟨B,0,none⟩)] w fun e w'=>Cq w (gF 5 ca cb) (na+nb) e w':=by
 have HES:Hid (∀ {wx wy},Env wx->Below wx.heap.size wx wy->Env wy):=hEs;have HK:Hid (∀ {wx},Env wx->wx.cell? ⟨B,0,none⟩=some (.int .i64 5)/\wx.cell? ⟨B,2,none⟩=some (.pointer pa)/\wx.cell? ⟨B,3,none⟩=some (.pointer pb)):=hk;have HA:Hid (∀wx,Dr B0 b nm D pls beg wx->Env wx->Calls Tryz.prog 11 #[.pointer (some ⟨b,0,none⟩),.string nm,.pointer pa] wx fun e w'=>Cq wx ca na e w'):=hA;have HB:Hid (∀wx,Dr B0 b nm D pls beg wx->Env wx->Calls Tryz.prog 11 #[.pointer (some ⟨b,0,none⟩),.string nm,.pointer pb] wx fun e w'=>Cq wx cb nb e w'):=hB;have HCA:Hid (CB ca):=hca;have HCB:Hid (CB cb):=hcb;have l1:=World.block_lt_of_cell? w _ (hk hE).1;obtain⟨W1,hW1⟩:∃W1,(w.alloc (.cells #[.pointer (some ⟨B,0,none⟩)] 23)).alloc (.map #[] 0)=W1:=⟨_,rfl⟩;have hM:EN w B0 b nm D pls beg B Env (w.heap.size+1) W1:=by rw[<-hW1];exact EN.new h hE hEs
 have HM:Hid (EN w B0 b nm D pls beg B Env (w.heap.size+1) W1):=hM;have hmm:= @run_makeMap Tryz.prog;have k0:=(hk hM.ev).1;rw[<-hW1]at k0;have HWE:Hid ((w.alloc (.cells #[.pointer (some ⟨B,0,none⟩)] 23)).alloc (.map #[] 0)=W1):=hW1;clear hEs hk hA hB hca hcb h hE hW1 hM;obtain⟨g,hg⟩:∃g,gF 5 ca cb=g:=⟨_,rfl⟩;have HGG:Hid (∀r,g r=gF 5 ca cb r):=fun r=>by rw[<-hg]
 rw[hg];clear hg;go_enter Tryz.func11,Tryz.ntmps11
 go_upto_region 4 with fail
 rw[HWE.out];have HM:Hid (EN w B0 b nm D pls beg B Env (w.heap.size+1) W1.drew):=HM.out.step HES.out (Below.refl _ _).drew;have A1:Hid True:=trivial;clear k0 HWE
 go_region_held3 (fun wx=>wx.cell? ⟨w.heap.size,0,none⟩=some (.pointer (some ⟨B,0,none⟩))/\wx.cell? ⟨B,2,none⟩=some (.pointer pa)/\wx.cell? ⟨B,3,none⟩=some (.pointer pb))
  (exact⟨HM.out.bx.cell,(HK.out HM.out.ev).2⟩)
  (first
    |(go_at_call 11;have A3:=HRA;refine Calls.mono (HB.out _ HM.out.dr HM.out.ev) ?_;rintro _ w3 ⟨mb,kb,rfl,hm3,hk3,hr3,hb3⟩;have HRB:Hid (Ah mb kb cb w3/\ma<mb/\kb<=nb):=⟨hr3,Nat.lt_of_lt_of_le HRA.out.1.lt hm3,hk3⟩;have HRA:Hid (Ah ma ka ca w3/\w.heap.size+1<ma/\ka<=na):=⟨HRA.out.1.below hb3,HRA.out.2⟩;have HM:Hid (EN w B0 b nm D pls beg B Env (w.heap.size+1) w3):=HM.out.step HES.out hb3;clear hm3 hk3 hr3 hb3 A3)
    |(go_at_call 11;have A2:=A1;refine Calls.mono (HA.out _ HM.out.dr HM.out.ev) ?_;rintro _ w2 ⟨ma,ka,rfl,hm2,hk2,hr2,hb2⟩;have HRA:Hid (Ah ma ka ca w2/\w.heap.size+1<ma/\ka<=na):=⟨hr2,Nat.lt_of_lt_of_le HM.out.mp.lt hm2,hk2⟩;have HM:Hid (EN w B0 b nm D pls beg B Env (w.heap.size+1) w2):=HM.out.step HES.out hb2;clear hm2 hk2 hr2 hb2 A1 A2))
 obtain⟨m,hm⟩:∃m,w.heap.size+1=m:=⟨_,rfl⟩;rw[hm]at HM HRA ⊢;have hmx:w.heap.size<m:=by omega
 have HT3:Hid (HT w B 5 m ma mb ka kb ca cb w3):=⟨HM.out.bx.cell,(HK.out HM.out.ev).1,HRA.out.1,HRB.out.1,HM.out.b,l1,hmx,HRA.out.2.1,HRB.out.2.1⟩;have HM3:Hid (Ah m 0 (fun _=>0) w3):=HM.out.mp;have hka:ka<=na:=HRA.out.2.2;have hkb:kb<=nb:=HRB.out.2.2;have hmw:=HM.out.b.size;clear HRA HRB HM HA HB HK HES hm;have HTO:Hid (HT w B 5 m ma mb ka kb ca cb w3):=HT3.out;clear HT3;obtain⟨DX,hDX,hHX,hsX⟩:=HTO.out.ra;have HDX:Hid (w3.ownsMap Tryz.prog 3 (plainElem Tryz.prog 3) ma ka DX):=hDX;have HHX:Hid (FP DX ca/\Maps.size DX<=ka):=⟨hHX,hsX⟩;clear hDX hHX hsX
 go_wp2_with (refine wpList_range_own _ rfl _ 44 rfl 3 3 BF Tryz.underlying44 (plainElem Tryz.prog 3) ma ka DX rfl HDX.out ?_;intro w8 hrg hg8 hs8)
 try go_frame
 have ho8:Aa (fun _=>False) w3 w8:=⟨hg8.os,hg8.tape,hg8.output,hg8.size,fun k hk _=>hg8.block k hk (by simp)⟩;obtain⟨r2,hr2⟩:∃r2,w3.heap.size=r2:=⟨_,rfl⟩;have HNE:Hid (mb<r2/\m<r2):=by have h1:=HTO.out.rb.lt;have h2:=HTO.out.ne;exact⟨by omega,by omega⟩
 rw[hr2]at hrg ⊢;have HR8:Hid (∃left cnt Z,R1 g m ma ka ca DX r2 0 (fun _=>false) left cnt Z w8/\HT w B 5 m ma mb ka kb ca cb w8):=⟨_,_,_,R1.start hrg HHX.out.1 HHX.out.2 ((HM3.out.only ho8 (fun e=>e)).as fun r=>by simp),HTO.out.only ho8 (fun i e=>e.elim)⟩;clear hrg hg8 hs8 ho8 HDX hr2 HTO HM3;go_loopw [] (fun wq=>Hid (∃left cnt Z,R1 g m ma ka ca DX r2 0 (fun _=>false) left cnt Z wq/\HT w B 5 m ma mb ka kb ca cb wq)) (fun wq=>wq.rangeLeft ma r2)
 case atStart=>exact HR8
 case round=>
  clear HR8;have hrel2:=hrel.out;obtain⟨left,cnt,Z,h1,h2⟩:=hrel2;have HR1:Hid (R1 g m ma ka ca DX r2 0 (fun _=>false) left cnt Z wr):=h1;have HT1:Hid (HT w B 5 m ma mb ka kb ca cb wr):=h2;have hrg:=h1.rg;clear h1 h2 hrel
  go_wp2_with (at_next;refine wpList_next_ranges_ii _ rfl _ rfl 3 3 .i64 .i64 BF Tryz.underlying3 Tryz.underlying3 ma r2 ka DX left cnt rfl hrg ?_ ?_)
  ·intro _ hdone
   obtain⟨w5,hw5⟩:∃w5,w5=wr:=⟨_,rfl⟩;subst hw5;have HTO:Hid (HT w B 5 m ma mb ka kb ca cb w5):=HT1.out
   have HM5:Hid (Ah m ka (fun r=>if neB ca r=true then g r else 0) w5):=by
    have hz:=HR1.out.rn.done hdone;have hsz:=HR1.out.sz;refine(HR1.out.mp.mono (by omega)).as fun r=> ?_
    have:(((fun _=>false) r=true\/r∈Z))↔(neB ca r=true):=by
     rw[hz r];simp[neB]
    simp only[this]
   clear HR1 HT1 hrg hdone HHX HNE;obtain⟨D2,hD2,hHX,hsX⟩:=HTO.out.rb;have HD2:Hid (w5.ownsMap Tryz.prog 3 (plainElem Tryz.prog 3) mb kb D2):=hD2;have HHY:Hid (FP D2 cb/\Maps.size D2<=kb):=⟨hHX,hsX⟩;clear hD2 hHX hsX
   go_wp2_with (refine wpList_range_own _ rfl _ 44 rfl 3 3 BF Tryz.underlying44 (plainElem Tryz.prog 3) mb kb D2 rfl HD2.out ?_;intro w8 hrg hg8 hs8)
   try go_frame
   have ho8:Aa (fun _=>False) w5 w8:=⟨hg8.os,hg8.tape,hg8.output,hg8.size,fun k hk _=>hg8.block k hk (by simp)⟩;obtain⟨r2,hr2⟩:∃r2,w5.heap.size=r2:=⟨_,rfl⟩;have HNE:Hid (mb<r2/\m<r2):=by have h1:=HTO.out.rb.lt;have h2:=HTO.out.ne;exact⟨by omega,by omega⟩
   rw[hr2]at hrg ⊢;have HR8:Hid (∃left cnt Z,R1 g m mb kb cb D2 r2 ka (neB ca) left cnt Z w8/\HT w B 5 m ma mb ka kb ca cb w8):=⟨_,_,_,R1.start hrg HHY.out.1 HHY.out.2 (HM5.out.only ho8 (fun e=>e)),HTO.out.only ho8 (fun i e=>e.elim)⟩;clear hrg hg8 hs8 ho8 HD2 hr2 HTO HM5;go_loopw [] (fun wq=>Hid (∃left cnt Z,R1 g m mb kb cb D2 r2 ka (neB ca) left cnt Z wq/\HT w B 5 m ma mb ka kb ca cb wq)) (fun wq=>wq.rangeLeft mb r2)
   case atStart=>exact HR8
   case round=>
    clear HR8;have hrel2:=hrel.out;obtain⟨left,cnt,Z,h1,h2⟩:=hrel2;have HR1:Hid (R1 g m mb kb cb D2 r2 ka (neB ca) left cnt Z wr):=h1;have HT1:Hid (HT w B 5 m ma mb ka kb ca cb wr):=h2;have hrg:=h1.rg;clear h1 h2 hrel
    go_wp2_with (at_next;refine wpList_next_ranges_ii _ rfl _ rfl 3 3 .i64 .i64 BF Tryz.underlying3 Tryz.underlying3 mb r2 kb D2 left cnt rfl hrg ?_ ?_)
    ·intro _ hdone
     have HF:Hid (Ah m (ka+Z.length) g wr/\Below w.heap.size w wr/\ka+Z.length<=na+nb):=by
      have hz:=HR1.out.rn.done hdone;have hsz:=HR1.out.sz;refine⟨HR1.out.mp.as fun r=> ?_,HT1.out.b,by omega⟩
      by_cases e:neB ca r=true\/r∈Z
      ·rw[if_pos e]
      ·rw[if_neg e]
       have e1:ca r=0:=by
        by_cases h:ca r=0
        ·exact h
        ·exact absurd (.inl (by simpa [neB]using h)) e
       have e2:cb r=0:=by
        by_cases h:cb r=0
        ·exact h
        ·exact absurd (.inr ((hz r).2 h)) e
       rw[HGG.out];unfold gF;rw[e1,e2];simp
     clear HR1 HT1 hrg hdone;go_wp2;go_ret;exact⟨m,_,rfl,by omega,HF.out.2.2,HF.out.1,HF.out.2.1⟩
    ·intro x c7 w7 cnt7 hwf1 hwf2 hlx hat hrg7 hlt7 hg7 hs7 hen
     have HN:Hid (N1 g m mb kb cb D2 r2 ka (neB ca) left cnt cnt7 Z x w7):=HR1.out.next hlx hrg7 hlt7 hg7 (by have:=HNE.out;omega);have HT7:Hid (HT w B 5 m ma mb ka kb ca cb w7):=HT1.out.only (Aa.of_grown (S:=fun b=>b=r2) hg7 rfl) (fun i e=>by have:=HNE.out;have e':i=r2:=e;omega);have hc7:c7=cb x:=HN.out.hf.at_ HN.out.cx0 hat;have HX0:Hid (cb x≠0):=HN.out.cx0;obtain⟨x1,x2⟩:=(HCB.out x).2.2 HX0.out;have HWL:Hid (wr.rangeLeft mb r2=cnt):=hrg.left_eq;subst hc7;obtain⟨A,hCA⟩:∃A,ca x=A:=⟨_,rfl⟩;obtain⟨C,hCC⟩:∃C,cb x=C:=⟨_,rfl⟩;have ha:=HCA.out x;have hc:=HCB.out x;have hlkA:=HT7.out.ra.look hCA (by omega) (by omega);have hlkB:=HT7.out.rb.look hCC (by omega) (by omega);have HLA:Hid (ca x=A):=hCA;have HLC:Hid (cb x=C):=hCC;have c1:=HT7.out.bx;have c2:=HT7.out.kd;have HZL:Hid (Z.length<=kb):=by have:=HN.out.sz;simp only[List.length_cons]at this;show _<=_;omega
     have HG:Hid (g x=gF 5 (fun _=>A) (fun _=>C) 0):=by show _=_;rw[HGG.out];unfold gF;rw[hCA,hCC]
     rw[hCC]at hen HX0;have a0:0<=A:=by rw[<-hCA];exact ha.1
     have a1:A<=1000000000:=by rw[<-hCA];exact ha.2.1
     have c0:0<=C:=by rw[<-hCC];exact hc.1
     have c9:C<=1000000000:=by rw[<-hCC];exact hc.2.1
     rw[hCC];have HQA:Hid (A≠0->neB ca x=true):=fun h=>by rw[<-hCA]at h;simpa [neB]using h
     clear hlx hat hrg7 hlt7 hg7 hs7 hwf1 hwf2 HR1 HT1 hrg hCA hCC ha hc;have c3:0<C:=by have:=HX0.out;omega
     have HGY:Hid (g x=A+C):=by show _=_;rw[HG.out,gF5]
     go_upto_region 16 with fail
     go_wp2_with (refine Xm HN.out.mp (by have:=HZL.out;omega) (by omega) (by omega) (by omega) (by omega) (HN.out.putD HGY.out) ?_;intro w9 hk9 ho9;have hT9:=HT7.out.only ho9 (fun i e=> .inl e);have e1:=hT9.bx;have e2:=hT9.kd;clear hT9;have HR9:Hid (∃left cnt Z,R1 g m mb kb cb D2 r2 ka (neB ca) left cnt Z w9/\HT w B 5 m ma mb ka kb ca cb w9):=⟨_,_,_,HN.out.put hk9 ho9 (by have:=HT7.out.ne;omega) (by have:=HNE.out;omega),HT7.out.only ho9 (fun i e=> .inl e)⟩;have HL9:Hid (w9.rangeLeft mb r2<wr.rangeLeft mb r2):=(by show _<_;rw[HWL.out,(HN.out.put hk9 ho9 (by have:=HT7.out.ne;omega) (by have:=HNE.out;omega)).rg.left_eq];exact HN.out.lt);clear hk9 ho9)
     try simp only[Act.put]
     go_roundw
     case rel=>first|exact HR9|(obtain⟨q1,q2,q3,q4,q5⟩:=HR9.out;exact⟨⟨q1,q2,q3,q4⟩,q5⟩)
     case measure=>exact HL9.out
  ·intro x c7 w7 cnt7 hwf1 hwf2 hlx hat hrg7 hlt7 hg7 hs7 hen
   have HN:Hid (N1 g m ma ka ca DX r2 0 (fun _=>false) left cnt cnt7 Z x w7):=HR1.out.next hlx hrg7 hlt7 hg7 (by have:=HNE.out;omega);have HT7:Hid (HT w B 5 m ma mb ka kb ca cb w7):=HT1.out.only (Aa.of_grown (S:=fun b=>b=r2) hg7 rfl) (fun i e=>by have:=HNE.out;have e':i=r2:=e;omega);have hc7:c7=ca x:=HN.out.hf.at_ HN.out.cx0 hat;have HX0:Hid (ca x≠0):=HN.out.cx0;obtain⟨x1,x2⟩:=(HCA.out x).2.2 HX0.out;have HWL:Hid (wr.rangeLeft ma r2=cnt):=hrg.left_eq;subst hc7;obtain⟨A,hCA⟩:∃A,ca x=A:=⟨_,rfl⟩;obtain⟨C,hCC⟩:∃C,cb x=C:=⟨_,rfl⟩;have ha:=HCA.out x;have hc:=HCB.out x;have hlkA:=HT7.out.ra.look hCA (by omega) (by omega);have hlkB:=HT7.out.rb.look hCC (by omega) (by omega);have HLA:Hid (ca x=A):=hCA;have HLC:Hid (cb x=C):=hCC;have c1:=HT7.out.bx;have c2:=HT7.out.kd;have HZL:Hid (Z.length<=ka):=by have:=HN.out.sz;simp only[List.length_cons]at this;show _<=_;omega
   have HG:Hid (g x=gF 5 (fun _=>A) (fun _=>C) 0):=by show _=_;rw[HGG.out];unfold gF;rw[hCA,hCC]
   rw[hCA]at hen HX0;have a0:0<=A:=by rw[<-hCA];exact ha.1
   have a1:A<=1000000000:=by rw[<-hCA];exact ha.2.1
   have c0:0<=C:=by rw[<-hCC];exact hc.1
   have c9:C<=1000000000:=by rw[<-hCC];exact hc.2.1
   rw[hCA];clear hlx hat hrg7 hlt7 hg7 hs7 hwf1 hwf2 HR1 HT1 hrg hCA hCC ha hc;have a2:0<A:=by have:=HX0.out;omega
   have HGY:Hid (g x=A+C):=by show _=_;rw[HG.out,gF5]
   go_upto_region 9 with fail
   go_wp2_with (refine Xm HN.out.mp (by have:=HZL.out;omega) (by omega) (by omega) (by omega) (by omega) (HN.out.putD HGY.out) ?_;intro w9 hk9 ho9;have hT9:=HT7.out.only ho9 (fun i e=> .inl e);have e1:=hT9.bx;have e2:=hT9.kd;clear hT9;have HR9:Hid (∃left cnt Z,R1 g m ma ka ca DX r2 0 (fun _=>false) left cnt Z w9/\HT w B 5 m ma mb ka kb ca cb w9):=⟨_,_,_,HN.out.put hk9 ho9 (by have:=HT7.out.ne;omega) (by have:=HNE.out;omega),HT7.out.only ho9 (fun i e=> .inl e)⟩;have HL9:Hid (w9.rangeLeft ma r2<wr.rangeLeft ma r2):=(by show _<_;rw[HWL.out,(HN.out.put hk9 ho9 (by have:=HT7.out.ne;omega) (by have:=HNE.out;omega)).rg.left_eq];exact HN.out.lt);clear hk9 ho9)
   try simp only[Act.put]
   go_roundw
   case rel=>first|exact HR9|(obtain⟨q1,q2,q3,q4,q5⟩:=HR9.out;exact⟨⟨q1,q2,q3,q4⟩,q5⟩)
   case measure=>exact HL9.out
end
section
variable {B0 b:Nat} {nm:ByteArray} {D:List Nd} {pls:ByteArray->List Pl} {beg:ByteArray->List ByteArray} {w:World}
set_option maxHeartbeats 8000000
theorem YE (h:Dr B0 b nm D pls beg w) {B:Nat} {pa pb:Option Addr} {ca cb:Int->Int} {na nb:Nat} {Env:World->Prop} (hE:Env w) (hEs:∀ {wx wy},Env wx->Below wx.heap.size wx wy->Env wy)
  (hk:∀ {wx},Env wx->wx.cell? ⟨B,0,none⟩=some (.int .i64 6)/\wx.cell? ⟨B,2,none⟩=some (.pointer pa)/\wx.cell? ⟨B,3,none⟩=some (.pointer pb)) (hna:na+nb<=100000000) (hca:CB ca) (hcb:CB cb)
  (hA:∀wx,Dr B0 b nm D pls beg wx->Env wx->Calls Tryz.prog 11 #[.pointer (some ⟨b,0,none⟩),.string nm,.pointer pa] wx fun e w'=>Cq wx ca na e w')
  (hB:∀wx,Dr B0 b nm D pls beg wx->Env wx->Calls Tryz.prog 11 #[.pointer (some ⟨b,0,none⟩),.string nm,.pointer pb] wx fun e w'=>Cq wx cb nb e w'):
  Calls Tryz.prog 11 #[.pointer (some ⟨b,0,none⟩),.string nm,.pointer (some ⟨B,0,none⟩)] w fun e w'=>Cq w (gF 6 ca cb) (na+nb) e w':=by
 have HES:Hid (∀ {wx wy},Env wx->Below wx.heap.size wx wy->Env wy):=hEs;have HK:Hid (∀ {wx},Env wx->wx.cell? ⟨B,0,none⟩=some (.int .i64 6)/\wx.cell? ⟨B,2,none⟩=some (.pointer pa)/\wx.cell? ⟨B,3,none⟩=some (.pointer pb)):=hk;have HA:Hid (∀wx,Dr B0 b nm D pls beg wx->Env wx->Calls Tryz.prog 11 #[.pointer (some ⟨b,0,none⟩),.string nm,.pointer pa] wx fun e w'=>Cq wx ca na e w'):=hA;have HB:Hid (∀wx,Dr B0 b nm D pls beg wx->Env wx->Calls Tryz.prog 11 #[.pointer (some ⟨b,0,none⟩),.string nm,.pointer pb] wx fun e w'=>Cq wx cb nb e w'):=hB;have HCA:Hid (CB ca):=hca;have HCB:Hid (CB cb):=hcb;have l1:=World.block_lt_of_cell? w _ (hk hE).1;obtain⟨W1,hW1⟩:∃W1,(w.alloc (.cells #[.pointer (some ⟨B,0,none⟩)] 23)).alloc (.map #[] 0)=W1:=⟨_,rfl⟩;have hM:EN w B0 b nm D pls beg B Env (w.heap.size+1) W1:=by rw[<-hW1];exact EN.new h hE hEs
 have HM:Hid (EN w B0 b nm D pls beg B Env (w.heap.size+1) W1):=hM;have hmm:= @run_makeMap Tryz.prog;have k0:=(hk hM.ev).1;rw[<-hW1]at k0;have HWE:Hid ((w.alloc (.cells #[.pointer (some ⟨B,0,none⟩)] 23)).alloc (.map #[] 0)=W1):=hW1;clear hEs hk hA hB hca hcb h hE hW1 hM;obtain⟨g,hg⟩:∃g,gF 6 ca cb=g:=⟨_,rfl⟩;have HGG:Hid (∀r,g r=gF 6 ca cb r):=fun r=>by rw[<-hg]
 rw[hg];clear hg;go_enter Tryz.func11,Tryz.ntmps11
 go_upto_region 4 with fail
 rw[HWE.out];have HM:Hid (EN w B0 b nm D pls beg B Env (w.heap.size+1) W1.drew):=HM.out.step HES.out (Below.refl _ _).drew;have A1:Hid True:=trivial;clear k0 HWE
 go_region_held3 (fun wx=>wx.cell? ⟨w.heap.size,0,none⟩=some (.pointer (some ⟨B,0,none⟩))/\wx.cell? ⟨B,2,none⟩=some (.pointer pa)/\wx.cell? ⟨B,3,none⟩=some (.pointer pb))
  (exact⟨HM.out.bx.cell,(HK.out HM.out.ev).2⟩)
  (first
    |(go_at_call 11;have A3:=HRA;refine Calls.mono (HB.out _ HM.out.dr HM.out.ev) ?_;rintro _ w3 ⟨mb,kb,rfl,hm3,hk3,hr3,hb3⟩;have HRB:Hid (Ah mb kb cb w3/\ma<mb/\kb<=nb):=⟨hr3,Nat.lt_of_lt_of_le HRA.out.1.lt hm3,hk3⟩;have HRA:Hid (Ah ma ka ca w3/\w.heap.size+1<ma/\ka<=na):=⟨HRA.out.1.below hb3,HRA.out.2⟩;have HM:Hid (EN w B0 b nm D pls beg B Env (w.heap.size+1) w3):=HM.out.step HES.out hb3;clear hm3 hk3 hr3 hb3 A3)
    |(go_at_call 11;have A2:=A1;refine Calls.mono (HA.out _ HM.out.dr HM.out.ev) ?_;rintro _ w2 ⟨ma,ka,rfl,hm2,hk2,hr2,hb2⟩;have HRA:Hid (Ah ma ka ca w2/\w.heap.size+1<ma/\ka<=na):=⟨hr2,Nat.lt_of_lt_of_le HM.out.mp.lt hm2,hk2⟩;have HM:Hid (EN w B0 b nm D pls beg B Env (w.heap.size+1) w2):=HM.out.step HES.out hb2;clear hm2 hk2 hr2 hb2 A1 A2))
 obtain⟨m,hm⟩:∃m,w.heap.size+1=m:=⟨_,rfl⟩;rw[hm]at HM HRA ⊢;have hmx:w.heap.size<m:=by omega
 have HT3:Hid (HT w B 6 m ma mb ka kb ca cb w3):=⟨HM.out.bx.cell,(HK.out HM.out.ev).1,HRA.out.1,HRB.out.1,HM.out.b,l1,hmx,HRA.out.2.1,HRB.out.2.1⟩;have HM3:Hid (Ah m 0 (fun _=>0) w3):=HM.out.mp;have hka:ka<=na:=HRA.out.2.2;have hkb:kb<=nb:=HRB.out.2.2;have hmw:=HM.out.b.size;clear HRA HRB HM HA HB HK HES hm;have HTO:Hid (HT w B 6 m ma mb ka kb ca cb w3):=HT3.out;clear HT3;obtain⟨DX,hDX,hHX,hsX⟩:=HTO.out.ra;have HDX:Hid (w3.ownsMap Tryz.prog 3 (plainElem Tryz.prog 3) ma ka DX):=hDX;have HHX:Hid (FP DX ca/\Maps.size DX<=ka):=⟨hHX,hsX⟩;clear hDX hHX hsX
 go_wp2_with (refine wpList_range_own _ rfl _ 44 rfl 3 3 BF Tryz.underlying44 (plainElem Tryz.prog 3) ma ka DX rfl HDX.out ?_;intro w8 hrg hg8 hs8)
 try go_frame
 have ho8:Aa (fun _=>False) w3 w8:=⟨hg8.os,hg8.tape,hg8.output,hg8.size,fun k hk _=>hg8.block k hk (by simp)⟩;obtain⟨r2,hr2⟩:∃r2,w3.heap.size=r2:=⟨_,rfl⟩;have HNE:Hid (mb<r2/\m<r2):=by have h1:=HTO.out.rb.lt;have h2:=HTO.out.ne;exact⟨by omega,by omega⟩
 rw[hr2]at hrg ⊢;have HR8:Hid (∃left cnt Z,R1 g m ma ka ca DX r2 0 (fun _=>false) left cnt Z w8/\HT w B 6 m ma mb ka kb ca cb w8):=⟨_,_,_,R1.start hrg HHX.out.1 HHX.out.2 ((HM3.out.only ho8 (fun e=>e)).as fun r=>by simp),HTO.out.only ho8 (fun i e=>e.elim)⟩;clear hrg hg8 hs8 ho8 HDX hr2 HTO HM3;go_loopw [] (fun wq=>Hid (∃left cnt Z,R1 g m ma ka ca DX r2 0 (fun _=>false) left cnt Z wq/\HT w B 6 m ma mb ka kb ca cb wq)) (fun wq=>wq.rangeLeft ma r2)
 case atStart=>exact HR8
 case round=>
  clear HR8;have hrel2:=hrel.out;obtain⟨left,cnt,Z,h1,h2⟩:=hrel2;have HR1:Hid (R1 g m ma ka ca DX r2 0 (fun _=>false) left cnt Z wr):=h1;have HT1:Hid (HT w B 6 m ma mb ka kb ca cb wr):=h2;have hrg:=h1.rg;clear h1 h2 hrel
  go_wp2_with (at_next;refine wpList_next_ranges_ii _ rfl _ rfl 3 3 .i64 .i64 BF Tryz.underlying3 Tryz.underlying3 ma r2 ka DX left cnt rfl hrg ?_ ?_)
  ·intro _ hdone
   obtain⟨w5,hw5⟩:∃w5,w5=wr:=⟨_,rfl⟩;subst hw5;have HTO:Hid (HT w B 6 m ma mb ka kb ca cb w5):=HT1.out
   have HM5:Hid (Ah m ka (fun r=>if neB ca r=true then g r else 0) w5):=by
    have hz:=HR1.out.rn.done hdone;have hsz:=HR1.out.sz;refine(HR1.out.mp.mono (by omega)).as fun r=> ?_
    have:(((fun _=>false) r=true\/r∈Z))↔(neB ca r=true):=by
     rw[hz r];simp[neB]
    simp only[this]
   clear HR1 HT1 hrg hdone HHX HNE;obtain⟨D2,hD2,hHX,hsX⟩:=HTO.out.rb;have HD2:Hid (w5.ownsMap Tryz.prog 3 (plainElem Tryz.prog 3) mb kb D2):=hD2;have HHY:Hid (FP D2 cb/\Maps.size D2<=kb):=⟨hHX,hsX⟩;clear hD2 hHX hsX
   go_wp2_with (refine wpList_range_own _ rfl _ 44 rfl 3 3 BF Tryz.underlying44 (plainElem Tryz.prog 3) mb kb D2 rfl HD2.out ?_;intro w8 hrg hg8 hs8)
   try go_frame
   have ho8:Aa (fun _=>False) w5 w8:=⟨hg8.os,hg8.tape,hg8.output,hg8.size,fun k hk _=>hg8.block k hk (by simp)⟩;obtain⟨r2,hr2⟩:∃r2,w5.heap.size=r2:=⟨_,rfl⟩;have HNE:Hid (mb<r2/\m<r2):=by have h1:=HTO.out.rb.lt;have h2:=HTO.out.ne;exact⟨by omega,by omega⟩
   rw[hr2]at hrg ⊢;have HR8:Hid (∃left cnt Z,R1 g m mb kb cb D2 r2 ka (neB ca) left cnt Z w8/\HT w B 6 m ma mb ka kb ca cb w8):=⟨_,_,_,R1.start hrg HHY.out.1 HHY.out.2 (HM5.out.only ho8 (fun e=>e)),HTO.out.only ho8 (fun i e=>e.elim)⟩;clear hrg hg8 hs8 ho8 HD2 hr2 HTO HM5;go_loopw [] (fun wq=>Hid (∃left cnt Z,R1 g m mb kb cb D2 r2 ka (neB ca) left cnt Z wq/\HT w B 6 m ma mb ka kb ca cb wq)) (fun wq=>wq.rangeLeft mb r2)
   case atStart=>exact HR8
   case round=>
    clear HR8;have hrel2:=hrel.out;obtain⟨left,cnt,Z,h1,h2⟩:=hrel2;have HR1:Hid (R1 g m mb kb cb D2 r2 ka (neB ca) left cnt Z wr):=h1;have HT1:Hid (HT w B 6 m ma mb ka kb ca cb wr):=h2;have hrg:=h1.rg;clear h1 h2 hrel
    go_wp2_with (at_next;refine wpList_next_ranges_ii _ rfl _ rfl 3 3 .i64 .i64 BF Tryz.underlying3 Tryz.underlying3 mb r2 kb D2 left cnt rfl hrg ?_ ?_)
    ·intro _ hdone
     have HF:Hid (Ah m (ka+Z.length) g wr/\Below w.heap.size w wr/\ka+Z.length<=na+nb):=by
      have hz:=HR1.out.rn.done hdone;have hsz:=HR1.out.sz;refine⟨HR1.out.mp.as fun r=> ?_,HT1.out.b,by omega⟩
      by_cases e:neB ca r=true\/r∈Z
      ·rw[if_pos e]
      ·rw[if_neg e]
       have e1:ca r=0:=by
        by_cases h:ca r=0
        ·exact h
        ·exact absurd (.inl (by simpa [neB]using h)) e
       have e2:cb r=0:=by
        by_cases h:cb r=0
        ·exact h
        ·exact absurd (.inr ((hz r).2 h)) e
       rw[HGG.out];unfold gF;rw[e1,e2];simp
     clear HR1 HT1 hrg hdone;go_wp2;go_ret;exact⟨m,_,rfl,by omega,HF.out.2.2,HF.out.1,HF.out.2.1⟩
    ·intro x c7 w7 cnt7 hwf1 hwf2 hlx hat hrg7 hlt7 hg7 hs7 hen
     have HN:Hid (N1 g m mb kb cb D2 r2 ka (neB ca) left cnt cnt7 Z x w7):=HR1.out.next hlx hrg7 hlt7 hg7 (by have:=HNE.out;omega);have HT7:Hid (HT w B 6 m ma mb ka kb ca cb w7):=HT1.out.only (Aa.of_grown (S:=fun b=>b=r2) hg7 rfl) (fun i e=>by have:=HNE.out;have e':i=r2:=e;omega);have hc7:c7=cb x:=HN.out.hf.at_ HN.out.cx0 hat;have HX0:Hid (cb x≠0):=HN.out.cx0;obtain⟨x1,x2⟩:=(HCB.out x).2.2 HX0.out;have HWL:Hid (wr.rangeLeft mb r2=cnt):=hrg.left_eq;subst hc7;obtain⟨A,hCA⟩:∃A,ca x=A:=⟨_,rfl⟩;obtain⟨C,hCC⟩:∃C,cb x=C:=⟨_,rfl⟩;have ha:=HCA.out x;have hc:=HCB.out x;have hlkA:=HT7.out.ra.look hCA (by omega) (by omega);have hlkB:=HT7.out.rb.look hCC (by omega) (by omega);have HLA:Hid (ca x=A):=hCA;have HLC:Hid (cb x=C):=hCC;have c1:=HT7.out.bx;have c2:=HT7.out.kd;have HZL:Hid (Z.length<=kb):=by have:=HN.out.sz;simp only[List.length_cons]at this;show _<=_;omega
     have HG:Hid (g x=gF 6 (fun _=>A) (fun _=>C) 0):=by show _=_;rw[HGG.out];unfold gF;rw[hCA,hCC]
     rw[hCC]at hen HX0;have a0:0<=A:=by rw[<-hCA];exact ha.1
     have a1:A<=1000000000:=by rw[<-hCA];exact ha.2.1
     have c0:0<=C:=by rw[<-hCC];exact hc.1
     have c9:C<=1000000000:=by rw[<-hCC];exact hc.2.1
     rw[hCC];have HQA:Hid (A≠0->neB ca x=true):=fun h=>by rw[<-hCA]at h;simpa [neB]using h
     clear hlx hat hrg7 hlt7 hg7 hs7 hwf1 hwf2 HR1 HT1 hrg hCA hCC ha hc;have c3:0<C:=by have:=HX0.out;omega
     have HR9:Hid (∃left cnt Z,R1 g m mb kb cb D2 r2 ka (neB ca) left cnt Z w7/\HT w B 6 m ma mb ka kb ca cb w7):=⟨_,_,_,HN.out.skip (by(by_cases hA:A=0;exact .inl (by rw[HG.out,gF6,if_pos c3]);exact .inr (HQA.out hA))),HT7.out⟩;have HL9:Hid (w7.rangeLeft mb r2<wr.rangeLeft mb r2):=by show _<_;rw[HWL.out,HN.out.rg.left_eq];exact HN.out.lt
     clear HN HT7;go_wp2;go_roundw
     case rel=>first|exact HR9|(obtain⟨q1,q2,q3,q4,q5⟩:=HR9.out;exact⟨⟨q1,q2,q3,q4⟩,q5⟩)
     case measure=>exact HL9.out
  ·intro x c7 w7 cnt7 hwf1 hwf2 hlx hat hrg7 hlt7 hg7 hs7 hen
   have HN:Hid (N1 g m ma ka ca DX r2 0 (fun _=>false) left cnt cnt7 Z x w7):=HR1.out.next hlx hrg7 hlt7 hg7 (by have:=HNE.out;omega);have HT7:Hid (HT w B 6 m ma mb ka kb ca cb w7):=HT1.out.only (Aa.of_grown (S:=fun b=>b=r2) hg7 rfl) (fun i e=>by have:=HNE.out;have e':i=r2:=e;omega);have hc7:c7=ca x:=HN.out.hf.at_ HN.out.cx0 hat;have HX0:Hid (ca x≠0):=HN.out.cx0;obtain⟨x1,x2⟩:=(HCA.out x).2.2 HX0.out;have HWL:Hid (wr.rangeLeft ma r2=cnt):=hrg.left_eq;subst hc7;obtain⟨A,hCA⟩:∃A,ca x=A:=⟨_,rfl⟩;obtain⟨C,hCC⟩:∃C,cb x=C:=⟨_,rfl⟩;have ha:=HCA.out x;have hc:=HCB.out x;have hlkA:=HT7.out.ra.look hCA (by omega) (by omega);have hlkB:=HT7.out.rb.look hCC (by omega) (by omega);have HLA:Hid (ca x=A):=hCA;have HLC:Hid (cb x=C):=hCC;have c1:=HT7.out.bx;have c2:=HT7.out.kd;have HZL:Hid (Z.length<=ka):=by have:=HN.out.sz;simp only[List.length_cons]at this;show _<=_;omega
   have HG:Hid (g x=gF 6 (fun _=>A) (fun _=>C) 0):=by show _=_;rw[HGG.out];unfold gF;rw[hCA,hCC]
   rw[hCA]at hen HX0;have a0:0<=A:=by rw[<-hCA];exact ha.1
   have a1:A<=1000000000:=by rw[<-hCA];exact ha.2.1
   have c0:0<=C:=by rw[<-hCC];exact hc.1
   have c9:C<=1000000000:=by rw[<-hCC];exact hc.2.1
   rw[hCA];clear hlx hat hrg7 hlt7 hg7 hs7 hwf1 hwf2 HR1 HT1 hrg hCA hCC ha hc;have a2:0<A:=by have:=HX0.out;omega
   by_cases hC:C=0
   ·have hC':(C == 0)=true:=by simpa using hC
    have HGY:Hid (g x=A):=by show _=_;rw[HG.out,gF6,if_neg (by omega)];omega
    clear hC
    go_wp2_with (refine N4 _ rfl _ _ _ rfl HN.out.mp (by have:=HZL.out;omega) _ (A) (by omega) (by omega) (by omega) (by omega) (HN.out.putD HGY.out) rfl rfl rfl ?_;intro w9 hk9 ho9;have hT9:=HT7.out.only ho9 (fun i e=> .inl e);have e1:=hT9.bx;have e2:=hT9.kd;clear hT9;have HR9:Hid (∃left cnt Z,R1 g m ma ka ca DX r2 0 (fun _=>false) left cnt Z w9/\HT w B 6 m ma mb ka kb ca cb w9):=⟨_,_,_,HN.out.put hk9 ho9 (by have:=HT7.out.ne;omega) (by have:=HNE.out;omega),HT7.out.only ho9 (fun i e=> .inl e)⟩;have HL9:Hid (w9.rangeLeft ma r2<wr.rangeLeft ma r2):=(by show _<_;rw[HWL.out,(HN.out.put hk9 ho9 (by have:=HT7.out.ne;omega) (by have:=HNE.out;omega)).rg.left_eq];exact HN.out.lt);clear hk9 ho9)
    try simp only[Act.put]
    go_roundw
    case rel=>first|exact HR9|(obtain⟨q1,q2,q3,q4,q5⟩:=HR9.out;exact⟨⟨q1,q2,q3,q4⟩,q5⟩)
    case measure=>exact HL9.out
   ·have hC':(C == 0)=false:=by simpa using hC
    have HR9:Hid (∃left cnt Z,R1 g m ma ka ca DX r2 0 (fun _=>false) left cnt Z w7/\HT w B 6 m ma mb ka kb ca cb w7):=⟨_,_,_,HN.out.skip (.inl (by rw[HG.out,gF6,if_pos (by omega)])),HT7.out⟩;have HL9:Hid (w7.rangeLeft ma r2<wr.rangeLeft ma r2):=by show _<_;rw[HWL.out,HN.out.rg.left_eq];exact HN.out.lt
    clear HN HT7;go_wp2;go_roundw
    case rel=>first|exact HR9|(obtain⟨q1,q2,q3,q4,q5⟩:=HR9.out;exact⟨⟨q1,q2,q3,q4⟩,q5⟩)
    case measure=>exact HL9.out
end
end
section
open Go.RowKit
theorem NG (s:Rst) (h:s.bad≠0):s.peek=Ax:=by rw[Rst.peek,if_neg h];rfl
theorem Tl (one:Rst->Qy×Rst) (f:Nat) (q:Qy) (s:Rst) (h:Jh s.peek=false):CW one f q s=(q,s):=by
 cases f with
 |zero=>rfl
 |succ f=>unfold CW;rw[if_neg (by rw[h];decide)]
theorem Ti (all:Rst->Qy×Rst) (f:Nat) (q:Qy) (s:Rst) (h:s.peek≠tOr):El all f q s=(q,s):=by
 cases f with
 |zero=>rfl
 |succ f=>unfold El;rw[Ca h];rfl
theorem US (s:Rst) (h:s.bad≠0):Jh s.peek=false:=by rw[NG s h];decide
theorem LL (one:Rst->Qy×Rst) (f:Nat) (q:Qy) (s:Rst) (h:s.bad≠0):CW one f q s=(q,s):=Tl one f q s (US s h)
theorem LK (all:Rst->Qy×Rst) (f:Nat) (q:Qy) (s:Rst) (h:s.bad≠0):El all f q s=(q,s):=Ti all f q s (by rw[NG s h];decide)
end
end Go.Proofs.YtgfldnaahojnlaaGreatDoor
