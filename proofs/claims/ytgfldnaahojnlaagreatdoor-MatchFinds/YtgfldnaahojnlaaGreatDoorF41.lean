/- MatchFinds: part 41. -/
import Derived.Test.YtgfldnaahojnlaaGreatDoorF40
set_option maxRecDepth 100000
set_option maxHeartbeats 4000000
namespace Go.Proofs.YtgfldnaahojnlaaGreatDoor
section
open Go.RowKit Go.Maps
def tN:ByteArray:=⟨#[110]⟩
structure AtJ (L:List Ht) (k j:Nat):Prop where
 le:j<=L.length
 lo:∀x∈L.take j,x.r<=k
 hi:∀x∈L.drop j,(k:Int)<x.r
theorem AtJ.zero {L:List Ht} (h:∀x∈L,1<=x.r):AtJ L 0 0:=⟨Nat.zero_le _,fun x hx=>by simp at hx,fun x hx=>by have:=h x (by simpa using hx);omega⟩
theorem AtJ.no {L:List Ht} {k j:Nat} (h:AtJ L k j) (hp:Ji L) (h0:cn L ((k:Int)+1)=0):AtJ L (k+1) j:=by
 refine⟨h.le,fun x hx=>by have:=h.lo x hx;omega,fun x hx=> ?_⟩;have h1:=h.hi x hx
 have h2:x.r≠(k:Int)+1:=fun e=>by
  have:=(PR hp ((k:Int)+1)).2 ⟨x,List.mem_of_mem_drop hx,e⟩;omega
 omega
theorem AtJ.yes {L:List Ht} {k j:Nat} (h:AtJ L k j) (hr:Iv L) (hp:Ji L) (h0:cn L ((k:Int)+1)≠0):∃hj:j<L.length,L[j].r=(k:Int)+1/\L[j].o=cn L ((k:Int)+1)/\AtJ L (k+1) (j+1):=by
 have hc:0<cn L ((k:Int)+1):=by
  by_cases e:∃x∈L,x.r=(k:Int)+1
  ·exact(PR hp _).2 e
  ·exact absurd (Vo fun x hx e'=>e ⟨x,hx,e'⟩) h0
 obtain⟨x,hx,hxr⟩:=(PR hp _).1 hc
 have hxd:x∈L.drop j:=by
  rw[<-List.take_append_drop j L]at hx;rcases List.mem_append.1 hx with hx|hx
  ·have:=h.lo x hx;omega
  ·exact hx
 have hj:j<L.length:=by
  rcases Nat.lt_or_ge j L.length with q|q
  ·exact q
  ·rw[List.drop_eq_nil_of_le q]at hxd;cases hxd
 have hs:(L.drop j).Pairwise (fun x y=>x.r<y.r):=hr.sublist (List.drop_sublist j L);rw[List.drop_eq_getElem_cons hj]at hs hxd;obtain⟨s1,s2⟩:=List.pairwise_cons.1 hs;have hj1:=h.hi L[j] (by rw[List.drop_eq_getElem_cons hj];exact List.mem_cons_self ..)
 have he:L[j].r=(k:Int)+1:=by
  rcases List.mem_cons.1 hxd with rfl|hx2
  ·exact hxr
  ·have:=s1 x hx2;omega
 refine⟨hj,he,?_,hj,fun y hy=> ?_,fun y hy=> ?_⟩
 ·rw[<-he,Xq hr (List.getElem_mem hj)]
 ·rw[List.take_succ_eq_append_getElem hj]at hy
  rcases List.mem_append.1 hy with hy|hy
  ·have:=h.lo y hy;omega
  ·rw[List.mem_singleton.1 hy,he];omega
 ·have:=s1 y hy;omega
theorem AtJ.done {L:List Ht} {k j:Nat} (h:AtJ L k j) (hl:∀x∈L,x.r<=k):j=L.length:=by
 rcases Nat.lt_or_ge j L.length with q|q
 ·have h1:=h.hi L[j] (by rw[List.drop_eq_getElem_cons q];exact List.mem_cons_self ..)
  have h2:=hl L[j] (List.getElem_mem q);omega
 ·exact Nat.le_antisymm h.le q
set_option maxHeartbeats 16000000
theorem PG (hS:AS) (hS2:CI) (w:World) (hg:Gl w) (a:Option Addr) (c:Nat) (ts:List ByteArray) (s:ByteArray) (hr:It w a ts.length ts) (hn:ts.length<=25) (hs:s.size<=300):
  Calls Tryz.prog 3 #[.slice a ts.length c,.string s] w fun e w'=>e= .returned (.bool true)/\Below w.heap.size w w':=by
 have HS:Hid AS:=hS;have HS2:Hid CI:=hS2;have HG:Hid (Gl w):=hg;have HRT:Hid (It w a ts.length ts):=hr;have e0:¬(25:Int)<(ts.length:Int):=by omega
 have e1:¬(300:Int)<(s.size:Int):=by omega
 have HAS:Hid _:=WZ s w (by omega);have hlo:3<=w.heap.size:=hg.h.lt;clear hg hS hS2 hr;go_enter Tryz.func3,Tryz.ntmps3;go_wp2_with fail;refine(show Calls _ _ _ _ _ from HAS.out).mono ?_;rintro _ w1 ⟨p1,A1,rfl,hA1,hq1,hb1⟩;have HB1:Hid (Below w.heap.size w w1):=hb1;have HD1:Hid (DIs w1 p1 (BN s).1):=DIs.of _ hq1;have HPA:Hid _:=Pn s w1 (by omega) (HG.out.below hb1).e;obtain⟨C,hC⟩:∃C,(BN s).2=C:=⟨_,rfl⟩;have HC:Hid ((BN s).2=C):=hC;rw[hC]at HPA ⊢;clear hA1 hq1 hb1 HAS hC;go_wp2_with fail;refine(show Calls _ _ _ _ _ from HPA.out).mono ?_;rintro _ w2 ⟨p2,E,rfl,hm2,hE,hb2⟩;have HB2:Hid (Below w.heap.size w w2):=HB1.out.trans (hb2.mono HB1.out.size);have HD2:Hid (DIs w2 p1 (BN s).1):=HD1.out.below hb2;have HM2:Hid (MIs w2 p2 (BN s).1):=hm2
 have HEV:Hid (E=Gh C):=by
  show _=_;unfold Gh;rcases hE with⟨h1,h2⟩|⟨h1,h2⟩
  ·rw[if_pos h1];exact h2
  ·rw[if_neg h1];exact h2
 clear hm2 hE hb2 HB1 HD1 HPA;have HO:Hid _:=RO w2;go_wp2_with fail;refine(show Calls _ _ _ _ _ from HO.out).mono ?_;rintro _ w3 ⟨bf,bt,bp,bd,bm,rfl,hp3,hl3,hb3⟩;have HP3:Hid (PrS bf bt bp bd bm 0 21000 (InD []) w3):=hp3.mono (Nat.le_refl _) (by omega);have HB3:Hid (Below w2.heap.size w2 w3):=hb3;have HB3W:Hid (Below w.heap.size w w3):=HB2.out.trans (hb3.mono HB2.out.size)
 have HBK:Hid (Bks bf bt bp bd bm w3.heap.size w2.heap.size):=by
  have k1:=hp3.lt;exact⟨Nat.le_trans hlo HB2.out.size,hl3,⟨k1.1,k1.2.1,k1.2.2.1,k1.2.2.2.1,k1.2.2.2.2⟩⟩
 clear hp3 hl3 hb3 HO
 by_cases hC0:C=0
 ·subst hC0
  have hE0:E= .nilIface:=by rw[HEV.out];rfl
  clear HEV;subst hE0;have HQG:Hid (QGd (BN s).1):=Tg s HC.out;obtain⟨q1,q2,q3⟩:=Tf s (by omega);obtain⟨Q,hQ⟩:∃Q,(BN s).1=Q:=⟨_,rfl⟩;rw[hQ]at HD2 HM2 HQG q1 q2 q3;have HQN:Hid (lvs Q<=400/\QOk Q/\szQ Q<=1000):=⟨q1,q2,q3⟩;clear hQ q1 q2 q3 HC;have hd4:=Gs.new w3.heap.size w3 (Nat.le_refl _);have hba:Below w3.heap.size w3 (w3.alloc (.cells #[.slice none 0 0] 38)):=Ct w3 _;have hb4:Below w2.heap.size w2 (w3.alloc (.cells #[.slice none 0 0] 38)):=HB3.out.trans (hba.mono HB3.out.size);have HT0:Hid (Bt bf bt bp bd bm (800 * 0) w3.heap.size w3.heap.size [] w2 (w3.alloc (.cells #[.slice none 0 0] 38))):=⟨HP3.out.below hba,hd4,Nts.nil,HG.out.below (HB3W.out.trans (hba.mono HB3W.out.size)),hb4⟩;obtain⟨B0,hB0⟩:∃B0,w3.heap.size=B0:=⟨_,rfl⟩;rw[hB0]at HT0 HBK;clear hd4 hba hb4 HP3 HB3 HB3W;go_wp2_with fail
  try rw[hB0]
  clear hB0;go_loopw [11] (fun i wr=>∃(k:Nat) (D:List Nd),k<=ts.length/\i= .int .i64 k/\Hid (Bt bf bt bp bd bm (800 * k) B0 B0 D w2 wr/\Jk k D)) (fun i _=>ts.length-(intOf i).toNat)
  case atStart=>exact⟨0,[],Nat.zero_le _,rfl,HT0.out,Jk.nil⟩
  case round=>
   clear HT0;obtain⟨k,D,hk,rfl,HT⟩:=hrel
   by_cases hlt:k<ts.length
   ·rcases HRT.out.2.2 with h0|⟨b,off,rfl,hb,hrow⟩
    ·simp[h0]at hlt
    have i1:(k:Int)<(ts.length:Int):=by omega
    have HCB:Hid (b<w2.heap.size/\w2.cell? ⟨b,off+k,none⟩=some (.string ts[k])):=⟨Nat.lt_of_lt_of_le hb HB2.out.size,(HB2.out.cell (p:=⟨b,off+k,none⟩) hb).trans (hrow k hlt)⟩;clear hrow;generalize ts[k]=t at *;have HCT:Hid (∀ {wx:World},Below w2.heap.size w2 wx->wx.cell? ⟨b,off+k,none⟩=some (.string t)):=fun hx=>(hx.cell (p:=⟨b,off+k,none⟩) HCB.out.1).trans HCB.out.2;have g1:=HCT.out HT.out.1.b
    by_cases h40:t.size<=40
    ·have e3:¬(40:Int)<(t.size:Int):=by omega
     have hwi:IntKind.i64.wrap ((k:Int)+1)=(k:Int)+1:=By _ (by omega) (by omega);have HTD:Hid (Bt bf bt bp bd bm (800 * k) B0 B0 D w2 wr.drew):=HT.out.1.below (Below.refl _ _).drew;have HAD:Hid _:=Zm HTD.out HBK.out tN t ((k:Int)+1) (by decide) (by omega) (by omega);obtain⟨AE,hAE⟩:∃AE,Co D tN ((k:Int)+1) t=AE:=⟨_,rfl⟩;have HON:Hid (Jk (k+1) (C3 D tN ((k:Int)+1) t)):=HT.out.2.add tN t;obtain⟨AD,hAD⟩:∃AD,C3 D tN ((k:Int)+1) t=AD:=⟨_,rfl⟩;rw[hAD]at HON
     have HAR:Hid (∀wx,Md bf bt bp bd bm (800 * k+800) B0 B0 D AD w2 wx->Calls Tryz.prog 9 #[.pointer (some ⟨B0,0,none⟩),.string ⟨#[110]⟩,.int .i64 ((k:Int)+1),.string t] wx fun e w'=>e= .returned (.int .i64 AE)/\Bt bf bt bp bd bm (800 * k+800) B0 B0 AD w2 w'/\Aa (fun k=>k=B0) wx w'):=fun wx hm=>by
      rw[<-hAE,<-hAD];rw[<-hAD]at hm;exact Zl hm HBK.out (by omega)
     rw[hAE,hAD]at HAD;obtain⟨EV,hEV⟩:∃EV,Gh AE=EV:=⟨_,rfl⟩;have HBE:Hid (∀wx,Gl wx->Calls Tryz.prog 7 #[EV,.int .i64 AE] wx fun e w'=>e= .returned (.bool true)/\Below wx.heap.size wx w'):=fun wx hg=>by rw[<-hEV];exact Xt AE hg
     rw[hEV]at HAD;clear hAE hAD hEV
     go_upto_region 13 with fail
     have HC9:Hid (wr.drew.cell? ⟨b,off+k,none⟩=some (.string t)):=HCT.out HTD.out.b;clear g1
     go_region_held3 (fun wx=>wx.cell? ⟨b,off+k,none⟩=some (.string t)) (exact HC9.out)
      (first
        |(go_at_call 8;refine Calls.mono HAD.out ?_;rintro _ w4 ⟨rfl,hm4,_⟩;have HM4:Hid (Md bf bt bp bd bm (800 * k+800) B0 B0 D AD w2 w4):=hm4;have HC9:Hid (w4.cell? ⟨b,off+k,none⟩=some (.string t)):=HCT.out hm4.b;clear hm4)
        |(go_at_call 9;refine Calls.mono (HAR.out _ HM4.out) ?_;rintro _ w5 ⟨rfl,ht5,_⟩;have HT5:Hid (Bt bf bt bp bd bm (800 * k+800) B0 B0 AD w2 w5):=ht5;have HC9:Hid (w5.cell? ⟨b,off+k,none⟩=some (.string t)):=HCT.out ht5.b;clear ht5)
        |(go_at_call 7;refine Calls.mono (HBE.out _ HT5.out.g) ?_;rintro _ w6 ⟨rfl,hb6⟩;have HT6:Hid (Bt bf bt bp bd bm (800 * k+800) B0 B0 AD w2 w6):=HT5.out.below hb6;have HC9:Hid (w6.cell? ⟨b,off+k,none⟩=some (.string t)):=HCT.out HT6.out.b;clear hb6))
     have HT7:Hid (Bt bf bt bp bd bm (800 * (k+1)) B0 B0 AD w2 w6):=HT6.out.mono (by omega);clear HT HTD HAD HAR HBE HM4 HT5 HT6 HC9;go_wp2;go_roundw
     case rel=>exact⟨k+1,AD,by omega,by go_num,HT7.out,HON.out⟩
     case measure=>simp[intOf];omega
    ·have e3:(40:Int)<(t.size:Int):=by omega
     have HT7:Hid (Bt bf bt bp bd bm (800 * (k+1)) B0 B0 D w2 wr/\Jk (k+1) D):=⟨HT.out.1.mono (by omega),HT.out.2.more⟩;clear HT h40;go_wp2;go_roundw
     case rel=>exact⟨k+1,D,by omega,by go_num,HT7.out⟩
     case measure=>simp[intOf];omega
   ·obtain rfl:k=ts.length:=by omega
    obtain⟨w5,hw5⟩:∃w5,w5=wr:=⟨_,rfl⟩;subst hw5;have HT5:Hid (Bt bf bt bp bd bm (800 * ts.length) B0 B0 D w2 w5):=HT.out.1;have HB5:Hid (Below w.heap.size w w5):=HB2.out.trans (HT5.out.b.mono HB2.out.size);obtain⟨pls,beg,hF,hP,hBg⟩:=Zk HT5.out.n HT5.out.f HT5.out.g tN (by decide);have HDR:Hid (Dr B0 B0 tN D pls beg w5):=⟨HT5.out.x,hP,hBg,HT5.out.n.len,HT.out.2.one⟩;have HEV:Hid _:=UZ hF Q p2 (HM2.out.below HT5.out.b) HQN.out.2.1 HQN.out.1 HQN.out.2.2
    have HLB:Hid (∀x∈A7 pls beg Q,1<=x.r/\x.r<=(ts.length:Nat)):=fun x hx=>by
     refine⟨(Kv HDR.out.fok Q x hx).1,?_⟩;obtain⟨wd,p,hp,e⟩:=Oj HDR.out.fok Q x hx;obtain⟨d,hd,_,_,ep⟩:=((hP wd).mem p).1 hp;have h1:=HT.out.2.le d hd;have h2:p.r=(d.r:Int):=by rw[ep];rfl
     omega
    have HKL:Hid (Hk 100000000 (A7 pls beg Q)):=(FF HDR.out.fok Q).mono (by have:=HQN.out.1;omega);have HD5:Hid (DIs w5 p1 Q):=HD2.out.below HT5.out.b;have HRF:Hid (∀wx,Below w5.heap.size w5 wx->Calls Tryz.prog 11 #[.pointer (some ⟨B0,0,none⟩),.string tN,.pointer p1] wx fun e w'=>Cq wx (cn (A7 pls beg Q)) (10000 * lvs Q) e w'):=fun wx hb=>Ny HS.out HS2.out Q (HDR.out.below hb) (HD5.out.below hb) HQG.out HQN.out.1;obtain⟨L,hL⟩:∃L,A7 pls beg Q=L:=⟨_,rfl⟩;rw[hL]at HEV HLB HKL HRF;clear hF hP hBg HT HT5 HD2 HM2 HDR HD5 HBK HQG hL hk HB2;go_wp2_with fail;refine(show Calls _ _ _ _ _ from HEV.out).mono ?_;rintro _ w6 ⟨v6,rfl,hi6,hb6⟩;obtain⟨a6,c6,rfl,_,hr6,_⟩:=hi6;have HR6:Hid (Qg w6 a6 L.length L):=hr6;have HB6:Hid (Below w.heap.size w w6):=HB5.out.trans (hb6.mono HB5.out.size);have HHI:Hid _:=HRF.out w6 hb6;obtain⟨nL,hnL⟩:∃nL,L.length=nL:=⟨_,rfl⟩;have HNL:Hid (L.length=nL):=hnL;have hnl2:nL<=100000000:=by have:=HKL.out.len;omega
    rw[hnL];clear hb6 hr6 HEV HRF HB5 hnL;go_wp2_with fail;refine(show Calls _ _ _ _ _ from HHI.out).mono ?_;rintro _ w7 ⟨m,km,rfl,_,_,hrw,hb7⟩;have HRW:Hid (Ah m km (cn L) w7):=hrw;have HB7:Hid (Below w.heap.size w w7):=HB6.out.trans (hb7.mono HB6.out.size);have HR7:Hid (Qg w7 a6 L.length L):=HR6.out.below hb7;clear hrw hb7 HHI HR6 HB6;go_wp2;go_loopw [14,15] (fun nv rv wq=>∃(k j:Nat),k<=ts.length/\nv= .int .i64 j/\rv= .int .i64 ((k:Int)+1)/\Hid (AtJ L k j/\Below w7.heap.size w7 wq)) (fun _ rv _=>ts.length+1-(intOf rv).toNat)
    case atStart=>exact⟨0,0,Nat.zero_le _,rfl,rfl,AtJ.zero fun x hx=>(HLB.out x hx).1,Below.refl _ _⟩
    case round=>
     obtain⟨k,j,hk,rfl,rfl,HJ⟩:=hrel;have hjl:j<=nL:=by have h1:=HJ.out.1.le;have h2:=HNL.out;omega
     by_cases hlt:k<ts.length
     ·have i2:(k:Int)+1<=(ts.length:Int):=by omega
      obtain⟨C,hC⟩:∃C,cn L ((k:Int)+1)=C:=⟨_,rfl⟩;have hlk:=(HRW.out.below HJ.out.2).look hC (by omega) (by omega)
      by_cases hC0:C=0
      ·have j0:(C == 0)=true:=by simpa using hC0
       have HJ2:Hid (AtJ L (k+1) j/\Below w7.heap.size w7 wr):=⟨HJ.out.1.no HKL.out.pos (hC.trans hC0),HJ.out.2⟩;clear HJ hC hC0;go_wp2;go_roundw
       case rel=>exact⟨k+1,j,by omega,rfl,by go_num,HJ2⟩
       case measure=>simp[intOf];omega
      ·have j0:(C == 0)=false:=by simpa using hC0
       obtain⟨hj,r1,r2,hA⟩:=HJ.out.1.yes HKL.out.ris HKL.out.pos (by rw[hC];exact hC0);rw[hC]at r2;rcases HR7.out.2.2 with h0|⟨b6,o6,rfl,hb6,hrow6⟩
       ·rw[h0]at hj;simp at hj
       obtain⟨g1,g2⟩:=hrow6 j hj;rw[r1,<-HJ.out.2.cell (p:=⟨b6,_,none⟩) hb6]at g1;rw[r2,<-HJ.out.2.cell (p:=⟨b6,_,none⟩) hb6]at g2;have hjn:¬(nL:Int)<=(j:Int):=by have:=HNL.out;omega
       have hjn2:(j:Int)<(nL:Int):=by omega
       have hjd:decide (nL<=j)=false:=by simp;omega
       have hC2:(C != C)=false:=by simp
       have hk2:(((k:Int)+1) != ((k:Int)+1))=false:=by simp
       have hlkn:∀q,(Instr.lookup 44 (.map (some m)) (.int .i64 ((k:Int)+1)) false).run Tryz.prog (wr.drewN q)= .ok (.int .i64 C) (wr.drewN q):=fun q=>((HRW.out.below HJ.out.2).below (below_drewN (Below.refl _ _) q)).look hC (by omega) (by omega);have HJ2:Hid (AtJ L (k+1) (j+1)/\Below w7.heap.size w7 wr):=⟨hA,HJ.out.2⟩;clear HJ hC hC0 hj r1 r2 hA hrow6 hb6;go_wp2_with fail;go_quiet (fail);have HJ3:Hid (AtJ L (k+1) (j+1)/\Below w7.heap.size w7 (wr.drewN nq)):=⟨HJ2.out.1,HJ2.out.2.trans ((below_drewN (Below.refl _ _) nq).mono HJ2.out.2.size)⟩;clear hlkn HJ2;generalize (wr.drewN nq)=W9 at *;go_wp2;go_roundw
       case rel=>exact⟨k+1,j+1,by omega,by go_num,by go_num,HJ3⟩
       case measure=>simp[intOf];omega
     ·have i2:¬(k:Int)+1<=(ts.length:Int):=by omega
      have hj:j=nL:=by
       have e:k=ts.length:=by omega
       rw[<-HNL.out];exact HJ.out.1.done fun x hx=>by rw[e];exact(HLB.out x hx).2
      have HB8:Hid (Below w.heap.size w wr):=HB7.out.trans (HJ.out.2.mono HB7.out.size);have hjj:((nL:Int) == (nL:Int))=true:=by simp
      subst hj;clear HJ;go_wp2;go_ret;exact⟨by simp,HB8.out⟩
 ·have hEC:=Xt C (HG.out.below HB3W.out)
  rw[<-HEV.out]at hEC;have HEC:Hid _:=hEC;have j0:(C != 0)=true:=by simpa using hC0
  clear HEV hC0 hEC HC HD2 HM2 HP3 HBK HB3 HS HS2;go_wp2_with fail;refine(show Calls _ _ _ _ _ from HEC.out).mono ?_;rintro _ w4 ⟨rfl,hb4⟩;have HB4:Hid (Below w.heap.size w w4):=HB3W.out.trans (hb4.mono HB3W.out.size);clear hb4 HEC;go_wp2;go_ret;exact⟨rfl,HB4.out⟩
end
end Go.Proofs.YtgfldnaahojnlaaGreatDoor
