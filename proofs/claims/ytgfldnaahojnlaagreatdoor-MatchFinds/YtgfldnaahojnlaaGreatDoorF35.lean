/- MatchFinds: part 35. -/
import Derived.Test.YtgfldnaahojnlaaGreatDoorF34
set_option maxRecDepth 100000
set_option maxHeartbeats 4000000
namespace Go.Proofs.YtgfldnaahojnlaaGreatDoor
section
open Go.RowKit
structure Fr where
 B:Nat
 k:Int
 q:Qy
def ptc (l:List Fr):List Value:=l.map fun f=>Value.pointer (some ⟨f.B,0,none⟩)
theorem Pb (a b:List Fr):ptc (a++b)=ptc a++ptc b:=by simp[ptc]
theorem XV:(Tryz.prog.info? 27).map (fun i=>(i.zero,i.size,i.bytes))=some (some (.pointer none),1,8):=by kernel_rfl
theorem Wj (p:Option Addr):∀u∈[Value.pointer p],u.oneCell'=true:=by intro y hy;simp at hy;subst hy;rfl
section
variable {pls:ByteArray->List Pl} {beg:ByteArray->List ByteArray}
def unw (pls:ByteArray->List Pl) (beg:ByteArray->List ByteArray) (l:List Fr) (h:List Ht):List Ht:=l.foldr (fun f h=>Ak f.k h (A7 pls beg f.q)) h
theorem J3 (l:List Fr) (f:Fr) (h:List Ht):unw pls beg (l++[f]) h=unw pls beg l (Ak f.k h (A7 pls beg f.q)):=by simp[unw]
def tot (l:List Fr):Nat:=(l.map fun f=>lvs f.q).sum
theorem J5 (l:List Fr) (f:Fr):tot (l++[f])=tot l+lvs f.q:=by simp[tot]
structure Xh (n:Nat) (f:Fr) (w:World):Prop where
 lt:f.B<w.heap.size
 kd:w.cell? ⟨f.B,0,none⟩=some (.int .i64 f.k)
 sb:∃p,w.cell? ⟨f.B,4,none⟩=some (.pointer p)/\MIs w p f.q
 sz:szQ f.q<n
 s2:szQ f.q<=1000
 ok:QOk f.q
theorem PI {k:Int} {ws:List ByteArray} {a b:Qy} (h:EA k=false):A7 pls beg (.node k ws a b)=Fg pls beg (.node k ws a b):=by
 unfold A7 Fg;rw[if_neg (by rw[h];decide)]
end
section
variable {bf:Nat} {nm:ByteArray} {pls:ByteArray->List Pl} {beg:ByteArray->List ByteArray}
def MU (bf:Nat) (nm:ByteArray) (pls:ByteArray->List Pl) (beg:ByteArray->List ByteArray) (n:Nat):Prop:=∀(q:Qy) (w:World) (p:Option Addr),szQ q<n->Fdr bf nm pls beg w->MIs w p q->QOk q->lvs q<=400->szQ q<=1000->
 Calls Tryz.prog 30 #[.agg #[.pointer (some ⟨bf,0,none⟩),.string nm],.pointer p] w fun e w'=>∃v,e= .returned (.tuple #[v,.nilIface])/\InH w' v (A7 pls beg q)/\Below w.heap.size w w'
structure GE (w:World) (bf:Nat) (nm:ByteArray) (pls:ByteArray->List Pl) (beg:ByteArray->List ByteArray) (n:Nat) (f:Fr) (p:Option Addr) (g j:Nat) (wx:World):Prop where
 sv:SV w.heap.size bf nm wx
 fd:Fdr bf nm pls beg wx
 b:Below w.heap.size w wx
 gl:g<wx.heap.size
 gc:wx.cell? ⟨g,j,none⟩=some (.pointer (some ⟨f.B,0,none⟩))
 lt:f.B<wx.heap.size
 kd:wx.cell? ⟨f.B,0,none⟩=some (.int .i64 f.k)
 sb:wx.cell? ⟨f.B,4,none⟩=some (.pointer p)
 m:MIs wx p f.q
theorem GE.step {w wx wy:World} {n:Nat} {f:Fr} {p:Option Addr} {g j:Nat} (h:GE w bf nm pls beg n f p g j wx) (hb:Below wx.heap.size wx wy):GE w bf nm pls beg n f p g j wy:=
 ⟨h.sv.below hb,h.fd.below hb,h.b.trans (hb.mono h.b.size),Nat.lt_of_lt_of_le h.gl hb.size,by rw[hb.cell (p:=⟨g,_,none⟩) h.gl];exact h.gc,Nat.lt_of_lt_of_le h.lt hb.size,by rw[hb.cell (p:=⟨f.B,_,none⟩) h.lt];exact h.kd,by rw[hb.cell (p:=⟨f.B,_,none⟩) h.lt];exact h.sb,h.m.below hb⟩
set_option maxHeartbeats 8000000
theorem S9 (n:Nat) (IH:MU bf nm pls beg n):MU bf nm pls beg (n+1):=by
 intro q w p hn hF hq hk hl hz;obtain⟨i0,hi,hz0,hz1,hz2⟩:=A5 XV;obtain⟨T,hT⟩:∃T,A7 pls beg q=T:=⟨_,rfl⟩;have HIH:Hid (MU bf nm pls beg n):=IH;have HF:Hid (Fdr bf nm pls beg w):=hF;have HQ:Hid (MIs w p q/\QOk q/\A7 pls beg q=T):=⟨hq,hk,hT⟩;obtain⟨LQ,hLQ⟩:∃LQ,lvs q=LQ:=⟨_,rfl⟩;obtain⟨SQ,hSQ⟩:∃SQ,szQ q=SQ:=⟨_,rfl⟩;rw[hT];rw[hLQ]at hl;rw[hSQ]at hn hz;have HSV0:Hid (SV w.heap.size bf nm (w.alloc (.cells #[.pointer (some ⟨bf,0,none⟩),.string nm] 85))):=SV.new bf nm w;have HB0:Hid (Below w.heap.size w (w.alloc (.cells #[.pointer (some ⟨bf,0,none⟩),.string nm] 85))):=DZ w _;have hs0:w.heap.size<(w.alloc (.cells #[.pointer (some ⟨bf,0,none⟩),.string nm] 85)).heap.size:=by simp
 have HLQ:Hid (lvs q=LQ/\szQ q=SQ):=⟨hLQ,hSQ⟩;clear IH hF hq hk hT hLQ hSQ;go_enter Tryz.func30,Tryz.ntmps30;go_wp2;go_loopw [1,6] (fun u v wr=>∃(cur:Qy) (pc:Option Addr) (l:List Fr),u= .pointer pc/\Hid (MIs w pc cur/\QOk cur/\tot l+lvs cur=LQ/\unw pls beg l (A7 pls beg cur)=T)/\l.length+szQ cur<=SQ/\Hid (∀f∈l,Xh n f w)/\Hid (wr.ownsRow (w.heap.size+1) 27 1 v l.length (ptc l))/\Hid (SV w.heap.size bf nm wr/\Below w.heap.size w wr/\w.heap.size<wr.heap.size)) (fun _ v _=>SQ-A4 v)
 case atStart=>exact⟨q,p,[],rfl,⟨HQ.out.1,HQ.out.2.1,by show 0+lvs q=LQ;rw[HLQ.out.1,Nat.zero_add],HQ.out.2.2⟩,by show 0+szQ q<=SQ;rw[HLQ.out.2];omega,fun _ h=>(by cases h),World.ownsRow_nil _ _ _ _,⟨HSV0.out,HB0.out,hs0⟩⟩
 case round=>
  clear HSV0 HB0 hs0 HQ HLQ;obtain⟨cur,pc,l,rfl,hz1',hlen,hfr,hown,hw⟩:=hrel;have HO:Hid (wr.ownsRow (w.heap.size+1) 27 1 u6 l.length (ptc l)):=hown.out;have HFR:Hid (∀f∈l,Xh n f w):=hfr.out;have HSV:Hid (SV w.heap.size bf nm wr):=hw.out.1;have HB:Hid (Below w.heap.size w wr):=hw.out.2.1;have hsz:=hw.out.2.2;obtain⟨hM,hok,htot,hun⟩:=hz1'.out;clear hz1' hfr hown hw
  by_cases ht:∃k ws a b,cur= .node k ws a b/\EA k=true
  ·obtain⟨k,ws,a,b,rfl,hkt⟩:=ht
   obtain⟨B,x,c,pa,pb,rfl,hN,hr,hMa,hMb⟩:=hM.node;have hNw:=hN.below HB.out;obtain⟨_,c0,_,_,c3,_⟩:=hNw;have HA:Hid (MIs w pa a):=hMa;have HN:Hid (Xh n ⟨B,k,b⟩ w):=⟨hN.lt,hN.kd,⟨pb,hN.sb,hMb⟩,by show szQ b<n;have e:szQ (.node k ws a b)=1+szQ a+szQ b:=rfl;omega,by show szQ b<=1000;have e:szQ (.node k ws a b)=1+szQ a+szQ b:=rfl;omega,hok.2.2⟩;have hl2:l.length+1+szQ a<=SQ:=by have e:szQ (.node k ws a b)=1+szQ a+szQ b:=rfl;omega
   have HZ:Hid (QOk a/\tot (l++[⟨B,k,b⟩])+lvs a=LQ/\unw pls beg (l++[⟨B,k,b⟩]) (A7 pls beg a)=T):=by
    refine⟨hok.2.1,?_,?_⟩
    ·rw[J5]
     have e:lvs (.node k ws a b)=lvs a+lvs b:=by rw[lvs,if_pos hkt]
     rw[e]at htot;show tot l+lvs b+lvs a=LQ;omega
    ·rw[J3]
     have e:A7 pls beg (.node k ws a b)=Ak k (A7 pls beg a) (A7 pls beg b):=by rw[A7,if_pos hkt]
     rw[e]at hun;exact hun
   have hk3:k=4\/k=5\/k=6:=by
    unfold EA at hkt;simp only[Bool.or_eq_true,decide_eq_true_eq]at hkt;omega
   have hsl:∃va vc,u6= .slice va l.length vc:=by
    rcases HO.out.2 with⟨rfl,h0⟩|⟨g,cap,cur,rfl,_⟩
    ·exact⟨none,0,by rw[h0]⟩
    ·exact⟨_,cap,rfl⟩
   obtain⟨va,vc,hsl⟩:=hsl;have HSL:Hid (A4 u6=l.length):=by show _=_;rw[hsl];rfl
   clear hM hok htot hun hN hr hMa hMb hlen hsl hkt;rcases hk3 with rfl|rfl|rfl
   all_goals (
    go_wp2_with (at_builtin;refine wpList_append_own _ rfl _ _ 142 rfl (w.heap.size+1) 27 i0 (.pointer none) 1 8 Tryz.underlying142 hi hz0 hz1 hz2 rfl (by decide) _ _ _ rfl (HO.out.alloc _) ⟨wr.heap.size,0,none⟩ 1 1 [.pointer (some ⟨B,0,none⟩)] rfl rfl (cell_one_new _ _ _) (Wj _) (by simp[maxLen];omega) (by omega) (by simp;omega) ?_)
    intro v3 w3 ho3 hg3 _;have HB3':Hid (Below (w.heap.size+1) wr w3):=((Below.refl (w.heap.size+1) wr).alloc (by omega) _).grown hg3 (by simp;omega) (fun g hg=>(HO.out.lt g hg).1);have HB3:Hid (Below w.heap.size w w3):=HB.out.trans (HB3'.out.mono (by omega));have hs3:w.heap.size<w3.heap.size:=Nat.lt_of_lt_of_le hsz HB3'.out.size;have HSV3:Hid (SV w.heap.size bf nm w3):=⟨hs3,by rw[HB3'.out.cell (p:=⟨w.heap.size,0,none⟩) (by show w.heap.size<_;omega)];exact HSV.out.f,by rw[HB3'.out.cell (p:=⟨w.heap.size,1,none⟩) (by show w.heap.size<_;omega)];exact HSV.out.n⟩
    have c3':w3.cell? ⟨B,3,none⟩=some (.pointer pa):=by
     have hBl:=HN.out.lt;rw[HB3'.out.cell (p:=⟨B,3,none⟩) (by show B<_;exact Nat.lt_succ_of_lt hBl)];exact c3
    generalize hl3:l++[(⟨B,_,b⟩:Fr)]=l3 at HZ;have HL3:Hid (l++[(⟨B,_,b⟩:Fr)]=l3):=hl3;have HO3:Hid (w3.ownsRow (w.heap.size+1) 27 1 v3 l3.length (ptc l3)):=Bc ho3 (by rw[<-hl3];simp) (by rw[<-hl3,Pb];rfl)
    have HFR3:Hid (∀f∈l3,Xh n f w):=fun f hf=>by
     rw[<-hl3]at hf;rcases List.mem_append.1 hf with hf|hf
     ·exact HFR.out f hf
     ·rw[List.mem_singleton.1 hf];exact HN.out
    have hl4:l3.length=l.length+1:=by rw[<-hl3];simp
    have HSL3:Hid (A4 v3=l3.length):=by
     rcases HO3.out.2 with⟨rfl,h0⟩|⟨g,cap,cur,rfl,_⟩
     ·exact h0.symm
     ·rfl
    have HL4:Hid (l3.length=l.length+1):=hl4;clear ho3 hg3 HO HFR HSV HB HN c3 c0 hl3 hl4 hsz;go_wp2;go_roundw
    case rel=>exact⟨a,pa,l3,rfl,⟨HA.out,HZ.out⟩,by rw[HL4.out];exact hl2,HFR3.out,HO3.out,⟨HSV3.out,HB3.out,hs3⟩⟩
    case measure=>rw[HSL3.out,HSL.out,HL4.out];omega)
  ·skip
   have hrow:∃va vc,u6= .slice va l.length vc/\(l=[]\/∃g,va=some ⟨g,0,none⟩/\g<wr.heap.size/\∀j (h:j<l.length),wr.cell? ⟨g,j,none⟩=some (.pointer (some ⟨l[j].B,0,none⟩))):=by
    rcases HO.out.2 with⟨rfl,h0⟩|⟨g,cap,cur,rfl,_,hg,_⟩
    ·exact⟨none,0,by rw[h0],.inl (List.length_eq_zero_iff.1 h0)⟩
    ·refine⟨_,cap,rfl,.inr ⟨g,rfl,(Array.getElem?_eq_some_iff.1 hg).1,fun j hj=> ?_⟩⟩
     have k0:=HO.out.cells (g:=g) rfl j (.pointer (some ⟨l[j].B,0,none⟩)) (by simp[ptc,hj]);rw[Go.WideShapes.add_plain,Nat.zero_add]at k0;exact k0
   obtain⟨va,vc,rfl,hrow⟩:=hrow;have hlm:l.length<=1000:=by omega
   obtain⟨LC,hLC⟩:∃LC,lvs cur=LC:=⟨_,rfl⟩;have HK0':=FF HF.out.ok cur;rw[hLC]at htot HK0'
   cases cur with
   |nil=>
    obtain rfl:pc=none:=hM;have HMC:Hid (MIs w none .nil/\QOk .nil):=⟨rfl,trivial⟩;have HK0:Hid (Hk (250000 * LC) (Fg pls beg .nil)):=HK0';have HTT:Hid (LC+tot l=LQ/\unw pls beg l (Fg pls beg .nil)=T):=⟨by omega,hun⟩;clear hok htot hun HK0' hLC ht;have HAL:Hid _:=OB (HF.out.below HB.out) .nil none (HMC.out.1.below HB.out) HMC.out.2;obtain⟨_,s1,s2⟩:=HSV.out;go_wp2_with fail;refine(show Calls _ _ _ _ _ from HAL.out).mono ?_;rintro _ w1 ⟨v1,rfl,hi1,hb1⟩;have HI1:Hid (InH w1 v1 (Fg pls beg .nil)):=hi1;have HB1:Hid (Below w.heap.size w w1):=HB.out.trans (hb1.mono HB.out.size);have HSV1:Hid (SV w.heap.size bf nm w1):=HSV.out.below hb1
    have hrow1:l=[]\/∃g,va=some ⟨g,0,none⟩/\g<w1.heap.size/\∀j (h:j<l.length),w1.cell? ⟨g,j,none⟩=some (.pointer (some ⟨l[j].B,0,none⟩)):=by
     rcases hrow with h|⟨g,e,hg,hc⟩
     ·exact .inl h
     ·exact .inr ⟨g,e,Nat.lt_of_lt_of_le hg hb1.size,fun j h=>by rw[hb1.cell (p:=⟨g,_,none⟩) hg];exact hc j h⟩
    clear hi1 hb1 HAL HSV HB hrow s1 s2;go_wp2;go_loopw [7,8,9] (fun hv ev nv wx=>∃(m:Nat) (h:List Ht) (K:Nat),m<=l.length/\nv= .int .i64 m/\ev= .nilIface/\Hid (InH wx hv h/\Hk (250000 * K) h/\K+tot (l.take m)=LQ/\unw pls beg (l.take m) h=T)/\Hid (SV w.heap.size bf nm wx/\Below w1.heap.size w1 wx)) (fun _ _ nv _=>(intOf nv).toNat)
    case atStart=>exact⟨l.length,_,LC,Nat.le_refl _,rfl,rfl,⟨HI1.out,HK0.out,by rw[List.take_length];exact HTT.out.1,by rw[List.take_length];exact HTT.out.2⟩,⟨HSV1.out,Below.refl _ _⟩⟩
    case round=>
     clear HI1 HSV1 HK0 HTT HMC;obtain⟨m,h,K,hm,rfl,rfl,hz,hw⟩:=hrel;have HSV:Hid (SV w.heap.size bf nm wr):=hw.out.1;have HB:Hid (Below w1.heap.size w1 wr):=hw.out.2;have HBW:Hid (Below w.heap.size w wr):=HB1.out.trans (hw.out.2.mono HB1.out.size);obtain⟨hin,hhk,htot,hun⟩:=hz.out;have HIN:Hid (InH wr u7 h):=hin;have HHK:Hid (Hk (250000 * K) h):=hhk;clear hz hw hin hhk
     cases m with
     |zero=>
      have e:h=T:=hun;subst e;clear htot hun;go_wp2;go_ret2;exact⟨_,rfl,HIN.out,HBW.out⟩
     |succ j=>
      have hj:j<l.length:=by omega
      rcases hrow1 with h0|⟨g,rfl,hg,hc⟩
      ·rw[h0]at hj;simp at hj
      have hcj:=hc j hj;have hf:=HFR.out l[j] (List.getElem_mem hj);rw[List.take_succ_eq_append_getElem hj,J5]at htot;rw[List.take_succ_eq_append_getElem hj,J3]at hun;generalize l[j]=f at *;obtain⟨p2,hsb,hmq⟩:=hf.sb;have HG:Hid (GE w bf nm pls beg n f p2 g j wr):=⟨HSV.out,HF.out.below HBW.out,HBW.out,Nat.lt_of_lt_of_le hg HB.out.size,by rw[HB.out.cell (p:=⟨g,_,none⟩) hg];exact hcj,Nat.lt_of_lt_of_le hf.lt HBW.out.size,by rw[HBW.out.cell (p:=⟨f.B,_,none⟩) hf.lt];exact hf.kd,by rw[HBW.out.cell (p:=⟨f.B,_,none⟩) hf.lt];exact hsb,hmq.below HBW.out⟩;have HFO:Hid (szQ f.q<n/\QOk f.q/\lvs f.q<=400/\szQ f.q<=1000):=⟨hf.sz,hf.ok,by omega,hf.s2⟩;have HTO:Hid (K+lvs f.q+tot (l.take j)=LQ/\unw pls beg (l.take j) (Ak f.k h (A7 pls beg f.q))=T):=⟨by omega,hun⟩;have hw1:IntKind.i64.wrap ((j:Int)+1-1)=(j:Int):=by rw[show(j:Int)+1-1=(j:Int) by omega];exact By _ (by omega) (by omega)
      have d1:decide ((0:Int)<(j:Int)+1)=true:=by simp
      have i1:(j:Int)<(l.length:Int):=by omega
      have i2:(0:Int)<=(j:Int):=by omega
      have hw2:IntKind.i64.wrap (j:Int)=(j:Int):=By _ (by omega) (by omega);have HBS:Hid (Below w1.heap.size w1 wr):=HB.out;have HFIND:Hid (∀wx,GE w bf nm pls beg n f p2 g j wx->Calls Tryz.prog 30 #[.agg #[.pointer (some ⟨bf,0,none⟩),.string nm],.pointer p2] wx fun e w'=>∃v,e= .returned (.tuple #[v,.nilIface])/\InH w' v (A7 pls beg f.q)/\Below wx.heap.size wx w'):=fun wx hg=>HIH.out f.q wx p2 HFO.out.1 hg.fd hg.m HFO.out.2.1 HFO.out.2.2.1 HFO.out.2.2.2;clear hf hsb hmq htot hun HSV HB hcj hc;have c2:=HG.out.sv.f;have c3:=HG.out.sv.n;have c4:=HG.out.gc;have c5:=HG.out.sb;go_wp2_with fail;have HG:Hid _:=GE.step HG.out (Below.refl _ _).drew;have HBS:Hid _:=HBS.out.trans ((Below.refl _ _).drew.mono HBS.out.size);have HIN:Hid (InH wr.drew u7 h):=HIN.out.below (Below.refl _ _).drew;clear c2 c3 c4 c5
      go_region_held3 (fun w'=>w'.cell? ⟨w.heap.size,0,none⟩=some (.pointer (some ⟨bf,0,none⟩))/\w'.cell? ⟨w.heap.size,1,none⟩=some (.string nm)/\w'.cell? ⟨g,j,none⟩=some (.pointer (some ⟨f.B,0,none⟩))/\w'.cell? ⟨f.B,4,none⟩=some (.pointer p2)) (exact⟨HG.out.sv.f,HG.out.sv.n,HG.out.gc,HG.out.sb⟩)
       ((go_at_call 30;refine Calls.mono (HFIND.out _ HG.out) ?_;rintro _ w2 ⟨v2,rfl,hi2,hb2⟩;have HI2:Hid (InH w2 v2 (A7 pls beg f.q)):=hi2;have HG:Hid _:=GE.step HG.out hb2;have HBS:Hid _:=HBS.out.trans (hb2.mono HBS.out.size);have HIN:Hid (InH w2 u7 h):=HIN.out.below hb2;clear hb2 hi2))
      have HKF:Hid (Hk (250000 * lvs f.q) (A7 pls beg f.q)):=FF HF.out.ok f.q;have HTG:Hid _:=FQ f.k HIN.out HI2.out HHK.out HKF.out (by have:=HTO.out.1;omega);have c4:=HG.out.gc;have c5:=HG.out.kd;clear HI2 HIN;go_wp2_with fail;refine(show Calls _ _ _ _ _ from HTG.out).mono ?_;rintro _ w3 ⟨v3,rfl,hi3,hb3⟩;have HI3:Hid (InH w3 v3 (Ak f.k h (A7 pls beg f.q))):=hi3;have HK3:Hid (Hk (250000 * (K+lvs f.q)) (Ak f.k h (A7 pls beg f.q))):=(HHK.out.tog f.k HKF.out).mono (by rw[Nat.mul_add];exact Nat.le_refl _);have HSV3:Hid (SV w.heap.size bf nm w3):=HG.out.sv.below hb3;have HB3:Hid (Below w1.heap.size w1 w3):=HBS.out.trans (hb3.mono HBS.out.size);clear hi3 hb3 HG HBS HTG HKF HHK c4 c5;go_wp2;go_roundw
      case rel=>exact⟨j,_,K+lvs f.q,by omega,by go_num,rfl,⟨HI3.out,HK3.out,HTO.out.1,HTO.out.2⟩,⟨HSV3.out,HB3.out⟩⟩
      case measure=>simp[intOf]
   |node k ws a b=>
    have hkt:EA k=false:=by
     cases e:EA k with
     |false=>rfl
     |true=>exact absurd ⟨k,ws,a,b,rfl,e⟩ ht
    obtain⟨B,x,c,pa,pb,rfl,hN,_,_,_⟩:=hM.node;obtain⟨_,c0,_,_,_,_⟩:=hN.below HB.out;have HMC:Hid (MIs w (some ⟨B,0,none⟩) (.node k ws a b)/\QOk (.node k ws a b)):=⟨hM,hok⟩;rw[PI hkt]at HK0' hun;have HK0:Hid (Hk (250000 * LC) (Fg pls beg (.node k ws a b))):=HK0';have HTT:Hid (LC+tot l=LQ/\unw pls beg l (Fg pls beg (.node k ws a b))=T):=⟨by omega,hun⟩
    have hk3:¬k=4/\¬k=5/\¬k=6:=by
     unfold EA at hkt;simp only[Bool.or_eq_false_iff,decide_eq_false_iff_not]at hkt;exact⟨hkt.1.1,hkt.1.2,hkt.2⟩
    have j4:(k == 4)=false:=by simpa using hk3.1
    have j5:(k == 5)=false:=by simpa using hk3.2.1
    have j6:(k == 6)=false:=by simpa using hk3.2.2
    clear hM hok htot hun HK0' hLC ht hkt hk3 hN;have HAL:Hid _:=OB (HF.out.below HB.out) (.node k ws a b) (some ⟨B,0,none⟩) (HMC.out.1.below HB.out) HMC.out.2;obtain⟨_,s1,s2⟩:=HSV.out;go_wp2_with fail;refine(show Calls _ _ _ _ _ from HAL.out).mono ?_;rintro _ w1 ⟨v1,rfl,hi1,hb1⟩;have HI1:Hid (InH w1 v1 (Fg pls beg (.node k ws a b))):=hi1;have HB1:Hid (Below w.heap.size w w1):=HB.out.trans (hb1.mono HB.out.size);have HSV1:Hid (SV w.heap.size bf nm w1):=HSV.out.below hb1
    have hrow1:l=[]\/∃g,va=some ⟨g,0,none⟩/\g<w1.heap.size/\∀j (h:j<l.length),w1.cell? ⟨g,j,none⟩=some (.pointer (some ⟨l[j].B,0,none⟩)):=by
     rcases hrow with h|⟨g,e,hg,hc⟩
     ·exact .inl h
     ·exact .inr ⟨g,e,Nat.lt_of_lt_of_le hg hb1.size,fun j h=>by rw[hb1.cell (p:=⟨g,_,none⟩) hg];exact hc j h⟩
    clear hi1 hb1 HAL HSV HB hrow s1 s2 c0 j4 j5 j6;go_wp2;go_loopw [7,8,9] (fun hv ev nv wx=>∃(m:Nat) (h:List Ht) (K:Nat),m<=l.length/\nv= .int .i64 m/\ev= .nilIface/\Hid (InH wx hv h/\Hk (250000 * K) h/\K+tot (l.take m)=LQ/\unw pls beg (l.take m) h=T)/\Hid (SV w.heap.size bf nm wx/\Below w1.heap.size w1 wx)) (fun _ _ nv _=>(intOf nv).toNat)
    case atStart=>exact⟨l.length,_,LC,Nat.le_refl _,rfl,rfl,⟨HI1.out,HK0.out,by rw[List.take_length];exact HTT.out.1,by rw[List.take_length];exact HTT.out.2⟩,⟨HSV1.out,Below.refl _ _⟩⟩
    case round=>
     clear HI1 HSV1 HK0 HTT HMC;obtain⟨m,h,K,hm,rfl,rfl,hz,hw⟩:=hrel;have HSV:Hid (SV w.heap.size bf nm wr):=hw.out.1;have HB:Hid (Below w1.heap.size w1 wr):=hw.out.2;have HBW:Hid (Below w.heap.size w wr):=HB1.out.trans (hw.out.2.mono HB1.out.size);obtain⟨hin,hhk,htot,hun⟩:=hz.out;have HIN:Hid (InH wr u7 h):=hin;have HHK:Hid (Hk (250000 * K) h):=hhk;clear hz hw hin hhk
     cases m with
     |zero=>
      have e:h=T:=hun;subst e;clear htot hun;go_wp2;go_ret2;exact⟨_,rfl,HIN.out,HBW.out⟩
     |succ j=>
      have hj:j<l.length:=by omega
      rcases hrow1 with h0|⟨g,rfl,hg,hc⟩
      ·rw[h0]at hj;simp at hj
      have hcj:=hc j hj;have hf:=HFR.out l[j] (List.getElem_mem hj);rw[List.take_succ_eq_append_getElem hj,J5]at htot;rw[List.take_succ_eq_append_getElem hj,J3]at hun;generalize l[j]=f at *;obtain⟨p2,hsb,hmq⟩:=hf.sb;have HG:Hid (GE w bf nm pls beg n f p2 g j wr):=⟨HSV.out,HF.out.below HBW.out,HBW.out,Nat.lt_of_lt_of_le hg HB.out.size,by rw[HB.out.cell (p:=⟨g,_,none⟩) hg];exact hcj,Nat.lt_of_lt_of_le hf.lt HBW.out.size,by rw[HBW.out.cell (p:=⟨f.B,_,none⟩) hf.lt];exact hf.kd,by rw[HBW.out.cell (p:=⟨f.B,_,none⟩) hf.lt];exact hsb,hmq.below HBW.out⟩;have HFO:Hid (szQ f.q<n/\QOk f.q/\lvs f.q<=400/\szQ f.q<=1000):=⟨hf.sz,hf.ok,by omega,hf.s2⟩;have HTO:Hid (K+lvs f.q+tot (l.take j)=LQ/\unw pls beg (l.take j) (Ak f.k h (A7 pls beg f.q))=T):=⟨by omega,hun⟩;have hw1:IntKind.i64.wrap ((j:Int)+1-1)=(j:Int):=by rw[show(j:Int)+1-1=(j:Int) by omega];exact By _ (by omega) (by omega)
      have d1:decide ((0:Int)<(j:Int)+1)=true:=by simp
      have i1:(j:Int)<(l.length:Int):=by omega
      have i2:(0:Int)<=(j:Int):=by omega
      have hw2:IntKind.i64.wrap (j:Int)=(j:Int):=By _ (by omega) (by omega);have HBS:Hid (Below w1.heap.size w1 wr):=HB.out;have HFIND:Hid (∀wx,GE w bf nm pls beg n f p2 g j wx->Calls Tryz.prog 30 #[.agg #[.pointer (some ⟨bf,0,none⟩),.string nm],.pointer p2] wx fun e w'=>∃v,e= .returned (.tuple #[v,.nilIface])/\InH w' v (A7 pls beg f.q)/\Below wx.heap.size wx w'):=fun wx hg=>HIH.out f.q wx p2 HFO.out.1 hg.fd hg.m HFO.out.2.1 HFO.out.2.2.1 HFO.out.2.2.2;clear hf hsb hmq htot hun HSV HB hcj hc;have c2:=HG.out.sv.f;have c3:=HG.out.sv.n;have c4:=HG.out.gc;have c5:=HG.out.sb;go_wp2_with fail;have HG:Hid _:=GE.step HG.out (Below.refl _ _).drew;have HBS:Hid _:=HBS.out.trans ((Below.refl _ _).drew.mono HBS.out.size);have HIN:Hid (InH wr.drew u7 h):=HIN.out.below (Below.refl _ _).drew;clear c2 c3 c4 c5
      go_region_held3 (fun w'=>w'.cell? ⟨w.heap.size,0,none⟩=some (.pointer (some ⟨bf,0,none⟩))/\w'.cell? ⟨w.heap.size,1,none⟩=some (.string nm)/\w'.cell? ⟨g,j,none⟩=some (.pointer (some ⟨f.B,0,none⟩))/\w'.cell? ⟨f.B,4,none⟩=some (.pointer p2)) (exact⟨HG.out.sv.f,HG.out.sv.n,HG.out.gc,HG.out.sb⟩)
       ((go_at_call 30;refine Calls.mono (HFIND.out _ HG.out) ?_;rintro _ w2 ⟨v2,rfl,hi2,hb2⟩;have HI2:Hid (InH w2 v2 (A7 pls beg f.q)):=hi2;have HG:Hid _:=GE.step HG.out hb2;have HBS:Hid _:=HBS.out.trans (hb2.mono HBS.out.size);have HIN:Hid (InH w2 u7 h):=HIN.out.below hb2;clear hb2 hi2))
      have HKF:Hid (Hk (250000 * lvs f.q) (A7 pls beg f.q)):=FF HF.out.ok f.q;have HTG:Hid _:=FQ f.k HIN.out HI2.out HHK.out HKF.out (by have:=HTO.out.1;omega);have c4:=HG.out.gc;have c5:=HG.out.kd;clear HI2 HIN;go_wp2_with fail;refine(show Calls _ _ _ _ _ from HTG.out).mono ?_;rintro _ w3 ⟨v3,rfl,hi3,hb3⟩;have HI3:Hid (InH w3 v3 (Ak f.k h (A7 pls beg f.q))):=hi3;have HK3:Hid (Hk (250000 * (K+lvs f.q)) (Ak f.k h (A7 pls beg f.q))):=(HHK.out.tog f.k HKF.out).mono (by rw[Nat.mul_add];exact Nat.le_refl _);have HSV3:Hid (SV w.heap.size bf nm w3):=HG.out.sv.below hb3;have HB3:Hid (Below w1.heap.size w1 w3):=HBS.out.trans (hb3.mono HBS.out.size);clear hi3 hb3 HG HBS HTG HKF HHK c4 c5;go_wp2;go_roundw
      case rel=>exact⟨j,_,K+lvs f.q,by omega,by go_num,rfl,⟨HI3.out,HK3.out,HTO.out.1,HTO.out.2⟩,⟨HSV3.out,HB3.out⟩⟩
      case measure=>simp[intOf]
end
end
end Go.Proofs.YtgfldnaahojnlaaGreatDoor
