/- StoreFinds: part 36. -/
import Derived.Test.YtihnldkgeelehaaGreatDoorF35
set_option maxRecDepth 100000
set_option maxHeartbeats 4000000
namespace Go.Proofs.YtihnldkgeelehaaGreatDoor
section
open Go.RowKit Go.Maps
structure Gl (w:World):Prop where
 m:∃m:Int,w.cell? ⟨1,0,none⟩=some (.int .i64 m)
 h:HG w
 e:Df w
section
variable {w w':World}
theorem Gl.below (h:Gl w) (hb:Below w.heap.size w w'):Gl w':=by
 obtain⟨⟨m,h1⟩,h2,h3⟩:=h;exact⟨⟨m,Ae hb h1⟩,h2.below hb h2.lt,h3.below hb⟩
theorem Gl.only {S:Nat->Prop} (h:Gl w) (ho:Aa S w w') (hS:∀b,S b->3<=b):Gl w':=by
 obtain⟨⟨m,h1⟩,h2,h3⟩:=h;have l2:1<w.heap.size:=World.block_lt_of_cell? _ _ h1;refine⟨⟨m,(ho.cell l2 (fun e=>by have:=hS _ e;omega) 0).trans h1⟩,(ho.cell h2.lt (fun e=>by have:=hS _ e;omega) 0).trans h2,?_⟩;unfold Df at h3 ⊢;have e:∀o,w'.cell? ⟨0,o,none⟩=w.cell? ⟨0,o,none⟩:=fun o=>ho.cell (by omega) (fun e=>by have:=hS _ e;omega) o;simp only[e];exact h3
end
def MU (D:List Nd) (nm:ByteArray) (r:Nat) (ws:List ByteArray):Bool:=ws.any (fun x=>D.any (fun d=>d.is nm x r))
theorem Ex {D:List Nd} {nm:ByteArray} {r:Nat} {ws:List ByteArray}:MU D nm r ws=true↔J1 D nm r ws:=by
 unfold MU J1;simp only[List.any_eq_true,Dv]
theorem OX {D:List Nd} {nm:ByteArray} {r:Nat} {ws:List ByteArray} (hD:DOk D) (hn:Kh nm) (h2:r<=1073741824) (hw:∀x∈ws,WOk x):(∃x∈ws,∃y,InD D y/\y.k=Bu nm x r)↔J1 D nm r ws:=by
 constructor
 ·rintro⟨x,hx,y,⟨d,hd,rfl⟩,e⟩
  have k:=hD.ok d hd;obtain⟨a1,a2,a3⟩:=Ju (n:=d.n) (w:=d.w) (r:=d.r) k.n.nz k.w.nz (by have:=k.hi;omega) hn.nz (hw x hx).nz (by omega) e;exact⟨x,hx,d,hd,a1,a2,a3⟩
 ·rintro⟨x,hx,d,hd,rfl,rfl,rfl⟩
  exact⟨d.w,hx,_,⟨d,hd,rfl⟩,rfl⟩
def addE (D:List Nd) (nm:ByteArray) (r:Int) (s:ByteArray):Int:=
 if CP nm r=0 then(if 40<s.size then 1 else if MU D nm r.toNat (Ah s.data.toList)=true then 9 else if 500<D.length+(Ah s.data.toList).length then 12 else 0)else CP nm r
def CN (D:List Nd) (nm:ByteArray) (r:Int) (s:ByteArray):List Nd:=if addE D nm r s=0 then D++BE nm r.toNat 0 (Ah s.data.toList)else D
def DT (D:List Nd) (nm:ByteArray) (r:Int) (s:ByteArray):List Nd:=if CP nm r=0 then Ek D nm r.toNat (Ah s.data.toList)else D
theorem O8 {nm:ByteArray} {r:Int} {s:ByteArray} (h:CP nm r=0) (hs:s.size<=40):Tx nm r.toNat (Ah s.data.toList):=by
 obtain⟨h1,h2,h3⟩:=LS h;exact⟨h1,by omega,by omega,fun x hx=>Lg hx,by have:=ES s;omega⟩
theorem Lb {D:List Nd} {nm:ByteArray} {r:Int} {s:ByteArray} (h:addE D nm r s=0):CP nm r=0/\s.size<=40/\¬J1 D nm r.toNat (Ah s.data.toList)/\D.length+(Ah s.data.toList).length<=500:=by
 unfold addE at h
 by_cases h1:CP nm r=0
 ·rw[if_pos h1]at h
  refine⟨h1,?_⟩
  by_cases h2:40<s.size
  ·rw[if_pos h2]at h;cases h
  ·rw[if_neg h2]at h
   by_cases h3:MU D nm r.toNat (Ah s.data.toList)=true
   ·rw[if_pos h3]at h;cases h
   ·rw[if_neg h3]at h
    by_cases h4:500<D.length+(Ah s.data.toList).length
    ·rw[if_pos h4]at h;cases h
    ·exact⟨by omega,fun h5=>h3 (Ex.2 h5),by omega⟩
 ·rw[if_neg h1]at h;exact absurd h h1
structure Nts (D:List Nd):Prop where
 ok:DOk D
 len:D.length<=500
theorem Nts.nil:Nts []:=⟨DOk.nil,by simp⟩
theorem Nts.add {D:List Nd} (h:Nts D) (nm:ByteArray) (r:Int) (s:ByteArray):Nts (CN D nm r s):=by
 unfold CN
 by_cases h0:addE D nm r s=0
 ·rw[if_pos h0]
  obtain⟨h1,h2,h3,h4⟩:=Lb h0;have t:=O8 h1 h2;exact⟨h.ok.add t.n t.lo t.hi t.wk t.len h3,by rw[List.length_append,KJ];exact h4⟩
 ·rw[if_neg h0];exact h
theorem Nts.drop {D:List Nd} (h:Nts D) (nm:ByteArray) (r:Int) (s:ByteArray):Nts (DT D nm r s):=by
 unfold DT;split
 ·refine⟨h.ok.drop _ _ _,Nat.le_trans ?_ h.len⟩
  unfold Ek;exact List.length_filter_le _ _
 ·exact h
section
variable {bf bt bp:Nat} {bd:Sts} {bm N Bx:Nat} {w w':World} {D:List Nd} {nm s:ByteArray} {r:Int}
theorem Ei {n:Int} (h:¬n=0):FZ n= .iface 101 (.int .i64 n):=by unfold FZ;rw[if_neg h]
theorem Kr (hs:s.size<=1000) (hg:Gl w) (w0:World) (hb:Below w.heap.size w w0):
  Calls Tryz.prog 38 #[.string s] w0 fun e w'=>∃a c,e= .returned (.slice a (Ah s.data.toList).length c)/\w'.ownsRow w0.heap.size 9 1 (.slice a (Ah s.data.toList).length c) (Ah s.data.toList).length (sc (Ah s.data.toList))/\Below w0.heap.size w0 w':=by
 refine(Ks s w0 (by omega) (hg.below hb).e).mono ?_;rintro e w' ⟨v,rfl,h1,h2⟩;obtain⟨a,c,rfl⟩:=Aj h1;exact⟨a,c,rfl,h1,h2⟩
theorem RH (hD:Nts D) (h:PrS bf bt bp bd bm N 21000 (InD D) w) (hg:Gl w):
  Calls Tryz.prog 15 #[.pointer (some ⟨bf,0,none⟩)] w fun e w'=>e= .returned (.tuple #[.int .i64 (D.length:Nat),.nilIface])/\Below w.heap.size w w':=by
 obtain⟨N1,up,V,T,L,k0,k1,k2,k3⟩:=h.piecesD hD.ok;obtain⟨m,hm⟩:=hg.m;have:=RG k1 hm (k3.ok hD.ok) k2 (by have:=k3.len hD.ok;have:=hD.len;omega);rw[k3.cnt hD.ok]at this;exact this
set_option maxHeartbeats 2000000
theorem SH (hD:Nts D) (h:PrS bf bt bp bd bm N 21000 (InD D) w) (hg:Gl w) (nm s:ByteArray) (r:Int) (hnm:nm.size<=1000) (hs:s.size<=1000) (hN:N+1000<1000000):
  Calls Tryz.prog 76 #[.pointer (some ⟨bf,0,none⟩),.string nm,.int .i64 r,.string s] w fun e w'=>e= .returned (FZ (addE D nm r s))/\PrS bf bt bp bd bm (N+800) 21000 (InD (CN D nm r s)) w'/\Aa (fun b=>b=bp\/b=bm) w w':=by
 by_cases h1:CP nm r=0
 ·have hck:Calls Tryz.prog 126 #[.string nm,.int .i64 r] w fun e w'=>e= .returned .nilIface/\w'=w:=(EK nm r w).mono (fun e w' hh=>⟨by rw[hh.1,h1];rfl,hh.2⟩)
  have HCK:Hid _:=hck
  by_cases h2:40<s.size
  ·have he:addE D nm r s=1:=by unfold addE;rw[if_pos h1,if_pos h2]
   have hd:CN D nm r s=D:=by unfold CN;rw[he];rfl
   rw[he,hd,Ei (by decide)];have hP:PrS bf bt bp bd bm (N+800) 21000 (InD D) w:=h.mono (by omega) (Nat.le_refl _);have HP:Hid _:=hP;have i2:(40:Int)<(s.size:Int):=by omega
   clear he hd hP h hD hg hck h1 h2;go_enter Tryz.func76,Tryz.ntmps76;go_wp2_with fail;refine(show Calls _ _ _ _ _ from HCK.out).mono ?_;rintro _ w9 ⟨rfl,h9⟩;obtain rfl:=h9.symm;clear h9;go_wp2;go_ret;exact⟨rfl,HP.out,Aa.refl _ _⟩
  ·have i2:¬(40:Int)<(s.size:Int):=by omega
   have ht:=O8 h1 (s:=s) (by omega);have hrr:=(LS h1).2;have htl:=ht.len;obtain⟨l1,l2,l3,l4,l5⟩:=h.lt;have HSP:Hid _:=fun w0 hb=>Kr (s:=s) (w:=w) hs hg w0 hb
   have HFR:Hid (∀wx B a c,Below w.heap.size w wx->wx.ownsRow B 9 1 (.slice a (Ah s.data.toList).length c) (Ah s.data.toList).length (sc (Ah s.data.toList))->Calls Tryz.prog 127 #[.pointer (some ⟨bf,0,none⟩),.string nm,.int .i64 r,.slice a (Ah s.data.toList).length c] wx fun e w'=>(¬J1 D nm r.toNat (Ah s.data.toList)/\e= .returned .nilIface\/J1 D nm r.toNat (Ah s.data.toList)/\e= .returned (.iface 101 (.int .i64 9)))/\Below wx.heap.size wx w'):=fun wx B a c hb ho=>by
    have hr:r=((r.toNat:Nat):Int):=by omega
    have hq:=Qq (r:=r.toNat) (nm:=nm) hnm (h.below hb) (hg.below hb).h (fun x hx=>by have:=(ht.wk x hx).le;omega) (by omega) ho;rw[<-hr]at hq;have hk:=OX hD.ok ht.n ht.hi ht.wk;refine hq.mono ?_;rintro e w' ⟨hh,hb'⟩;refine⟨?_,hb'⟩;rcases hh with⟨g1,g2⟩|⟨g1,g2⟩
    ·refine .inl ⟨fun hh=> ?_,g2⟩
     obtain⟨x,hx,y,hy,e⟩:=hk.2 hh;exact g1 x hx y hy e
    ·exact .inr ⟨hk.1 g1,g2⟩
   have HMY:Hid (∀wx,Below w.heap.size w wx->Calls Tryz.prog 15 #[.pointer (some ⟨bf,0,none⟩)] wx fun e w'=>e= .returned (.tuple #[.int .i64 (D.length:Nat),.nilIface])/\Below wx.heap.size wx w'):=fun wx hb=>RH hD (h.below hb) (hg.below hb)
   have HNT:Hid (addE D nm r s=0->∀wx B a c,Below w.heap.size w wx->w.heap.size<=B->wx.ownsRow B 9 1 (.slice a (Ah s.data.toList).length c) (Ah s.data.toList).length (sc (Ah s.data.toList))->Calls Tryz.prog 128 #[.pointer (some ⟨bf,0,none⟩),.string nm,.int .i64 r,.slice a (Ah s.data.toList).length c] wx fun e w'=>e= .returned .nilIface/\PrS bf bt bp bd bm (N+800) 21000 (InD (CN D nm r s)) w'/\Aa (fun b=>b=bp\/b=bm) wx w'):=fun h0 wx B a c hb hB ho=>by
    have hr:r=((r.toNat:Nat):Int):=by omega
    obtain⟨_,_,hno,hfull⟩:=Lb h0;have hk:=OX hD.ok ht.n ht.hi ht.wk;have hq:=RC ht (h.below hb) ho (fun b e=>by have:=(World.ownsRow.lt ho b e).1;omega) (fun x hx y hy e=>hno (hk.1 ⟨x,hx,y,hy,e⟩)) (by omega) (by omega);rw[<-hr]at hq;refine hq.mono ?_;rintro e w' ⟨rfl,g1,g2⟩;have hNt:=hD.add nm r s;have e1:CN D nm r s=D++BE nm r.toNat 0 (Ah s.data.toList):=by unfold CN;rw[if_pos h0]
    rw[e1]at hNt ⊢;refine⟨rfl,?_,g2⟩;have g3:=(g1.iff (M':=InD (D++BE nm r.toNat 0 (Ah s.data.toList))) (fun y=>(T5 hno y).symm)).tight hNt.ok;exact g3.mono (by omega) (by have:=hNt.len;omega)
   have HP:Hid (∀wx,Below w.heap.size w wx->PrS bf bt bp bd bm (N+800) 21000 (InD D) wx):=fun wx hb=>(h.below hb).mono (by omega) (Nat.le_refl _)
   have HE9:Hid (J1 D nm r.toNat (Ah s.data.toList)->addE D nm r s=9/\CN D nm r s=D):=fun hh=>by
    have he:addE D nm r s=9:=by unfold addE;rw[if_pos h1,if_neg h2,if_pos (Ex.2 hh)]
    exact⟨he,by unfold CN;rw[he];rfl⟩
   have HE12:Hid (¬J1 D nm r.toNat (Ah s.data.toList)->500<D.length+(Ah s.data.toList).length->addE D nm r s=12/\CN D nm r s=D):=fun hh hf=>by
    have he:addE D nm r s=12:=by unfold addE;rw[if_pos h1,if_neg h2,if_neg (fun e=>hh (Ex.1 e)),if_pos hf]
    exact⟨he,by unfold CN;rw[he];rfl⟩
   have HE0:Hid (¬J1 D nm r.toNat (Ah s.data.toList)->¬500<D.length+(Ah s.data.toList).length->addE D nm r s=0):=fun hh hf=>by unfold addE;rw[if_pos h1,if_neg h2,if_neg (fun e=>hh (Ex.1 e)),if_neg hf]
   have hDl:=hD.len;obtain⟨E,hE⟩:∃E,FZ (addE D nm r s)=E:=⟨_,rfl⟩;have HEV:Hid (FZ (addE D nm r s)=E):=hE;rw[hE];obtain⟨n,hn⟩:∃n,(Ah s.data.toList).length=n:=⟨_,rfl⟩;rw[hn]at HSP HFR HNT htl HE12 HE0;obtain⟨m,hm⟩:∃m,D.length=m:=⟨_,rfl⟩;rw[hm]at HMY HE12 HE0 hDl;clear ht hrr h hg hn hm hD hE hck h1 h2;go_enter Tryz.func76,Tryz.ntmps76;go_wp2_with fail;refine(show Calls _ _ _ _ _ from HCK.out).mono ?_;rintro _ w9 ⟨rfl,h9⟩;obtain rfl:=h9.symm;clear h9;go_wp2_with fail;refine(show Calls _ _ _ _ _ from HSP.out w (Below.refl _ _)).mono ?_;rintro _ w2 ⟨a,c,rfl,hr2,hb2⟩;have HR2:Hid (w2.ownsRow w.heap.size 9 1 (.slice a n c) n (sc (Ah s.data.toList))):=hr2;have HB2:Hid (Below w.heap.size w w2):=hb2;clear hr2 hb2;go_wp2_with fail;refine(show Calls _ _ _ _ _ from HFR.out w2 _ a c HB2.out HR2.out).mono ?_;rintro _ w3 ⟨hcs,hb3⟩;have HB3:Hid (Below w.heap.size w w3):=HB2.out.trans (hb3.mono HB2.out.size);have HR3:Hid (w3.ownsRow w.heap.size 9 1 (.slice a n c) n (sc (Ah s.data.toList))):=Ag HR2.out hb3;clear hb3;rcases hcs with⟨hno,rfl⟩|⟨hyes,rfl⟩
   ·have HNO:Hid _:=hno
    clear hno;go_wp2_with fail;refine(show Calls _ _ _ _ _ from HMY.out w3 HB3.out).mono ?_;rintro _ w4 ⟨rfl,hb4⟩;have HB4:Hid (Below w.heap.size w w4):=HB3.out.trans (hb4.mono HB3.out.size);have HR4:Hid (w4.ownsRow w.heap.size 9 1 (.slice a n c) n (sc (Ah s.data.toList))):=Ag HR3.out hb4;have hwp:IntKind.i64.wrap ((m:Int)+(n:Int))=(m:Int)+(n:Int):=Br _ (by omega) (by omega);clear hb4
    by_cases hf:500<m+n
    ·have hle:(500:Int)<(m:Int)+(n:Int):=by omega
     have hv:E= .iface 101 (.int .i64 12):=by rw[<-HEV.out,(HE12.out HNO.out hf).1];exact Ei (by decide)
     have HDD:Hid (CN D nm r s=D):=(HE12.out HNO.out hf).2;subst hv;clear hf;go_wp2;go_ret;exact⟨rfl,by rw[HDD.out];exact HP.out w4 HB4.out,Ab HB4.out _⟩
    ·have hle:¬(500:Int)<(m:Int)+(n:Int):=by omega
     have hz:=HE0.out HNO.out hf;have hv:E= .nilIface:=by rw[<-HEV.out,hz];rfl
     have HN2:Hid _:=HNT.out hz;subst hv;clear hf hz;go_wp2_with fail;refine(show Calls _ _ _ _ _ from HN2.out w4 _ a c HB4.out (Nat.le_refl _) HR4.out).mono ?_;rintro _ w5 ⟨rfl,g1,g2⟩;have HG1:Hid (PrS bf bt bp bd bm (N+800) 21000 (InD (CN D nm r s)) w5):=g1;have HG2:Hid (Aa (fun b=>b=bp\/b=bm) w w5):=(Ab HB4.out _).trans g2 (fun _ e=> .inl e);clear g1 g2;go_wp2;go_ret;exact⟨rfl,HG1.out,HG2.out⟩
   ·have hv:E= .iface 101 (.int .i64 9):=by rw[<-HEV.out,(HE9.out hyes).1];exact Ei (by decide)
    have HDD:Hid (CN D nm r s=D):=(HE9.out hyes).2;subst hv;clear hyes;go_wp2;go_ret;exact⟨rfl,by rw[HDD.out];exact HP.out w3 HB3.out,Ab HB3.out _⟩
 ·have he:addE D nm r s=CP nm r:=by unfold addE;rw[if_neg h1]
  have hd:CN D nm r s=D:=by unfold CN;rw[he,if_neg h1]
  have hck:=EK nm r w;rw[Ei h1]at hck;rw[he,hd,Ei h1];have hP:PrS bf bt bp bd bm (N+800) 21000 (InD D) w:=h.mono (by omega) (Nat.le_refl _);have HP:Hid _:=hP;have HCK:Hid _:=hck;clear he hd hP h hD hg hck h1;go_enter Tryz.func76,Tryz.ntmps76;go_wp2_with fail;refine(show Calls _ _ _ _ _ from HCK.out).mono ?_;rintro _ w9 ⟨rfl,h9⟩;obtain rfl:=h9.symm;clear h9;go_wp2;go_ret;exact⟨rfl,HP.out,Aa.refl _ _⟩
theorem Q4 (hD:Nts D) (h:PrS bf bt bp bd bm N 21000 (InD D) w) (hg:Gl w) (h3:3<=bp/\3<=bm) (nm s:ByteArray) (r:Int) (hs:s.size<=100) (hN:N+2100<1000000):
  Calls Tryz.prog 83 #[.pointer (some ⟨bf,0,none⟩),.string nm,.int .i64 r,.string s] w fun e w'=>e= .returned (FZ (CP nm r))/\PrS bf bt bp bd bm (N+2000) 21000 (InD (DT D nm r s)) w'/\Aa (fun b=>b=bp\/b=bm) w w':=by
 by_cases h1:CP nm r=0
 ·have hck:Calls Tryz.prog 126 #[.string nm,.int .i64 r] w fun e w'=>e= .returned .nilIface/\w'=w:=(EK nm r w).mono (fun e w' hh=>⟨by rw[hh.1,h1];rfl,hh.2⟩)
  have HCK:Hid _:=hck;obtain⟨hn,hr1,hr2⟩:=LS h1;have hwl:=ES s;have hD2:=hD.drop nm r s;have e1:DT D nm r s=Ek D nm r.toNat (Ah s.data.toList):=by unfold DT;rw[if_pos h1]
  obtain⟨l1,l2,l3,l4,l5⟩:=h.lt;have q0:=h.own.cell;have HSP:Hid _:=fun w0 hb=>Kr (s:=s) (w:=w) (by omega) hg w0 hb
  have HSH:Hid (Calls Tryz.prog 130 #[.pointer (some ⟨bt,0,none⟩)] w fun e w'=>∃x y:Nat,e= .returned (.tuple #[.int .i64 (x:Nat),.int .i64 (y:Nat),.nilIface])/\Below w.heap.size w w'):=by
   obtain⟨N1,up,V,T,k1,k2,k3⟩:=h;exact(P6 k2.t k2.tw k2.a).mono (fun e w' hh=>⟨_,_,hh.1,hh.2⟩)
  have HNT:Hid (∀wx B a c,Below w.heap.size w wx->w.heap.size<=B->wx.ownsRow B 9 1 (.slice a (Ah s.data.toList).length c) (Ah s.data.toList).length (sc (Ah s.data.toList))->Calls Tryz.prog 131 #[.pointer (some ⟨bf,0,none⟩),.string nm,.int .i64 r,.slice a (Ah s.data.toList).length c] wx fun e w'=>e= .returned .nilIface/\PrS bf bt bp bd bm (N+2000) 21000 (InD (DT D nm r s)) w'/\Aa (fun b=>b=bp\/b=bm) wx w'):=fun wx B a c hb hB ho=>by
   have hr:r=((r.toNat:Nat):Int):=by omega
   have hq:=Ol (r:=r.toNat) hn (fun x hx=>Lg hx) (by omega) (h.below hb) (hg.below hb).h h3 ho (fun b e=>by have:=(World.ownsRow.lt ho b e).1;omega) (by omega);rw[<-hr]at hq;refine hq.mono ?_;rintro e w' ⟨rfl,g1,g2⟩;rw[e1];exact⟨rfl,(g1.mono (by omega) (Nat.le_refl _)).iff (fun y=>(Sa hD.ok hn (by omega) (fun x hx=>Lg hx) y).symm),g2⟩
  have he0:FZ (CP nm r)= .nilIface:=by rw[h1];rfl
  rw[he0];obtain⟨n,hnn⟩:∃n,(Ah s.data.toList).length=n:=⟨_,rfl⟩;rw[hnn]at HSP HNT;clear h hg hnn hD hck h1 he0 e1 hD2 hn hwl;go_enter Tryz.func83,Tryz.ntmps83;go_wp2_with fail;refine(show Calls _ _ _ _ _ from HCK.out).mono ?_;rintro _ w9 ⟨rfl,h9⟩;obtain rfl:=h9.symm;clear h9;go_wp2_with fail;refine(show Calls _ _ _ _ _ from HSH.out).mono ?_;rintro _ w1 ⟨x,y,rfl,hb1⟩;have HB1:Hid (Below w.heap.size w w1):=hb1;clear hb1 q0;go_wp2_with fail;refine(show Calls _ _ _ _ _ from HSP.out w1 HB1.out).mono ?_;rintro _ w2 ⟨a,c,rfl,hr2,hb2⟩;have HR2:Hid (w2.ownsRow w1.heap.size 9 1 (.slice a n c) n (sc (Ah s.data.toList))):=hr2;have HB2:Hid (Below w.heap.size w w2):=HB1.out.trans (hb2.mono HB1.out.size);clear hr2 hb2;go_wp2_with fail;refine(show Calls _ _ _ _ _ from HNT.out w2 _ a c HB2.out HB1.out.size HR2.out).mono ?_;rintro _ w5 ⟨rfl,g1,g2⟩;have HG1:Hid (PrS bf bt bp bd bm (N+2000) 21000 (InD (DT D nm r s)) w5):=g1;have HG2:Hid (Aa (fun b=>b=bp\/b=bm) w w5):=(Ab HB2.out _).trans g2 (fun _ e=> .inl e);clear g1 g2;go_wp2;go_ret;exact⟨rfl,HG1.out,HG2.out⟩
 ·have hd:DT D nm r s=D:=by unfold DT;rw[if_neg h1]
  have hck:=EK nm r w;rw[Ei h1]at hck;rw[hd,Ei h1];have hP:PrS bf bt bp bd bm (N+2000) 21000 (InD D) w:=h.mono (by omega) (Nat.le_refl _);have HP:Hid _:=hP;have HCK:Hid _:=hck;clear hd hP h hD hg hck h1;go_enter Tryz.func83,Tryz.ntmps83;go_wp2_with fail;refine(show Calls _ _ _ _ _ from HCK.out).mono ?_;rintro _ w9 ⟨rfl,h9⟩;obtain rfl:=h9.symm;clear h9;go_wp2;go_ret;exact⟨rfl,HP.out,Aa.refl _ _⟩
end
structure Stw (bs bc bw bp:Nat) (c:Sts) (bm N:Nat) (w:World):Prop where
 v:Ac bs [.pointer (some ⟨bc,0,none⟩),.pointer (some ⟨bw,0,none⟩),.pointer (some ⟨c.tb 0,0,none⟩),.pointer (some ⟨c.tb 1,0,none⟩),.pointer (some ⟨c.tb 2,0,none⟩),.pointer (some ⟨c.tb 3,0,none⟩)] w
 cc:Ai bc (.pointer (some ⟨c.tb 0,0,none⟩)) w
 cf:Ai bw (.pointer (some ⟨c.tb 3,0,none⟩)) w
 t:StS bp c bm N w
 g:Gl w
 lo:3<=bp/\3<=bm
 ns:bs≠bp/\bs≠bm
 nc:bc≠bp/\bc≠bm
 nf:bw≠bp/\bw≠bm
section
variable {bs bc bw bp bm N N':Nat} {c c':Sts} {w w':World}
theorem Stw.below (h:Stw bs bc bw bp c bm N w) (hb:Below w.heap.size w w'):Stw bs bc bw bp c bm N w':=
 ⟨h.v.below hb,h.cc.below hb,h.cf.below hb,h.t.below hb,h.g.below hb,h.lo,h.ns,h.nc,h.nf⟩
theorem Stw.mono (h:Stw bs bc bw bp c bm N w) (hN:N<=N'):Stw bs bc bw bp c bm N' w:=
 ⟨h.v,h.cc,h.cf,h.t.mono hN,h.g,h.lo,h.ns,h.nc,h.nf⟩
theorem Stw.upd (h:Stw bs bc bw bp c bm N w) (k:StS bp c' bm N' w') (hb:c'.tb=c.tb) (ho:Aa (fun b=>b=bp\/b=bm) w w'):Stw bs bc bw bp c' bm N' w':=by
 have n1:∀ {b:Nat},b≠bp/\b≠bm->¬(b=bp\/b=bm):=fun h e=>by rcases e with e|e;exact h.1 e;exact h.2 e
 exact⟨by rw[hb];exact h.v.only ho (n1 h.ns),by rw[hb];exact h.cc.only ho (n1 h.nc),by rw[hb];exact h.cf.only ho (n1 h.nf),k,h.g.only ho (fun b e=>by rcases e with e|e<;>rw[e];exact h.lo.1;exact h.lo.2),h.lo,h.ns,h.nc,h.nf⟩
theorem Stw.lt (h:Stw bs bc bw bp c bm N w):bp<w.heap.size/\bm<w.heap.size/\c.bd<w.heap.size:=h.t.lt
theorem Stw.iff (h:Stw bs bc bw bp c bm N w) (hb:c'.bd=c.bd) (ht:c'.tb=c.tb) (hM:∀s,s<4->∀x,c.M s x↔c'.M s x) (hZ:∀s,s<4->c.Z s<=c'.Z s):Stw bs bc bw bp c' bm N w:=
 h.upd (h.t.iff hb (fun s _=>by rw[ht]) hM hZ) ht (Aa.refl _ _)
theorem Stw.cat (h:Stw bs bc bw bp c bm N w) {t:Tb} (ht:t.Ok) (hM:∀x,c.M 0 x↔x∈[t].flatMap Tb.prs):BV bc (c.tb 0) bp (c.at 0) bm N [t] w:=
 PrS.one ht (h.t.prS 0 (by omega) h.cc h.nc) hM
theorem SC (c:Sts) (r:Nat) (M:Pr->Prop) (Z:Nat) (h:StS bp ((c.at r).put r M Z) bm N w):StS bp (c.put r M Z) bm N w:=h.iff rfl (fun _ _=>rfl) (fun _ _ _=>Iff.rfl) (fun _ _=>Nat.le_refl _)
theorem Stw.ofCat (h:Stw bs bc bw bp c bm N w) {L:List Tb} (k:BV bc (c.tb 0) bp (c.at 0) bm N' L w') (ho:Aa (fun b=>b=bp\/b=bm) w w'):Stw bs bc bw bp (c.put 0 (·∈L.flatMap Tb.prs) (300 * L.length)) bm N' w':=
 h.upd (SC c 0 _ _ k.prs.sts) rfl ho
theorem Stw.fin (h:Stw bs bc bw bp c bm N w) {D:List Nd} (hM:∀x,c.M 3 x↔InD D x) (hZ:c.Z 3<=21000):PrS bw (c.tb 3) bp (c.at 3) bm N 21000 (InD D) w:=
 ((h.t.prS 3 (by omega) h.cf h.nf).iff hM).mono (Nat.le_refl _) hZ
theorem Stw.ofFin (h:Stw bs bc bw bp c bm N w) {D:List Nd} (k:PrS bw (c.tb 3) bp (c.at 3) bm N' 21000 (InD D) w') (ho:Aa (fun b=>b=bp\/b=bm) w w'):Stw bs bc bw bp (c.put 3 (InD D) 21000) bm N' w':=
 h.upd (SC c 3 _ _ k.sts) rfl ho
theorem BY.only {a:Option Addr} {len:Nat} {xs:List Vl} {S:Nat->Prop} (h:BY w a len xs) (ho:Aa S w w') (ha:∀ad,a= .some ad->¬S ad.block):BY w' a len xs:=by
 obtain⟨h1,h2,h3⟩:=h;refine⟨h1,h2,?_⟩;rcases h3 with h3|⟨b,off,e,hlt,hr⟩
 ·exact .inl h3
 ·have hs:=ho.size
  refine .inr ⟨b,off,e,by omega,fun i hi=> ?_⟩;obtain⟨g1,g2,g3,g4⟩:=hr i hi;have hc:∀o,w'.cell? ⟨b,o,none⟩=w.cell? ⟨b,o,none⟩:=fun o=>ho.cell hlt (ha _ e) o;exact⟨by rw[hc];exact g1,by rw[hc];exact g2,by rw[hc];exact g3,g4⟩
end
structure Rw where
 id:Nat
 a:Vl
 b:Vl
structure Rw.Ok (r:Rw):Prop where
 id:1<=r.id/\r.id<256
 fa:CQ r.a
 fb:CQ r.b
 ra:Ba r.a=true
 rb:Ba r.b=true
 kb:r.b.k=0\/r.b.k=2
def Rw.l (r:Rw):List Vl:=[r.a,r.b]
structure Pfr (b0 bs bc bw bp:Nat) (c:Sts) (bm N:Nat) (B:Nat) (t:Tb) (ac ai av:Option Addr) (lc cc li ci cv:Nat) (r:Rw) (w:World):Prop where
 s:Stw bs bc bw bp c bm N w
 x0:Ac b0 [.pointer (some ⟨bs,0,none⟩)] w
 x1:Ac (b0+1) [.int .i64 (t.id:Nat),.int .i64 (t.nx:Nat),.string t.nm,.slice ac lc cc,.slice ai li ci] w
 x2:Ac (b0+2) [.int .i64 (r.id:Nat),.slice av 2 cv] w
 cr:A8 B (.slice ac lc cc) t.cs w
 nr:Cp B (.slice ai li ci) (ixs t.cs) w
 vr:BY w av 2 r.l
 hB:bp<B/\bm<B
 h0:bp<b0/\bm<b0
 hv:∀ad,av=some ad->ad.block≠bp/\ad.block≠bm
 cv:2<=cv
 ll:t.cs.length=lc/\(ixs t.cs).length=li
section
variable {b0 bs bc bw bp bm N N' B lc cc li ci cv:Nat} {c c':Sts} {t:Tb} {ac ai av:Option Addr} {r:Rw} {w w':World}
theorem Pfr.below (h:Pfr b0 bs bc bw bp c bm N B t ac ai av lc cc li ci cv r w) (hb:Below w.heap.size w w'):Pfr b0 bs bc bw bp c bm N B t ac ai av lc cc li ci cv r w':=
 ⟨h.s.below hb,h.x0.below hb,h.x1.below hb,h.x2.below hb,Ag h.cr hb,Ag h.nr hb,h.vr.below hb (Nat.le_refl _),h.hB,h.h0,h.hv,h.cv,h.ll⟩
theorem Pfr.upd (h:Pfr b0 bs bc bw bp c bm N B t ac ai av lc cc li ci cv r w) (k:Stw bs bc bw bp c' bm N' w') (ho:Aa (fun b=>b=bp\/b=bm) w w'):Pfr b0 bs bc bw bp c' bm N' B t ac ai av lc cc li ci cv r w':=by
 have h0:=h.h0;have hB:=h.hB
 exact⟨k,h.x0.only ho (fun e=>by rcases e with e|e<;>omega),h.x1.only ho (fun e=>by rcases e with e|e<;>omega),h.x2.only ho (fun e=>by rcases e with e|e<;>omega),
  Aw h.cr ho (fun b e=>by rcases e with e|e<;>omega),Aw h.nr ho (fun b e=>by rcases e with e|e<;>omega),h.vr.only ho (fun ad e e2=>by have:=h.hv ad e;rcases e2 with e2|e2;exact this.1 e2;exact this.2 e2),h.hB,h.h0,h.hv,h.cv,h.ll⟩
end
def Rw.v (r:Rw) (c:Nat):Vl:=if c=0 then r.a else r.b
theorem Rw.get (r:Rw) {c:Nat} (hc:c<r.l.length):r.l[c]=r.v c:=by
 have:c=0\/c=1:=by have:r.l.length=2:=rfl;omega
 rcases this with rfl|rfl<;>rfl
theorem Rw.Ok.rt {r:Rw} (h:r.Ok) (c:Nat):Ba (r.v c)=true:=by unfold Rw.v;split;exact h.ra;exact h.rb
theorem Rw.Ok.ft {r:Rw} (h:r.Ok) (c:Nat):CQ (r.v c):=by unfold Rw.v;split;exact h.fa;exact h.fb
def rkP (t:Nat) (r:Rw):Pr:=⟨rkB t r.id,An (Bp r.l)⟩
def ikP (t c:Nat) (r:Rw):Pr:=⟨ikB t c r.id (r.v c),⟨#[]⟩⟩
theorem UX (t c:Nat) {r:Rw} (h:r.Ok):(ikP t c r).Ok/\(ikP t c r).sz<=60:=by
 have h1:=(KU t c r.id (r.v c)).1;have h2:=I1 (h.rt c);unfold ikP Pr.Ok Pr.sz;simp only;rw[h1];exact⟨⟨by omega,by omega,by decide⟩,by show 2+_+0<=60;omega⟩
theorem U5 (t:Nat) {r:Rw} (h:r.Ok):(rkP t r).Ok/\(rkP t r).sz<=100:=by
 have h1:(rkB t r.id).size=10:=by unfold rkB;rw[Bh,List.length_append,Ay,Ay]
 have h2:=Ix r.l (fun x hx=>by
  simp only[Rw.l,List.mem_cons,List.not_mem_nil,or_false]at hx;rcases hx with rfl|rfl
  ·exact h.ra
  ·exact h.rb)
 have h3:r.l.length=2:=rfl;unfold rkP Pr.Ok Pr.sz;simp only;rw[h1,Bh];exact⟨⟨by omega,by omega,by omega⟩,by omega⟩
def Dn (M:Pr->Prop) (x:Pr):Pr->Prop:=fun y=>y=x\/(M y/\y.k≠x.k)
def EN (M:Pr->Prop) (x:Pr):Pr->Prop:=fun y=>M y/\y≠x
section
variable {b0 bs bc bw bp bm N N' B lc cc li ci cv:Nat} {c c':Sts} {t:Tb} {ac ai av:Option Addr} {r:Rw} {w w':World}
theorem Stw.put4 {q:Nat} (h:Stw bs bc bw bp c bm N w) (hq:q<4) (x:Pr) (hx:x.Ok) {Z:Nat} (hZ:x.sz<=Z) (hZ2:c.Z q+Z<=30000) (hN:N+60<1000000):
  Calls Tryz.prog 69 #[.pointer (some ⟨c.tb q,0,none⟩),.string x.k,.string x.i] w fun e w'=>e= .returned .nilIface/\Stw bs bc bw bp (c.put q (Dn (c.M q) x) (c.Z q+Z)) bm (N+40) w'/\Aa (fun b=>b=bp\/b=bm) w w':=by
 refine(Go.Proofs.YtihnldkgeelehaaGreatDoor.put4 h.t hq x hx (by omega) hN).mono ?_;rintro e w' ⟨h1,h2,h3⟩;exact⟨h1,h.upd (h2.put_iff (fun _=>Iff.rfl) (by omega)) rfl h3,h3⟩
theorem Stw.drop4 {q:Nat} (h:Stw bs bc bw bp c bm N w) (hq:q<4) (y:Pr) (hy:c.M q y) (hN:N+60<1000000):
  Calls Tryz.prog 79 #[.pointer (some ⟨c.tb q,0,none⟩),.string y.k] w fun e w'=>e= .returned .nilIface/\Stw bs bc bw bp (c.put q (EN (c.M q) y) (c.Z q)) bm (N+40) w'/\Aa (fun b=>b=bp\/b=bm) w w':=by
 refine(Go.Proofs.YtihnldkgeelehaaGreatDoor.drop4 h.t hq y hy hN).mono ?_;rintro e w' ⟨h1,h2,h3⟩;exact⟨h1,h.upd h2 rfl h3,h3⟩
set_option maxHeartbeats 1000000
theorem Jy (h:Stw bs bc bw bp c bm N w) (hvr:BY w av 2 r.l) (hok:r.Ok) (hcv:2<=cv) (q:Nat) (hq:q<2) (nx:Int) (nm:ByteArray) (ac ai:Option Addr) (lc cc li ci id:Nat) (hZ:c.Z 2+60<=30000) (hN:N+60<1000000):
  Calls Tryz.prog 34 #[.pointer (some ⟨bs,0,none⟩),.agg #[.int .i64 (id:Nat),.int .i64 nx,.string nm,.slice ac lc cc,.slice ai li ci],.agg #[.int .i64 (r.id:Nat),.slice av 2 cv],.int .i64 (q:Nat)] w fun e w'=>e= .returned .nilIface/\Stw bs bc bw bp (c.put 2 (Dn (c.M 2) (ikP id q r)) (c.Z 2+60)) bm (N+40) w'/\Aa (fun b=>b=bp\/b=bm) w w':=by
 obtain⟨W1,hW1⟩:∃W1,(w.alloc (.cells #[.int .i64 (id:Nat),.int .i64 nx,.string nm,.slice ac lc cc,.slice ai li ci] 92)).alloc (.cells #[.int .i64 (r.id:Nat),.slice av 2 cv] 57)=W1:=⟨_,rfl⟩;have hb1:Below w.heap.size w W1:=by rw[<-hW1];exact((Below.refl _ w).alloc (Nat.le_refl _) _).alloc (by simp) _
 have hx1:Ac w.heap.size [.int .i64 (id:Nat),.int .i64 nx,.string nm,.slice ac lc cc,.slice ai li ci] W1:=by rw[<-hW1];exact(Ac.new w #[.int .i64 (id:Nat),.int .i64 nx,.string nm,.slice ac lc cc,.slice ai li ci] 92 (by simp)).below ((Below.refl _ _).alloc (Nat.le_refl _) _)
 have hx2:Ac (w.heap.size+1) [.int .i64 (r.id:Nat),.slice av 2 cv] W1:=by
  rw[<-hW1];have:=Ac.new (w.alloc (.cells #[.int .i64 (id:Nat),.int .i64 nx,.string nm,.slice ac lc cc,.slice ai li ci] 92)) #[.int .i64 (r.id:Nat),.slice av 2 cv] 57 (by simp);rw[World.size_alloc]at this;exact this
 have q0:=hx1.cell 0 (by simp);have p0:=hx2.cell 0 (by simp);have p1:=hx2.cell 1 (by simp);simp only[List.getElem_cons_succ,List.getElem_cons_zero]at q0 p0 p1;have hp:=UX id q hok
 have HK:Hid (Calls Tryz.prog 81 #[.int .i64 (id:Nat),.int .i64 (q:Nat),.agg #[.int .i64 (r.id:Nat),.slice av 2 cv]] W1 fun e w'=>e= .returned (.tuple #[.string (ikP id q r).k,.nilIface])/\Below W1.heap.size W1 w'):=by
  have hql:q<r.l.length:=hq;have:=G7 id q r.id W1 (hvr.below hb1 (Nat.le_refl _)) hql hcv (by show 2<=1000;decide) (by rw[r.get hql];exact hok.ft q) (by rw[r.get hql];exact hok.rt q);rw[r.get hql]at this;exact this
 have HS:Hid (Stw bs bc bw bp c bm N W1):=h.below hb1;have HB1:Hid _:=hb1;have HP:Hid ((ikP id q r).Ok/\(ikP id q r).sz<=60):=hp;have hpi:(ikP id q r).i=⟨#[]⟩:=rfl;have HPI:Hid _:=hpi;obtain⟨x,hx⟩:∃x,ikP id q r=x:=⟨_,rfl⟩;rw[hx]at HK HP HPI ⊢;clear h hvr hok hp hx hpi hb1 hx1 hx2;go_enter Tryz.func34,Tryz.ntmps34;go_wp2_with fail;refine(show Calls _ _ _ _ _ from HK.out).mono ?_;rintro _ w2 ⟨rfl,hb2⟩;have HS2:Hid (Stw bs bc bw bp c bm N w2):=HS.out.below hb2;have HB2:Hid (Below w.heap.size w w2):=HB1.out.trans (hb2.mono HB1.out.size);have q4:=HS2.out.v.cell 4 (by simp);simp only[List.getElem_cons_succ,List.getElem_cons_zero]at q4;clear hb2 hW1 q0 p0 p1
 have HPU:Hid (Calls Tryz.prog 69 #[.pointer (some ⟨c.tb 2,0,none⟩),.string x.k,.string ⟨#[]⟩] w2 fun e w'=>e= .returned .nilIface/\Stw bs bc bw bp (c.put 2 (Dn (c.M 2) x) (c.Z 2+60)) bm (N+40) w'/\Aa (fun b=>b=bp\/b=bm) w2 w'):=by
  have:=HS2.out.put4 (q:=2) (by omega) x HP.out.1 HP.out.2 hZ hN;rw[HPI.out]at this;exact this
 go_wp2_with fail;refine(show Calls _ _ _ _ _ from HPU.out).mono ?_;rintro _ w3 ⟨rfl,hs3,ho3⟩;have HS3:Hid _:=hs3;have HO3:Hid (Aa (fun b=>b=bp\/b=bm) w w3):=(Ab HB2.out _).trans ho3 (fun _ e=> .inl e);clear hs3 ho3;go_wp2;go_ret;exact⟨rfl,HS3.out,HO3.out⟩
end
section
variable {b0 bs bc bw bp bm N N' B lc cc li ci cv:Nat} {c c':Sts} {t:Tb} {ac ai av:Option Addr} {r:Rw} {w w':World}
theorem Pfr.c1 (h:Pfr b0 bs bc bw bp c bm N B t ac ai av lc cc li ci cv r w):w.cell? ⟨b0,0,none⟩=some (.pointer (some ⟨bs,0,none⟩))/\w.cell? ⟨b0+1,0,none⟩=some (.int .i64 (t.id:Nat))/\w.cell? ⟨b0+1,1,none⟩=some (.int .i64 (t.nx:Nat))/\w.cell? ⟨b0+1,2,none⟩=some (.string t.nm)/\w.cell? ⟨b0+1,3,none⟩=some (.slice ac lc cc)/\w.cell? ⟨b0+1,4,none⟩=some (.slice ai li ci)/\w.cell? ⟨b0+2,0,none⟩=some (.int .i64 (r.id:Nat))/\w.cell? ⟨b0+2,1,none⟩=some (.slice av 2 cv):=
 ⟨h.x0.cell 0 (by simp),h.x1.cell 0 (by simp),h.x1.cell 1 (by simp),h.x1.cell 2 (by simp),h.x1.cell 3 (by simp),h.x1.cell 4 (by simp),h.x2.cell 0 (by simp),h.x2.cell 1 (by simp)⟩
set_option maxHeartbeats 1000000
theorem OI (h:Pfr b0 bs bc bw bp c bm N B t ac ai av lc cc li ci cv r w) (hok:r.Ok) (q:Nat) (hq:q<2) (hZ:c.Z 2+60<=30000) (hN:N+60<1000000):
  Calls Tryz.prog 73 #[.int .i64 (q:Nat),.pointer (some ⟨b0,0,none⟩),.pointer (some ⟨b0+1,0,none⟩),.pointer (some ⟨b0+2,0,none⟩)] w fun e w'=>e= .returned .nilIface/\Pfr b0 bs bc bw bp (c.put 2 (Dn (c.M 2) (ikP t.id q r)) (c.Z 2+60)) bm (N+40) B t ac ai av lc cc li ci cv r w'/\Aa (fun b=>b=bp\/b=bm) w w':=by
 obtain⟨q0,q1,q2,q3,q4,q5,q6,q7⟩:=h.c1;have HI:Hid _:=Jy h.s h.vr hok h.cv q hq t.nx t.nm ac ai lc cc li ci t.id hZ hN;have HP:Hid _:=h;clear h;go_enter Tryz.func73,Tryz.ntmps73;go_wp2_with fail;refine(show Calls _ _ _ _ _ from HI.out).mono ?_;rintro _ w2 ⟨rfl,hs2,ho2⟩;have HP2:Hid (Pfr b0 bs bc bw bp (c.put 2 (Dn (c.M 2) (ikP t.id q r)) (c.Z 2+60)) bm (N+40) B t ac ai av lc cc li ci cv r w2):=HP.out.upd hs2 ho2;have HO2:Hid _:=ho2;clear hs2 ho2 q0 q1 q2 q3 q4 q5 q6 q7 HI;go_wp2;go_ret;exact⟨rfl,HP2.out,HO2.out⟩
theorem Mj (h:Pfr b0 bs bc bw bp c bm N B t ac ai av lc cc li ci cv r w) (hok:r.Ok) (q:Nat) (hq:q<2) (hm:c.M 2 (ikP t.id q r)) (hN:N+60<1000000):
  Calls Tryz.prog 80 #[.int .i64 (q:Nat),.pointer (some ⟨b0+1,0,none⟩),.pointer (some ⟨b0+2,0,none⟩),.pointer (some ⟨b0,0,none⟩)] w fun e w'=>e= .returned .nilIface/\Pfr b0 bs bc bw bp (c.put 2 (EN (c.M 2) (ikP t.id q r)) (c.Z 2)) bm (N+40) B t ac ai av lc cc li ci cv r w'/\Aa (fun b=>b=bp\/b=bm) w w':=by
 obtain⟨q0,q1,q2,q3,q4,q5,q6,q7⟩:=h.c1
 have HK:Hid (Calls Tryz.prog 81 #[.int .i64 (t.id:Nat),.int .i64 (q:Nat),.agg #[.int .i64 (r.id:Nat),.slice av 2 cv]] w fun e w'=>e= .returned (.tuple #[.string (ikP t.id q r).k,.nilIface])/\Below w.heap.size w w'):=by
  have hql:q<r.l.length:=hq;have:=G7 t.id q r.id w h.vr hql h.cv (by show 2<=1000;decide) (by rw[r.get hql];exact hok.ft q) (by rw[r.get hql];exact hok.rt q);rw[r.get hql]at this;exact this
 have HP:Hid _:=h;have HM:Hid _:=hm;obtain⟨x,hx⟩:∃x,ikP t.id q r=x:=⟨_,rfl⟩;rw[hx]at HK HM ⊢;clear h hm hx;go_enter Tryz.func80,Tryz.ntmps80;go_wp2_with fail;refine(show Calls _ _ _ _ _ from HK.out).mono ?_;rintro _ w2 ⟨rfl,hb2⟩;have HP2:Hid (Pfr b0 bs bc bw bp c bm N B t ac ai av lc cc li ci cv r w2):=HP.out.below hb2;have HB2:Hid _:=hb2;clear hb2 q0 q1 q2 q3 q4 q5 q6 q7 HK;have q0:=HP2.out.c1.1;have q4:=HP2.out.s.v.cell 4 (by simp);simp only[List.getElem_cons_succ,List.getElem_cons_zero]at q4;have HD:Hid _:=HP2.out.s.drop4 (q:=2) (by omega) x HM.out hN;go_wp2_with fail;refine(show Calls _ _ _ _ _ from HD.out).mono ?_;rintro _ w3 ⟨rfl,hs3,ho3⟩;have HP3:Hid (Pfr b0 bs bc bw bp (c.put 2 (EN (c.M 2) x) (c.Z 2)) bm (N+40) B t ac ai av lc cc li ci cv r w3):=HP2.out.upd hs3 ho3;have HO3:Hid (Aa (fun b=>b=bp\/b=bm) w w3):=(Ab HB2.out _).trans ho3 (fun _ e=> .inl e);clear hs3 ho3 q0 q4 HD;go_wp2;go_ret;exact⟨rfl,HP3.out,HO3.out⟩
theorem S4 (hok:r.Ok):CP A2 (r.id:Nat)=0:=by
 have h:=hok.id;unfold CP;rw[if_neg (by decide),if_neg (by omega)]
set_option maxHeartbeats 2000000
theorem Tc {D:List Nd} (h:Pfr b0 bs bc bw bp c bm N B t ac ai av lc cc li ci cv r w) (hid:t.id=1) (hD:Nts D) (hM:∀x,c.M 3 x↔InD D x) (hZ:c.Z 3<=21000) (hok:r.Ok) (hN:N+2200<1000000):
  Calls Tryz.prog 75 #[.int .i64 1,.pointer (some ⟨b0,0,none⟩),.pointer (some ⟨b0+1,0,none⟩),.pointer (some ⟨b0+2,0,none⟩)] w fun e w'=>e= .returned (FZ (addE D A2 (r.id:Nat) r.b.s))/\Pfr b0 bs bc bw bp (c.put 3 (InD (CN D A2 (r.id:Nat) r.b.s)) 21000) bm (N+800) B t ac ai av lc cc li ci cv r w'/\Aa (fun b=>b=bp\/b=bm) w w':=by
 obtain⟨bv,off,hav,hbl⟩:=h.vr.some (by show 0<2;decide);have hav2:=h.hv _ hav;subst hav;obtain⟨q0,q1,q2,q3,q4,q5,q6,q7⟩:=h.c1;rw[hid]at q1
 have hcell:w.cell? ⟨bv,off+5,none⟩=some (.string r.b.s):=by
  obtain⟨_,_,h3⟩:=h.vr;rcases h3 with h3|⟨b',o',e,_,hr⟩
  ·cases h3
  ·cases e
   exact(hr 1 (by show 1<2;decide)).2.2.1
 have qs:=h.s.v.cell 1 (by simp);simp only[List.getElem_cons_succ,List.getElem_cons_zero]at qs;have D0:Hid (w.cell? ⟨b0,0,none⟩=some (.pointer (some ⟨bs,0,none⟩))/\w.cell? ⟨bs,1,none⟩=some (.pointer (some ⟨bw,0,none⟩))/\w.cell? ⟨b0+1,0,none⟩=some (.int .i64 1)/\w.cell? ⟨b0+1,1,none⟩=some (.int .i64 (t.nx:Nat))/\w.cell? ⟨b0+1,2,none⟩=some (.string t.nm)/\w.cell? ⟨b0+1,3,none⟩=some (.slice ac lc cc)/\w.cell? ⟨b0+1,4,none⟩=some (.slice ai li ci)/\w.cell? ⟨b0+2,0,none⟩=some (.int .i64 (r.id:Nat))/\w.cell? ⟨b0+2,1,none⟩=some (.slice (some ⟨bv,off,none⟩) 2 cv)/\w.cell? ⟨bv,off+5,none⟩=some (.string r.b.s)):=⟨q0,qs,q1,q2,q3,q4,q5,q6,q7,hcell⟩
 have hsz:r.b.s.size<=40:=by
  rcases Dm hok.rb with e|⟨n,e⟩|⟨s,e,hs⟩
  ·rw[e];decide
  ·rw[e];exact Nat.zero_le _
  ·rw[e];exact Es hs
 have HP:Hid (Pfr b0 bs bc bw bp c bm N B t ac ai (some ⟨bv,off,none⟩) lc cc li ci cv r w.drew):=h.below (Below.refl _ _).drew
 have HF:Hid (∀wx,Pfr b0 bs bc bw bp c bm N B t ac ai (some ⟨bv,off,none⟩) lc cc li ci cv r wx->Calls Tryz.prog 76 #[.pointer (some ⟨bw,0,none⟩),.string A2,.int .i64 (r.id:Nat),.string r.b.s] wx fun e w'=>e= .returned (FZ (addE D A2 (r.id:Nat) r.b.s))/\Pfr b0 bs bc bw bp (c.put 3 (InD (CN D A2 (r.id:Nat) r.b.s)) 21000) bm (N+800) B t ac ai (some ⟨bv,off,none⟩) lc cc li ci cv r w'/\Aa (fun b=>b=bp\/b=bm) wx w'):=fun wx hh=>by
  refine(SH hD (hh.s.fin hM hZ) hh.s.g A2 r.b.s (r.id:Nat) (by decide) (by omega) (by omega)).mono ?_;rintro e w' ⟨h1,h2,h3⟩;exact⟨h1,hh.upd (hh.s.ofFin h2 h3) h3,h3⟩
 have HT:Hid (∀wx,Calls Tryz.prog 40 #[.agg #[.int .i64 1,.int .i64 (t.nx:Nat),.string t.nm,.slice ac lc cc,.slice ai li ci],.int .i64 1] wx fun e w'=>e= .returned (.string A2)/\Below wx.heap.size wx w'):=fun wx=>GL _ _ _ _ _ _ _ _ wx;obtain⟨u,hu⟩:∃u,(FZ (addE D A2 (r.id:Nat) r.b.s))=u:=⟨_,rfl⟩;rw[hu]at HF ⊢;have hltb:=h.s.lt;clear h hM hcell qs hu q0 q1 q2 q3 q4 q5 q6 q7 hD hok;go_enter Tryz.func75,Tryz.ntmps75;go_wp2_with fail
 go_region_held3 (fun wx=>wx.cell? ⟨b0,0,none⟩=some (.pointer (some ⟨bs,0,none⟩))/\wx.cell? ⟨bs,1,none⟩=some (.pointer (some ⟨bw,0,none⟩))/\wx.cell? ⟨b0+1,0,none⟩=some (.int .i64 1)/\wx.cell? ⟨b0+1,1,none⟩=some (.int .i64 (t.nx:Nat))/\wx.cell? ⟨b0+1,2,none⟩=some (.string t.nm)/\wx.cell? ⟨b0+1,3,none⟩=some (.slice ac lc cc)/\wx.cell? ⟨b0+1,4,none⟩=some (.slice ai li ci)/\wx.cell? ⟨b0+2,0,none⟩=some (.int .i64 (r.id:Nat))/\wx.cell? ⟨b0+2,1,none⟩=some (.slice (some ⟨bv,off,none⟩) 2 cv)/\wx.cell? ⟨bv,off+5,none⟩=some (.string r.b.s)) (first|exact D0.out|exact D1.out|exact D2.out) (first|(go_at_call 40;refine(show Calls _ _ _ _ _ from HT.out _).mono ?_;rintro _ w3 ⟨rfl,hb3⟩;have HB3:Hid (Below w.heap.size w w3):=(Below.refl _ w).drew.trans hb3;have HP3:Hid (Pfr b0 bs bc bw bp c bm N B t ac ai (some ⟨bv,off,none⟩) lc cc li ci cv r w3):=HP.out.below hb3;have D1:Hid (w3.cell? ⟨b0,0,none⟩=some (.pointer (some ⟨bs,0,none⟩))/\w3.cell? ⟨bs,1,none⟩=some (.pointer (some ⟨bw,0,none⟩))/\w3.cell? ⟨b0+1,0,none⟩=some (.int .i64 1)/\w3.cell? ⟨b0+1,1,none⟩=some (.int .i64 (t.nx:Nat))/\w3.cell? ⟨b0+1,2,none⟩=some (.string t.nm)/\w3.cell? ⟨b0+1,3,none⟩=some (.slice ac lc cc)/\w3.cell? ⟨b0+1,4,none⟩=some (.slice ai li ci)/\w3.cell? ⟨b0+2,0,none⟩=some (.int .i64 (r.id:Nat))/\w3.cell? ⟨b0+2,1,none⟩=some (.slice (some ⟨bv,off,none⟩) 2 cv)/\w3.cell? ⟨bv,off+5,none⟩=some (.string r.b.s)):=(fun⟨a0,a1,a2,a3,a4,a5,a6,a7,a8,a9⟩=>⟨Ae HB3.out a0,Ae HB3.out a1,Ae HB3.out a2,Ae HB3.out a3,Ae HB3.out a4,Ae HB3.out a5,Ae HB3.out a6,Ae HB3.out a7,Ae HB3.out a8,Ae HB3.out a9⟩) D0.out;clear hb3)|(go_at_call 76;refine(show Calls _ _ _ _ _ from HF.out _ HP3.out).mono ?_;rintro _ w4 ⟨rfl,hp4,ho4⟩;have HP4:Hid (Pfr b0 bs bc bw bp (c.put 3 (InD (CN D A2 (r.id:Nat) r.b.s)) 21000) bm (N+800) B t ac ai (some ⟨bv,off,none⟩) lc cc li ci cv r w4):=hp4;have HO4:Hid (Aa (fun b=>b=bp\/b=bm) w w4):=(Ab HB3.out _).trans ho4 (fun _ e=> .inl e);have D2:Hid (w4.cell? ⟨b0,0,none⟩=some (.pointer (some ⟨bs,0,none⟩))/\w4.cell? ⟨bs,1,none⟩=some (.pointer (some ⟨bw,0,none⟩))/\w4.cell? ⟨b0+1,0,none⟩=some (.int .i64 1)/\w4.cell? ⟨b0+1,1,none⟩=some (.int .i64 (t.nx:Nat))/\w4.cell? ⟨b0+1,2,none⟩=some (.string t.nm)/\w4.cell? ⟨b0+1,3,none⟩=some (.slice ac lc cc)/\w4.cell? ⟨b0+1,4,none⟩=some (.slice ai li ci)/\w4.cell? ⟨b0+2,0,none⟩=some (.int .i64 (r.id:Nat))/\w4.cell? ⟨b0+2,1,none⟩=some (.slice (some ⟨bv,off,none⟩) 2 cv)/\w4.cell? ⟨bv,off+5,none⟩=some (.string r.b.s)):=⟨HP4.out.c1.1,by have:=HP4.out.s.v.cell 1 (by simp);simpa using this,by have:=HP4.out.c1.2.1;rw[hid]at this;exact this,HP4.out.c1.2.2.1,HP4.out.c1.2.2.2.1,HP4.out.c1.2.2.2.2.1,HP4.out.c1.2.2.2.2.2.1,HP4.out.c1.2.2.2.2.2.2.1,HP4.out.c1.2.2.2.2.2.2.2,(ho4.cell (World.block_lt_of_cell? _ _ D1.out.2.2.2.2.2.2.2.2.2) (fun e=>by rcases e with e|e;exact hav2.1 e;exact hav2.2 e) _).trans D1.out.2.2.2.2.2.2.2.2.2⟩;clear hp4 ho4))
 go_wp2;go_ret;exact⟨rfl,HP4.out,HO4.out⟩
theorem Rc {D:List Nd} (h:Pfr b0 bs bc bw bp c bm N B t ac ai av lc cc li ci cv r w) (hid:t.id=1) (hD:Nts D) (hM:∀x,c.M 3 x↔InD D x) (hZ:c.Z 3<=21000) (hok:r.Ok) (hN:N+2200<1000000):
  Calls Tryz.prog 82 #[.int .i64 1,.pointer (some ⟨b0,0,none⟩),.pointer (some ⟨b0+1,0,none⟩),.pointer (some ⟨b0+2,0,none⟩)] w fun e w'=>e= .returned .nilIface/\Pfr b0 bs bc bw bp (c.put 3 (InD (DT D A2 (r.id:Nat) r.b.s)) 21000) bm (N+2000) B t ac ai av lc cc li ci cv r w'/\Aa (fun b=>b=bp\/b=bm) w w':=by
 obtain⟨bv,off,hav,hbl⟩:=h.vr.some (by show 0<2;decide);have hav2:=h.hv _ hav;subst hav;obtain⟨q0,q1,q2,q3,q4,q5,q6,q7⟩:=h.c1;rw[hid]at q1
 have hcell:w.cell? ⟨bv,off+5,none⟩=some (.string r.b.s):=by
  obtain⟨_,_,h3⟩:=h.vr;rcases h3 with h3|⟨b',o',e,_,hr⟩
  ·cases h3
  ·cases e
   exact(hr 1 (by show 1<2;decide)).2.2.1
 have qs:=h.s.v.cell 1 (by simp);simp only[List.getElem_cons_succ,List.getElem_cons_zero]at qs;have D0:Hid (w.cell? ⟨b0,0,none⟩=some (.pointer (some ⟨bs,0,none⟩))/\w.cell? ⟨bs,1,none⟩=some (.pointer (some ⟨bw,0,none⟩))/\w.cell? ⟨b0+1,0,none⟩=some (.int .i64 1)/\w.cell? ⟨b0+1,1,none⟩=some (.int .i64 (t.nx:Nat))/\w.cell? ⟨b0+1,2,none⟩=some (.string t.nm)/\w.cell? ⟨b0+1,3,none⟩=some (.slice ac lc cc)/\w.cell? ⟨b0+1,4,none⟩=some (.slice ai li ci)/\w.cell? ⟨b0+2,0,none⟩=some (.int .i64 (r.id:Nat))/\w.cell? ⟨b0+2,1,none⟩=some (.slice (some ⟨bv,off,none⟩) 2 cv)/\w.cell? ⟨bv,off+5,none⟩=some (.string r.b.s)):=⟨q0,qs,q1,q2,q3,q4,q5,q6,q7,hcell⟩
 have hsz:r.b.s.size<=40:=by
  rcases Dm hok.rb with e|⟨n,e⟩|⟨s,e,hs⟩
  ·rw[e];decide
  ·rw[e];exact Nat.zero_le _
  ·rw[e];exact Es hs
 have HP:Hid (Pfr b0 bs bc bw bp c bm N B t ac ai (some ⟨bv,off,none⟩) lc cc li ci cv r w.drew):=h.below (Below.refl _ _).drew
 have HF:Hid (∀wx,Pfr b0 bs bc bw bp c bm N B t ac ai (some ⟨bv,off,none⟩) lc cc li ci cv r wx->Calls Tryz.prog 83 #[.pointer (some ⟨bw,0,none⟩),.string A2,.int .i64 (r.id:Nat),.string r.b.s] wx fun e w'=>e= .returned .nilIface/\Pfr b0 bs bc bw bp (c.put 3 (InD (DT D A2 (r.id:Nat) r.b.s)) 21000) bm (N+2000) B t ac ai (some ⟨bv,off,none⟩) lc cc li ci cv r w'/\Aa (fun b=>b=bp\/b=bm) wx w'):=fun wx hh=>by
  refine(Q4 hD (hh.s.fin hM hZ) hh.s.g hh.s.lo A2 r.b.s (r.id:Nat) (by omega) (by omega)).mono ?_;rintro e w' ⟨h1,h2,h3⟩;exact⟨by rw[h1,S4 hok];rfl,hh.upd (hh.s.ofFin h2 h3) h3,h3⟩
 have HT:Hid (∀wx,Calls Tryz.prog 40 #[.agg #[.int .i64 1,.int .i64 (t.nx:Nat),.string t.nm,.slice ac lc cc,.slice ai li ci],.int .i64 1] wx fun e w'=>e= .returned (.string A2)/\Below wx.heap.size wx w'):=fun wx=>GL _ _ _ _ _ _ _ _ wx;have hltb:=h.s.lt;clear h hM hcell qs q0 q1 q2 q3 q4 q5 q6 q7 hD hok;go_enter Tryz.func82,Tryz.ntmps82;go_wp2_with fail
 go_region_held3 (fun wx=>wx.cell? ⟨b0,0,none⟩=some (.pointer (some ⟨bs,0,none⟩))/\wx.cell? ⟨bs,1,none⟩=some (.pointer (some ⟨bw,0,none⟩))/\wx.cell? ⟨b0+1,0,none⟩=some (.int .i64 1)/\wx.cell? ⟨b0+1,1,none⟩=some (.int .i64 (t.nx:Nat))/\wx.cell? ⟨b0+1,2,none⟩=some (.string t.nm)/\wx.cell? ⟨b0+1,3,none⟩=some (.slice ac lc cc)/\wx.cell? ⟨b0+1,4,none⟩=some (.slice ai li ci)/\wx.cell? ⟨b0+2,0,none⟩=some (.int .i64 (r.id:Nat))/\wx.cell? ⟨b0+2,1,none⟩=some (.slice (some ⟨bv,off,none⟩) 2 cv)/\wx.cell? ⟨bv,off+5,none⟩=some (.string r.b.s)) (first|exact D0.out|exact D1.out|exact D2.out) (first|(go_at_call 40;refine(show Calls _ _ _ _ _ from HT.out _).mono ?_;rintro _ w3 ⟨rfl,hb3⟩;have HB3:Hid (Below w.heap.size w w3):=(Below.refl _ w).drew.trans hb3;have HP3:Hid (Pfr b0 bs bc bw bp c bm N B t ac ai (some ⟨bv,off,none⟩) lc cc li ci cv r w3):=HP.out.below hb3;have D1:Hid (w3.cell? ⟨b0,0,none⟩=some (.pointer (some ⟨bs,0,none⟩))/\w3.cell? ⟨bs,1,none⟩=some (.pointer (some ⟨bw,0,none⟩))/\w3.cell? ⟨b0+1,0,none⟩=some (.int .i64 1)/\w3.cell? ⟨b0+1,1,none⟩=some (.int .i64 (t.nx:Nat))/\w3.cell? ⟨b0+1,2,none⟩=some (.string t.nm)/\w3.cell? ⟨b0+1,3,none⟩=some (.slice ac lc cc)/\w3.cell? ⟨b0+1,4,none⟩=some (.slice ai li ci)/\w3.cell? ⟨b0+2,0,none⟩=some (.int .i64 (r.id:Nat))/\w3.cell? ⟨b0+2,1,none⟩=some (.slice (some ⟨bv,off,none⟩) 2 cv)/\w3.cell? ⟨bv,off+5,none⟩=some (.string r.b.s)):=(fun⟨a0,a1,a2,a3,a4,a5,a6,a7,a8,a9⟩=>⟨Ae HB3.out a0,Ae HB3.out a1,Ae HB3.out a2,Ae HB3.out a3,Ae HB3.out a4,Ae HB3.out a5,Ae HB3.out a6,Ae HB3.out a7,Ae HB3.out a8,Ae HB3.out a9⟩) D0.out;clear hb3)|(go_at_call 83;refine(show Calls _ _ _ _ _ from HF.out _ HP3.out).mono ?_;rintro _ w4 ⟨rfl,hp4,ho4⟩;have HP4:Hid (Pfr b0 bs bc bw bp (c.put 3 (InD (DT D A2 (r.id:Nat) r.b.s)) 21000) bm (N+2000) B t ac ai (some ⟨bv,off,none⟩) lc cc li ci cv r w4):=hp4;have HO4:Hid (Aa (fun b=>b=bp\/b=bm) w w4):=(Ab HB3.out _).trans ho4 (fun _ e=> .inl e);have D2:Hid (w4.cell? ⟨b0,0,none⟩=some (.pointer (some ⟨bs,0,none⟩))/\w4.cell? ⟨bs,1,none⟩=some (.pointer (some ⟨bw,0,none⟩))/\w4.cell? ⟨b0+1,0,none⟩=some (.int .i64 1)/\w4.cell? ⟨b0+1,1,none⟩=some (.int .i64 (t.nx:Nat))/\w4.cell? ⟨b0+1,2,none⟩=some (.string t.nm)/\w4.cell? ⟨b0+1,3,none⟩=some (.slice ac lc cc)/\w4.cell? ⟨b0+1,4,none⟩=some (.slice ai li ci)/\w4.cell? ⟨b0+2,0,none⟩=some (.int .i64 (r.id:Nat))/\w4.cell? ⟨b0+2,1,none⟩=some (.slice (some ⟨bv,off,none⟩) 2 cv)/\w4.cell? ⟨bv,off+5,none⟩=some (.string r.b.s)):=⟨HP4.out.c1.1,by have:=HP4.out.s.v.cell 1 (by simp);simpa using this,by have:=HP4.out.c1.2.1;rw[hid]at this;exact this,HP4.out.c1.2.2.1,HP4.out.c1.2.2.2.1,HP4.out.c1.2.2.2.2.1,HP4.out.c1.2.2.2.2.2.1,HP4.out.c1.2.2.2.2.2.2.1,HP4.out.c1.2.2.2.2.2.2.2,(ho4.cell (World.block_lt_of_cell? _ _ D1.out.2.2.2.2.2.2.2.2.2) (fun e=>by rcases e with e|e;exact hav2.1 e;exact hav2.2 e) _).trans D1.out.2.2.2.2.2.2.2.2.2⟩;clear hp4 ho4))
 go_wp2;go_ret;exact⟨rfl,HP4.out,HO4.out⟩
end
end
end Go.Proofs.YtihnldkgeelehaaGreatDoor
