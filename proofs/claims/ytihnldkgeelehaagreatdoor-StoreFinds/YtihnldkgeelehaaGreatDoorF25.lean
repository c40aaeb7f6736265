/- StoreFinds: part 25. -/
import Derived.Test.YtihnldkgeelehaaGreatDoorF24
import Derived.WalkKit
import Derived.WalkSpells
import Derived.WalkLawsBesides
import Derived.Laws.StructEq
set_option maxRecDepth 100000
set_option maxHeartbeats 4000000
namespace Go.Proofs.YtihnldkgeelehaaGreatDoor
section
open Go.RowKit Go.Maps
theorem Gc {B:Nat} {cs:List Col} {vc:Value} {id nx:Int} {nm:ByteArray} {a2:Option Addr} {l2 c2:Nat} (name:ByteArray) (w:World) (h:A8 B vc cs w):
  Calls Tryz.prog 35 #[.agg #[.int .i64 id,.int .i64 nx,.string nm,vc,.slice a2 l2 c2],.string name] w fun e w'=>Ns (Oa name) cs e/\Below w.heap.size w w':=by
 obtain⟨ac,cc,hvc⟩:=Aj h;subst hvc;obtain⟨n,hn⟩:∃n,cs.length=n:=⟨_,rfl⟩;rw[hn]at h;rw[hn];obtain⟨W1,hW1⟩:∃W1,w.alloc (.cells #[.int .i64 id,.int .i64 nx,.string nm,.slice ac n cc,.slice a2 l2 c2] 92)=W1:=⟨_,rfl⟩;have hb1:Below w.heap.size w W1:=by rw[<-hW1];exact(Below.refl _ w).alloc (Nat.le_refl _) _
 have HR1:Hid (A8 B (.slice ac n cc) cs W1):=A8.below h hb1;have HB1:Hid (Below w.heap.size w W1):=hb1;have hv1:Ac w.heap.size [.int .i64 id,.int .i64 nx,.string nm,.slice ac n cc,.slice a2 l2 c2] W1:=by rw[<-hW1];exact Ac.new w #[.int .i64 id,.int .i64 nx,.string nm,.slice ac n cc,.slice a2 l2 c2] 92 (by simp)
 obtain⟨q0,q1,q2,q3,q4⟩:=hv1.c5;clear h hb1 hn hv1;go_enter Tryz.func35,Tryz.ntmps35;go_wp2_with fail;refine(EF name _ HR1.out).mono ?_;rintro _ w2 ⟨hI,hb2⟩;have HB2:Hid (Below w.heap.size w w2):=HB1.out.trans (hb2.mono HB1.out.size);have HR:Hid (Ns (Oa name) cs _):=hI
 obtain⟨u,hu⟩:∃u,_=Ending.returned u:=by
  rcases hI with⟨i,_,_,_,e⟩|⟨_,e⟩
  ·exact⟨_,e⟩
  ·exact⟨_,e⟩
 subst hu;clear hb2 hI;go_wp2;go_ret;exact⟨HR.out,HB2.out⟩
theorem CX {nm:ByteArray}:∀(l:List Col) (i:Nat) (x:Pr),x∈Dy nm i l↔∃j,∃h:j<l.length,x=⟨Bv nm (i+j),AU l[j]⟩
 | [],i,x=>by simp[Dy]
 |c::l,i,x=>by
  unfold Dy;rw[List.mem_cons,CX l (i+1) x];constructor
  ·rintro(rfl|⟨j,hj,rfl⟩)
   ·exact⟨0,by simp,by simp⟩
   ·exact⟨j+1,by simpa using hj,by simp[Nat.add_assoc,Nat.add_comm 1 j]⟩
  ·rintro⟨j,hj,rfl⟩
   cases j with
   |zero=>exact .inl (by simp)
   |succ j=>exact .inr ⟨j,by simpa using hj,by simp[Nat.add_assoc,Nat.add_comm 1 j]⟩
theorem Sy {nm:ByteArray} {i j:Nat} (hi:i<255) (hj:j<255) (h:Bv nm i=Bv nm j):i=j:=by
 have:=congrArg (fun b:ByteArray=>b.data.toList) h;simp only[D8]at this;have h2:=List.append_cancel_left this;simp at h2;have h3:=congrArg UInt8.toNat h2;rw[Dd hi,Dd hj]at h3;omega
theorem Kq (nm:ByteArray) (j:Nat):Ap nm≠Bv nm j:=fun e=>by
 have:=congrArg ByteArray.size e;rw[Be,CF]at this;omega
def Col.on (c:Col):Col:=⟨c.nm,c.kd,c.mu,c.wo,true⟩
def Tb.more (t:Tb):Tb:={t with nx:=t.nx+1}
def Tb.idx (t:Tb) (i:Nat):Tb:={t with cs:=t.cs.modify i Col.on}
theorem RD (t:Tb) (x:Pr):Gx (·∈[t].flatMap Tb.prs) [⟨Ap t.nm,AH t.id (t.nx+1)⟩] x↔x∈[t.more].flatMap Tb.prs:=by
 unfold Gx;simp only[List.flatMap_singleton,Tb.prs,Tb.more,List.mem_cons,List.not_mem_nil,or_false];constructor
 ·rintro(h|⟨h|h,h2⟩)
  ·exact .inl h
  ·exact absurd (by rw[h]) (h2 _ rfl)
  ·exact .inr h
 ·rintro(h|h)
  ·exact .inl h
  ·refine .inr ⟨.inr h,fun y hy=> ?_⟩
   obtain⟨j,hj,rfl⟩:=(CX _ _ _).1 h;rw[hy];exact fun e=>Kq _ _ e.symm
theorem T6 (t:Tb) (h6:t.cs.length<=6) (i:Nat) (hi:i<t.cs.length) (x:Pr):Gx (·∈[t].flatMap Tb.prs) [⟨Bv t.nm i,AU t.cs[i].on⟩] x↔x∈[t.idx i].flatMap Tb.prs:=by
 unfold Gx;simp only[List.flatMap_singleton,Tb.prs,Tb.idx,List.mem_cons,List.not_mem_nil,or_false];constructor
 ·rintro(h|⟨h|h,h2⟩)
  ·refine .inr ((CX _ _ _).2 ⟨i,by simpa using hi,?_⟩)
   rw[h];simp
  ·exact .inl h
  ·obtain⟨j,hj,rfl⟩:=(CX _ _ _).1 h
   have hne:¬i=j:=fun e=>by
    subst e;exact h2 _ rfl (by simp)
   refine .inr ((CX _ _ _).2 ⟨j,by simpa using hj,?_⟩);simp[hne]
 ·rintro(h|h)
  ·refine .inr ⟨.inl h,fun y hy=> ?_⟩
   rw[h,hy];exact Kq _ _
  ·obtain⟨j,hj,rfl⟩:=(CX _ _ _).1 h
   have hj':j<t.cs.length:=by simpa using hj
   by_cases e:i=j
   ·subst e
    exact .inl (by simp)
   ·refine .inr ⟨.inr ((CX _ _ _).2 ⟨j,hj',by simp[e]⟩),fun y hy=> ?_⟩
    rw[hy];intro e2;have:=Sy (by omega) (by omega) e2;simp at this;exact e this.symm
theorem Tb.Ok.more {t:Tb} (h:t.Ok) (hn:t.nx+1<256):t.more.Ok:=⟨h.nm,h.id,h.cs,h.col,hn⟩
theorem Tb.Ok.idx {t:Tb} (h:t.Ok) (i:Nat):(t.idx i).Ok:=by
 refine⟨h.nm,h.id,by show(List.modify _ _ _).length<=6;rw[List.length_modify];exact h.cs,fun c hc=> ?_,h.nx⟩;obtain⟨j,hj,rfl⟩:=List.getElem_of_mem (show c∈t.cs.modify i Col.on from hc);have hj':j<t.cs.length:=by simpa using hj
 have hc:=h.col t.cs[j] (List.getElem_mem hj');rw[List.getElem_modify];split
 ·exact⟨hc.nm,hc.kd⟩
 ·exact hc
section
variable {bc bt bp:Nat} {bd:Sts} {bm N Z:Nat} {w:World}
theorem PrS.one {t:Tb} {M:Pr->Prop} (hok:t.Ok) (h:PrS bc bt bp bd bm N Z M w) (hM:∀x,M x↔x∈[t].flatMap Tb.prs):BV bc bt bp bd bm N [t] w:=by
 obtain⟨N1,up,V,T,h1,h2,h3,h4⟩:=h;exact⟨N1,up,V,T,h1,h2,⟨fun s hs=>by rw[List.mem_singleton.1 hs];exact hok,by simp,fun x=>(h4 x).trans (hM x)⟩⟩
set_option maxHeartbeats 1000000
theorem QZ {t:Tb} (h:BV bc bt bp bd bm N [t] w) {m:Int} (hm:w.cell? ⟨1,0,none⟩=some (.int .i64 m)) (hnx:t.nx+1<256) (hN:N+5000<1000000):
  Calls Tryz.prog 28 #[.pointer (some ⟨bc,0,none⟩),.string t.nm] w fun e w'=>e= .returned (.tuple #[.int .i64 (t.nx:Nat),.nilIface])/\BV bc bt bp bd bm (N+40) [t.more] w'/\Aa (fun b=>b=bp\/b=bm) w w':=by
 have hok:=h.ok _ (List.mem_singleton.2 rfl);have hns:=Bg hok.nm;have hltw:=h.lt;have hid:=hok.id;have HG:Hid _:=GB h hm (by simp) (List.mem_singleton.2 rfl);have HC:Hid (BV bc bt bp bd bm N [t] w):=h;have HOK:Hid _:=hok;have hadd:IntKind.i64.wrap ((t.nx:Int)+1)=((t.nx+1:Nat):Int):=by rw[Br _ (by omega) (by omega)];omega
 clear h hm hok;go_enter Tryz.func28,Tryz.ntmps28;go_wp2_with fail;refine(show Calls _ _ _ _ _ from HG.out).mono ?_;rintro _ w1 ⟨vc,vi,rfl,hcr,hir,hap,hb1⟩;obtain⟨ac,cc,hvc⟩:=Aj hcr;obtain⟨ai,ci,hvi⟩:=Aj hir;subst hvc hvi
 have HHP:Hid (∀wx,Calls Tryz.prog 68 #[.agg #[.int .i64 (t.id:Nat),.int .i64 ((t.nx:Int)+1),.string t.nm,.slice ac t.cs.length cc,.slice ai (ixs t.cs).length ci]] wx fun e w'=>e= .returned (.agg #[.string (Ap t.nm),.string (AH t.id (t.nx+1))])/\Below wx.heap.size wx w'):=fun wx=>by
  have:=G8 t.nm t.id (t.nx+1) (by omega) hnx (by omega) ac ai t.cs.length cc (ixs t.cs).length ci wx;simpa using this
 generalize t.cs.length=lc at *;generalize (ixs t.cs).length=li at *;obtain⟨W2,hW2⟩:∃W2,w1.alloc (.cells #[.int .i64 (t.id:Nat),.int .i64 (t.nx:Nat),.string t.nm,.slice ac lc cc,.slice ai li ci] 92)=W2:=⟨_,rfl⟩;have hb2:Below w1.heap.size w1 W2:=by rw[<-hW2];exact(Below.refl _ _).alloc (Nat.le_refl _) _
 have HV2:Hid (Ac w1.heap.size [.int .i64 (t.id:Nat),.int .i64 (t.nx:Nat),.string t.nm,.slice ac lc cc,.slice ai li ci] W2):=by
  show Ac _ _ _;rw[<-hW2];exact Ac.new w1 #[.int .i64 (t.id:Nat),.int .i64 (t.nx:Nat),.string t.nm,.slice ac lc cc,.slice ai li ci] 92 (by simp)
 have HB2:Hid (Below w.heap.size w W2):=hb1.trans (hb2.mono hb1.size);have HW1:Hid (w.heap.size<=w1.heap.size):=hb1.size;obtain⟨q0,q1,q2,q3,q4⟩:=HV2.out.c5;have f1:=HV2.out.free 1;have f4:=HV2.out.free 4;clear hcr hir hap hb1 hb2 HG;go_wp2_with fail;refine(show Calls _ _ _ _ _ from HHP.out _).mono ?_;rintro _ w7 ⟨rfl,hb7⟩;have HB3:Hid (Below w.heap.size w (W2.setCell ⟨w1.heap.size,1,none⟩ (.int .i64 ((t.nx:Int)+1)))):=HB2.out.setCell HW1.out _;have HB7:Hid (Below w.heap.size w w7):=HB3.out.trans (hb7.mono HB3.out.size);have HB8:Hid (Below w.heap.size w (w7.alloc (.cells #[.string (Ap t.nm),.string (AH t.id (t.nx+1))] 126))):=HB7.out.alloc HB7.out.size _
 have HR8:Hid (BU w7.heap.size (.slice (some ⟨w7.heap.size,0,none⟩) 1 1) [⟨Ap t.nm,AH t.id (t.nx+1)⟩] (w7.alloc (.cells #[.string (Ap t.nm),.string (AH t.id (t.nx+1))] 126))):=
  World.ownsRow_lit (base:=w7.heap.size) (e:=126) (size:=2) w7 #[.string (Ap t.nm),.string (AH t.id (t.nx+1))] 1 (Nat.le_refl _) (by decide) rfl
 have HPP:Hid (Pr.Ok ⟨Ap t.nm,AH t.id (t.nx+1)⟩):=⟨by show 1<=(Ap t.nm).size;rw[Be];omega,by show(Ap t.nm).size<=60;rw[Be];omega,by show 9<=100;decide⟩
 have hsz8:szL [⟨Ap t.nm,AH t.id (t.nx+1)⟩]<=100:=by
  show 2+(Ap t.nm).size+9+0<=100;rw[Be];omega
 have HPU:Hid _:=Jd (HC.out.below HB8.out).prs HR8.out (by have:=HB7.out.size;omega) (fun x hx=>by obtain rfl:=List.mem_singleton.1 hx;exact HPP.out) (by simp) (by simp only[List.length_singleton];omega) (by simp) hN;clear hb7 hsz8;go_wp2_with fail;refine(show Calls _ _ _ _ _ from HPU.out).mono ?_;rintro _ w9 ⟨rfl,hp9,ho9⟩;have HP9:Hid _:=hp9;have HO9:Hid (Aa (fun b=>b=bp\/b=bm) (w7.alloc (.cells #[.string (Ap t.nm),.string (AH t.id (t.nx+1))] 126)) w9):=ho9;clear hp9 ho9 HPU;go_wp2;go_ret2;exact⟨rfl,PrS.one (HOK.out.more hnx) HP9.out (RD t),(Ab HB8.out _).trans HO9.out (fun _ e=> .inl e)⟩
end
def Ti:ByteArray:=⟨#[49]⟩
def A2:ByteArray:=⟨#[116,49,99,49]⟩
theorem SV (w:World):Calls Tryz.prog 218 #[.int .i64 1] w fun e w'=>e= .returned (.string Ti)/\w'=w:=by
 go_enter Tryz.func218,Tryz.ntmps218;go_wp2;go_ret;exact⟨by rfl,rfl⟩
theorem Sf (w:World):Calls Tryz.prog 186 #[.int .i64 1,.int .i64 10] w fun e w'=>e= .returned (.string Ti)/\w'=w:=by
 go_enter Tryz.func186,Tryz.ntmps186;go_wp2_with fail;refine(SV _).mono ?_;rintro _ w9 ⟨rfl,h9⟩;obtain rfl:=h9.symm;clear h9;go_wp2;go_ret;exact⟨rfl,rfl⟩
theorem RV (w:World):Calls Tryz.prog 96 #[.int .i64 1] w fun e w'=>e= .returned (.string Ti)/\w'=w:=by
 have H:Hid (∀w,Calls Tryz.prog 141 #[.int .i64 1] w fun e w'=>e= .returned (.string Ti)/\w'=w):=by
  intro w;go_enter Tryz.func141,Tryz.ntmps141;go_wp2_with fail;refine(Sf _).mono ?_;rintro _ w9 ⟨rfl,h9⟩;obtain rfl:=h9.symm;clear h9;go_wp2;go_ret;exact⟨rfl,rfl⟩
 go_enter Tryz.func96,Tryz.ntmps96;go_wp2_with fail;refine(show Calls _ _ _ _ _ from H.out _).mono ?_;rintro _ w9 ⟨rfl,h9⟩;obtain rfl:=h9.symm;clear h9;go_wp2;go_ret;exact⟨rfl,rfl⟩
theorem GL (nx:Int) (nm:ByteArray) (a1 a2:Option Addr) (l1 c1 l2 c2:Nat) (w:World):
  Calls Tryz.prog 40 #[.agg #[.int .i64 1,.int .i64 nx,.string nm,.slice a1 l1 c1,.slice a2 l2 c2],.int .i64 1] w fun e w'=>e= .returned (.string A2)/\Below w.heap.size w w':=by
 go_enter Tryz.func40,Tryz.ntmps40;go_wp2_with fail;refine(RV _).mono ?_;rintro _ w9 ⟨rfl,h9⟩;obtain rfl:=h9.symm;clear h9;go_wp2_with fail;refine(RV _).mono ?_;rintro _ w9 ⟨rfl,h9⟩;obtain rfl:=h9.symm;clear h9;go_wp2;go_ret;exact⟨by rfl,(Below.refl _ w).alloc (Nat.le_refl _) _⟩
theorem Sq (t:Tb) (i:Nat) {B:Nat} {v:Value} {w:World} (h:A8 B v t.cs w):A8 B v (t.idx i).cs w:=by
 have e:∀(l:List Col) (i:Nat),(l.modify i Col.on).flatMap JC=l.flatMap JC:=by
  intro l
  induction l with
  |nil=>intro i;simp
  |cons c l ih=>
   intro i
   cases i with
   |zero=>rfl
   |succ i=>rw[List.modify_succ_cons,List.flatMap_cons,List.flatMap_cons,ih i]
 unfold A8 at h ⊢;have e1:=e t.cs i;have e2:(t.idx i).cs.length=t.cs.length:=List.length_modify _ _ _;rw[e2,show(t.idx i).cs.flatMap JC=t.cs.flatMap JC from e1];exact h
section
variable {bc bt bp:Nat} {bd:Sts} {bm N Z:Nat} {w:World}
def VP (bc bt bp:Nat) (bd:Sts) (bm N:Nat) (t:Tb) (i:Nat) (is:Bool) (w:World) (e:Ending) (w':World):Prop:=
 (is=true/\e= .returned (.iface 101 (.int .i64 9))/\Below w.heap.size w w')\/
 (is=false/\e= .returned .nilIface/\BV bc bt bp bd bm (N+40) [t.idx i] w'/\Aa (fun b=>b=bp\/b=bm) w w')
set_option maxHeartbeats 2000000
theorem Jx {t:Tb} {i:Nat} (hi:i<t.cs.length) {cn:ByteArray} (hcn0:t.cs[i].nm=cn) (hfirst:∀j (hj:j<i),t.cs[j].nm≠cn) (hcs:Lib.containsS (ixs t.cs) cn=t.cs[i].ix) (h:BV bc bt bp bd bm N [t] w) {m:Int} (hm:w.cell? ⟨1,0,none⟩=some (.int .i64 m)) (hN:N+5000<1000000):
  Calls Tryz.prog 32 #[.pointer (some ⟨bc,0,none⟩),.string t.nm,.string cn] w fun e w'=>VP bc bt bp bd bm N t i t.cs[i].ix w e w':=by
 have hok:=h.ok _ (List.mem_singleton.2 rfl);have hns:=Bg hok.nm;have hcok:=hok.col t.cs[i] (List.getElem_mem hi)
 have hil:(ixs t.cs).length<=6:=by
  unfold ixs;rw[List.length_map];exact Nat.le_trans (List.length_filter_le _ _) hok.cs
 have h6:=hok.cs;have hcn:=Bg hcok.nm;rw[hcn0]at hcn;have hltw:=h.lt;have HG:Hid _:=GB h hm (by simp) (List.mem_singleton.2 rfl);have HC:Hid (BV bc bt bp bd bm N [t] w):=h;have HOK:Hid _:=hok;have HCOK:Hid _:=hcok;obtain⟨j0,hj,hy0,hy1,hy2⟩:=RX;clear h hm hok hcok;go_enter Tryz.func32,Tryz.ntmps32;go_wp2_with fail;refine(show Calls _ _ _ _ _ from HG.out).mono ?_;rintro _ w1 ⟨vc,vi,rfl,hcr,hir,hap,hb1⟩;obtain⟨ac,cc,hvc⟩:=Aj hcr;obtain⟨ai,ci,hvi⟩:=Aj hir;subst hvc hvi;obtain⟨is_,his⟩:∃l,ixs t.cs=l:=⟨_,rfl⟩;rw[his]at hir hap hcs hil ⊢;obtain⟨lc,hlc⟩:∃n,t.cs.length=n:=⟨_,rfl⟩;rw[hlc]at hcr hap ⊢;obtain⟨li,hli⟩:∃n,is_.length=n:=⟨_,rfl⟩;rw[hli]at hir hap hil ⊢;have HLC:Hid (t.cs.length=lc):=hlc;have HLI:Hid (is_.length=li):=hli;have HCS:Hid (Lib.containsS is_ cn=t.cs[i].ix):=hcs;clear hlc hli his hcs;obtain⟨W2,hW2⟩:∃W2,w1.alloc (.cells #[.int .i64 (t.id:Nat),.int .i64 (t.nx:Nat),.string t.nm,.slice ac lc cc,.slice ai li ci] 92)=W2:=⟨_,rfl⟩;have hb2:Below w1.heap.size w1 W2:=by rw[<-hW2];exact(Below.refl _ _).alloc (Nat.le_refl _) _
 have HV2:Hid (Ac w1.heap.size [.int .i64 (t.id:Nat),.int .i64 (t.nx:Nat),.string t.nm,.slice ac lc cc,.slice ai li ci] W2):=by rw[<-hW2];exact Ac.new w1 #[.int .i64 (t.id:Nat),.int .i64 (t.nx:Nat),.string t.nm,.slice ac lc cc,.slice ai li ci] 92 (by simp)
 have HC2:Hid (A8 w.heap.size (.slice ac lc cc) t.cs W2):=Ag hcr hb2;have HI2:Hid (Cp w.heap.size (.slice ai li ci) is_ W2):=Ag hir hb2;have HAP:Hid _:=hap;have HCL:Hid (∀k,(Value.slice ac lc cc).ownBlock=some k->k<w1.heap.size):=fun k e=>(World.ownsRow.lt hcr k e).2;have HIL:Hid (∀k,(Value.slice ai li ci).ownBlock=some k->w.heap.size<=k/\k<w1.heap.size):=fun k e=>World.ownsRow.lt hir k e;have HB2:Hid (Below w.heap.size w W2):=hb1.trans (hb2.mono hb1.size);have HW1:Hid (w.heap.size<=w1.heap.size):=hb1.size;obtain⟨q0,q1,q2,q3,q4⟩:=HV2.out.c5;clear hcr hir hap hb1 hb2 HG;go_wp2_with fail;refine(Gc cn _ HC2.out).mono ?_;rintro _ w3 ⟨hI,hb3⟩;rcases hI with⟨i',hi',hp,hno,rfl⟩|⟨hno,_⟩
 ·obtain rfl:i'=i:=by
   rcases Nat.lt_trichotomy i' i with e|e|e
   ·exact absurd (Cu.1 hp) (hfirst i' e)
   ·exact e
   ·have:=hno i e
    rw[Cu.2 hcn0]at this;cases this
  have HV3:Hid (Ac w1.heap.size [.int .i64 (t.id:Nat),.int .i64 (t.nx:Nat),.string t.nm,.slice ac lc cc,.slice ai li ci] w3):=HV2.out.below hb3;have HC3:Hid (A8 w.heap.size (.slice ac lc cc) t.cs w3):=Ag HC2.out hb3;have HI3:Hid (Cp w.heap.size (.slice ai li ci) is_ w3):=Ag HI2.out hb3;have HB3:Hid (Below w.heap.size w w3):=HB2.out.trans (hb3.mono HB2.out.size);clear hb3 hp hno HV2 HC2 HI2 HB2 hW2 q0 q1 q2 q3 q4;obtain⟨q0,q1,q2,q3,q4⟩:=HV3.out.c5;have f4:=HV3.out.free 4;go_wp2_with fail;refine(Iz cn _ HI3.out).mono ?_;rintro _ w9 ⟨rfl,h9⟩;obtain rfl:=h9.symm;rw[HCS.out];clear h9
  cases hix:t.cs[i'].ix
  case true=>
   go_wp2;go_ret;exact .inl ⟨hix,rfl,HB3.out⟩
  have hix9:Hid (t.cs[i'].ix=false):=hix;clear hix;have hbA:Below w3.heap.size w3 (w3.alloc (.cells #[.string cn] 9)):=(Below.refl _ _).alloc (Nat.le_refl _) _;have HVA:Hid (Ac w1.heap.size [.int .i64 (t.id:Nat),.int .i64 (t.nx:Nat),.string t.nm,.slice ac lc cc,.slice ai li ci] (w3.alloc (.cells #[.string cn] 9))):=HV3.out.below hbA;have HCA:Hid (A8 w.heap.size (.slice ac lc cc) t.cs (w3.alloc (.cells #[.string cn] 9))):=Ag HC3.out hbA;have HIA:Hid (Cp w.heap.size (.slice ai li ci) is_ (w3.alloc (.cells #[.string cn] 9))):=Ag HI3.out hbA;have HBA:Hid (Below w.heap.size w (w3.alloc (.cells #[.string cn] 9))):=HB3.out.trans (hbA.mono HB3.out.size)
  have HIA2:Hid (World.ownsRow (w3.alloc (.cells #[.string cn] 9)) w.heap.size 9 1 (.slice ai li ci) li (is_.map Value.string)):=by
   have:=HIA.out;unfold Cp at this;rw[HLI.out]at this;exact this
  clear hbA
  go_wp2_with (at_builtin;refine wpList_append_lies _ rfl _ _ 85 rfl w.heap.size 9 j0 (.string ⟨#[]⟩) 1 16 Tryz.underlying85 hj hy0 hy1 hy2 rfl (by decide) _ _ _ rfl HIA2.out ⟨w3.heap.size,0,none⟩ 1 1 [.string cn] rfl rfl (Fd w3 cn 9) (by intro u hu;simp at hu;subst hu;rfl) (by decide) (by simp only[maxLen];omega) (by omega) HBA.out.size _ rfl ?_;intro g5 cap5 w5 hO5 hG5 hat5 hlt5;have HO5:Hid _:=hO5;have HG5:Hid _:=hG5;have HAT5:Hid _:=hat5;have HV5:Hid (Ac w1.heap.size [.int .i64 (t.id:Nat),.int .i64 (t.nx:Nat),.string t.nm,.slice ac lc cc,.slice ai li ci] w5):=HVA.out.block (hG5.block _ HVA.out.lt (fun e=>by have:=(HIL.out _ e.symm).2;omega));have f45:=HV5.out.free 4;have d45:=HV5.out.c5.2.2.2.2;have d25:=HV5.out.c5.2.2.1;have d35:=HV5.out.c5.2.2.2.1;clear hO5 hG5 hat5 q0 q1 q2 q3 q4 f4)
  obtain⟨W6,hW6⟩:∃W6,w5.setCell ⟨w1.heap.size,4,none⟩ (.slice (some ⟨g5,0,none⟩) (li+1) cap5)=W6:=⟨_,rfl⟩;have HB5:Hid (Below w.heap.size w w5):=HBA.out.grown HG5.out HBA.out.size (fun k e=>(HIL.out k e).1);have HB6:Hid (Below w.heap.size w W6):=by show Below _ _ _;rw[<-hW6];exact HB5.out.setCell HW1.out _
  have hg5:g5≠w1.heap.size:=by
   rcases HAT5.out with e|e
   ·have:=(HIL.out g5 e).2;omega
   ·have:=HVA.out.lt;omega
  have HC6:Hid (A8 w.heap.size (.slice ac lc cc) (t.idx i').cs W6):=by
   refine Sq t i' ?_;show World.ownsRow _ _ _ _ _ _ _;rw[<-hW6];refine DE (World.ownsRow.kept HCA.out HG5.out ?_) (fun k hk=>by have:=HCL.out k hk;omega)
   cases e:(Value.slice ac lc cc).ownBlock with
   |none=>exact .inl rfl
   |some k=>exact .inr (fun e2=>HAP.out k e e2.symm)
  have HI6:Hid (Cp w.heap.size (.slice (some ⟨g5,0,none⟩) (li+1) cap5) (is_++[cn]) W6):=by
   show Cp _ _ _ _;unfold Cp;rw[<-hW6,List.length_append,HLI.out,List.map_append];exact DE HO5.out (fun k hk=>by simp only[Value.ownBlock,Option.some.injEq]at hk;omega)
  have HCP:Hid (Calls Tryz.prog 84 #[.agg #[.string t.nm,.slice ac lc cc,.slice (some ⟨g5,0,none⟩) (li+1) cap5],.int .i64 (i':Nat)] W6 fun e w'=>e= .returned (.agg #[.string (Bv t.nm i'),.string (AU t.cs[i'].on)])/\Below W6.heap.size W6 w'):=by
   have e0:(t.idx i').cs[i']'(by show i'<(List.modify _ _ _).length;rw[List.length_modify];exact hi)=t.cs[i'].on:=by
    show(t.cs.modify i' _)[i']'_=_;simp
   have:=Fp (i:=i') t.nm W6 HC6.out HI6.out (by show i'<(List.modify _ _ _).length;rw[List.length_modify];exact hi) (by omega) (by omega) (by rw[e0];show t.cs[i'].kd<256;rcases HCOK.out.kd with e|e<;>omega) (by rw[e0];show t.cs[i'].nm.size<=1000;rw[hcn0];omega) (by rw[e0];show Lib.containsS _ t.cs[i'].nm=true;rw[hcn0];exact(Lib.containsS_iff _ _).2 (by simp));rw[e0]at this;exact this
  rw[hW6];clear d45 d25 d35 f45 hW6 HV5 HVA HCA HIA HO5 HG5 HAT5 HV3 HC3 HI3;refine(show Calls _ _ _ _ _ from HCP.out).mono ?_;rintro _ w7 ⟨rfl,hb7⟩;have HB7:Hid (Below w.heap.size w w7):=HB6.out.trans (hb7.mono HB6.out.size);have HB8:Hid (Below w.heap.size w (w7.alloc (.cells #[.string (Bv t.nm i'),.string (AU t.cs[i'].on)] 126))):=HB7.out.alloc HB7.out.size _
  have HR8:Hid (BU w7.heap.size (.slice (some ⟨w7.heap.size,0,none⟩) 1 1) [⟨Bv t.nm i',AU t.cs[i'].on⟩] (w7.alloc (.cells #[.string (Bv t.nm i'),.string (AU t.cs[i'].on)] 126))):=
   World.ownsRow_lit (base:=w7.heap.size) (e:=126) (size:=2) w7 #[.string (Bv t.nm i'),.string (AU t.cs[i'].on)] 1 (Nat.le_refl _) (by decide) rfl
  have HPP:Hid (Pr.Ok ⟨Bv t.nm i',AU t.cs[i'].on⟩):=⟨by show 1<=(Bv t.nm i').size;rw[CF];omega,by show(Bv t.nm i').size<=60;rw[CF];omega,by show(AU _).size<=100;rw[CZ];show t.cs[i'].nm.size+4<=100;rw[hcn0];omega⟩
  have hsz8:szL [⟨Bv t.nm i',AU t.cs[i'].on⟩]<=100:=by
   show 2+(Bv t.nm i').size+(AU _).size+0<=100;rw[CF,CZ];show 2+(t.nm.size+2)+(t.cs[i'].nm.size+4)+0<=100;rw[hcn0];omega
  have HPU:Hid _:=Jd (HC.out.below HB8.out).prs HR8.out (by have:=HB7.out.size;omega) (fun x hx=>by obtain rfl:=List.mem_singleton.1 hx;exact HPP.out) (by simp) (by simp only[List.length_singleton];omega) (by simp) hN;clear hb7 hsz8;go_wp2_with fail;refine(show Calls _ _ _ _ _ from HPU.out).mono ?_;rintro _ w9 ⟨rfl,hp9,ho9⟩;have HP9:Hid _:=hp9;have HO9:Hid (Aa (fun b=>b=bp\/b=bm) (w7.alloc (.cells #[.string (Bv t.nm i'),.string (AU t.cs[i'].on)] 126)) w9):=ho9;clear hp9 ho9 HPU;go_wp2;go_ret;exact .inr ⟨hix9.out,rfl,PrS.one (HOK.out.idx i') HP9.out (T6 t HOK.out.cs i' hi),(Ab HB8.out _).trans HO9.out (fun _ e=> .inl e)⟩
 ·have:=hno t.cs[i] (List.getElem_mem hi)
  rw[Cu.2 hcn0]at this;cases this
end
end
end Go.Proofs.YtihnldkgeelehaaGreatDoor
