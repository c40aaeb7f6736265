/- StoreFinds: part 33. -/
import Derived.Test.YtihnldkgeelehaaGreatDoorF32
set_option maxRecDepth 100000
set_option maxHeartbeats 4000000
namespace Go.Proofs.YtihnldkgeelehaaGreatDoor
section
open Go.RowKit Go.Maps
structure Nd where
 n:ByteArray
 w:ByteArray
 r:Nat
 a:Nat
def Nd.pl (d:Nd):Pl:=⟨(d.r:Int),(d.a:Int)⟩
structure Nd.Ok (d:Nd):Prop where
 n:Kh d.n
 w:WOk d.w
 lo:1<=d.r
 hi:d.r<=1073741824
 a:d.a<20
def Nd.is (d:Nd) (n w:ByteArray) (r:Nat):Bool:=decide (d.n=n) && decide (d.w=w) && decide (d.r=r)
theorem Dv {d:Nd} {n w:ByteArray} {r:Nat}:d.is n w r=true↔d.n=n/\d.w=w/\d.r=r:=by
 unfold Nd.is;simp only[Bool.and_eq_true,decide_eq_true_eq];exact⟨fun h=>⟨h.1.1,h.1.2,h.2⟩,fun h=>⟨⟨h.1,h.2.1⟩,h.2.2⟩⟩
def EE (D:List Nd) (n w:ByteArray) (r:Nat):List Pl:=(D.filter (fun d=>d.is n w r)).map Nd.pl
structure DOk (D:List Nd):Prop where
 ok:∀d∈D,d.Ok
 ri:D.Pairwise (fun x y=>x.n=y.n->x.w=y.w->x.r=y.r->x.a<y.a)
theorem DOk.nil:DOk []:=⟨fun _ h=>(by cases h),List.Pairwise.nil⟩
def pcD (D:List Nd) (d:Nd):Pc:=⟨d.n,d.w,d.r,EE D d.n d.w d.r⟩
def InD (D:List Nd) (x:Pr):Prop:=∃d∈D,x=(pcD D d).pr
theorem G4 {D:List Nd} {n w:ByteArray} {r:Nat} {p:Pl}:p∈EE D n w r↔∃d∈D,d.n=n/\d.w=w/\d.r=r/\p=d.pl:=by
 unfold EE;constructor
 ·intro h
  obtain⟨d,hd,rfl⟩:=List.mem_map.1 h;obtain⟨h1,h2⟩:=List.mem_filter.1 hd;obtain⟨e1,e2,e3⟩:=Dv.1 h2;exact⟨d,h1,e1,e2,e3,rfl⟩
 ·rintro⟨d,hd,e1,e2,e3,rfl⟩
  exact List.mem_map.2 ⟨d,List.mem_filter.2 ⟨hd,Dv.2 ⟨e1,e2,e3⟩⟩,rfl⟩
theorem R0 {D:List Nd} (h:DOk D) (n w:ByteArray) (r:Nat):Ris r (EE D n w r):=by
 refine⟨fun q hq=> ?_,?_⟩
 ·obtain⟨d,hd,_,_,e,rfl⟩:=G4.1 hq
  have:=(h.ok d hd).a;exact⟨by show(d.r:Int)=(r:Int);rw[e],by show(0:Int)<=(d.a:Int);omega,by show(d.a:Int)<20;omega⟩
 ·unfold EE
  rw[List.pairwise_map];refine List.Pairwise.imp_of_mem (fun {x y} hx hy hxy=> ?_) (h.ri.filter (fun d=>d.is n w r));obtain⟨a1,a2,a3⟩:=Dv.1 (List.mem_filter.1 hx).2;obtain⟨b1,b2,b3⟩:=Dv.1 (List.mem_filter.1 hy).2;have:=hxy (a1.trans b1.symm) (a2.trans b2.symm) (a3.trans b3.symm);show(x.a:Int)<(y.a:Int);omega
theorem R3 {D:List Nd} {d:Nd} (hd:d∈D):0<(EE D d.n d.w d.r).length:=
 List.length_pos_iff.2 (List.ne_nil_of_mem (G4.2 ⟨d,hd,rfl,rfl,rfl,rfl⟩))
theorem DOk.pc {D:List Nd} (h:DOk D) {d:Nd} (hd:d∈D):(pcD D d).Ok:=
 have k:=h.ok d hd
 ⟨k.n,k.w,k.lo,k.hi,R0 h _ _ _,R3 hd⟩
structure LsD (D:List Nd) (L:List Pc):Prop where
 of:∀c∈L,∃d∈D,c=pcD D d
 all:∀d∈D,pcD D d∈L
 sorted:(L.map Pc.pr).Pairwise (fun a b=>bl a.k b.k=true)
theorem LsD.ok {D:List Nd} {L:List Pc} (h:LsD D L) (hD:DOk D):∀c∈L,c.Ok:=fun c hc=>by
 obtain⟨d,hd,rfl⟩:=h.of c hc;exact hD.pc hd
theorem R6 {D:List Nd} {d e:Nd} (h1:d.n=e.n) (h2:d.w=e.w) (h3:d.r=e.r):pcD D d=pcD D e:=by
 unfold pcD;rw[h1,h2,h3]
theorem J4 {α β:Type} {f:α->β} {P:α->Prop}:∀(l:List β),(∀x∈l,∃c,P c/\x=f c)->∃cs:List α,l=cs.map f/\∀c∈cs,P c
 | [],_=>⟨[],rfl,fun _ h=>by cases h⟩
 |x::l,h=>by
  obtain⟨cs,h1,h2⟩:=J4 l (fun y hy=>h y (by simp[hy]));obtain⟨c,h3,h4⟩:=h x (by simp);refine⟨c::cs,by rw[h1,h4];rfl,fun d hd=> ?_⟩;rcases List.mem_cons.1 hd with rfl|hd
  ·exact h3
  ·exact h2 d hd
theorem PrS.piecesD {bf bt bp:Nat} {bd:Sts} {bm N Z:Nat} {D:List Nd} {w:World} (h:PrS bf bt bp bd bm N Z (InD D) w) (hD:DOk D):∃N1 up V T L,N1<=N/\Fs bf bt bp bd bm N1 up V T w/\T.all=L.map Pc.pr/\LsD D L:=by
 obtain⟨N1,up,V,T,h1,h2,h3,h4⟩:=h
 obtain⟨L,hL,hL2⟩:=J4 (f:=Pc.pr) (P:=fun c=>∃d∈D,c=pcD D d) T.all (fun x hx=>by
  obtain⟨d,hd,rfl⟩:=(h4 x).1 hx;exact⟨pcD D d,⟨d,hd,rfl⟩,rfl⟩)
 refine⟨N1,up,V,T,L,h1,h2,hL,⟨hL2,fun d hd=> ?_,by rw[<-hL];exact h2.sorted⟩⟩;have hm:=(h4 (pcD D d).pr).2 ⟨d,hd,rfl⟩;rw[hL]at hm;obtain⟨c,hc,e⟩:=List.mem_map.1 hm;obtain⟨d',hd',rfl⟩:=hL2 c hc;obtain⟨e1,e2,e3⟩:=(hD.pc hd').key (hD.pc hd) (congrArg Pr.k e);have:=R6 (D:=D) (d:=d') (e:=d) e1 e2 e3;rw[<-this];exact hc
def TW (L:List Pc):Prop:=L.Pairwise (fun a b=>bl a.n b.n=true\/(a.n=b.n/\(bl a.w b.w=true\/(a.w=b.w/\a.r<b.r))))
theorem UE {L:List Pc} (hok:∀c∈L,c.Ok) (hs:(L.map Pc.pr).Pairwise (fun a b=>bl a.k b.k=true)):TW L:=by
 rw[List.pairwise_map]at hs;refine List.Pairwise.imp_of_mem (fun {a b} ha hb hab=> ?_) hs;have ka:=hok a ha;have kb:=hok b hb;have hab':bl (Bu a.n a.w a.r) (Bu b.n b.w b.r)=true:=hab
 have no:bl (Bu b.n b.w b.r) (Bu a.n a.w a.r)=true->False:=fun h2=>by
  rw[Np h2]at hab';cases hab'
 have hr:a.r<4294967296:=by have:=ka.hi;omega
 rcases DW a.n b.n with h1|h1|h1
 ·exact .inl h1
 ·rcases DW a.w b.w with h2|h2|h2
  ·exact .inr ⟨h1,.inl h2⟩
  ·rcases Nat.lt_trichotomy a.r b.r with h3|h3|h3
   ·exact .inr ⟨h1,.inr ⟨h2,h3⟩⟩
   ·rw[h1,h2,h3,Ar]at hab';cases hab'
   ·exact(no (D4 ka.n.nz ka.w.nz hr (.inr ⟨h1.symm,.inr ⟨h2.symm,h3⟩⟩))).elim
  ·exact(no (D4 ka.n.nz ka.w.nz hr (.inr ⟨h1.symm,.inl h2⟩))).elim
 ·exact(no (D4 ka.n.nz ka.w.nz hr (.inl h1))).elim
theorem LsD.ord {D:List Nd} {L:List Pc} (h:LsD D L) (hD:DOk D):TW L:=UE (h.ok hD) h.sorted
def GO (L:List Pc) (D:List Nd):Nat:=(L.map (fun c=>(D.filter (fun d=>d.is c.n c.w c.r)).length)).sum
theorem Kp (d:Nd) (D:List Nd):∀(L:List Pc),L.Pairwise (fun a b=>¬(a.n=b.n/\a.w=b.w/\a.r=b.r))->((∃c∈L,d.is c.n c.w c.r=true)->GO L (d::D)=GO L D+1)/\((∀c∈L,d.is c.n c.w c.r=false)->GO L (d::D)=GO L D)
 | [],_=>⟨fun h=>(by obtain⟨_,h,_⟩:=h;cases h),fun _=>rfl⟩
 |c::L,hn=>by
  rw[List.pairwise_cons]at hn;obtain⟨i1,i2⟩:=Kp d D L hn.2;have e1:∀D,GO (c::L) D=(D.filter (fun d=>d.is c.n c.w c.r)).length+GO L D:=fun D=>by simp[GO]
  rw[e1,e1,List.filter_cons]
  cases hc:d.is c.n c.w c.r
  ·simp only[Bool.false_eq_true,if_false]
   constructor
   ·rintro⟨x,hx,hd⟩
    rcases List.mem_cons.1 hx with rfl|hx
    ·rw[hc]at hd;cases hd
    ·rw[i1 ⟨x,hx,hd⟩];omega
   ·intro h
    rw[i2 (fun x hx=>h x (by simp[hx]))]
  ·simp only[if_true,List.length_cons]
   have hrest:∀x∈L,d.is x.n x.w x.r=false:=fun x hx=>by
    cases hq:d.is x.n x.w x.r
    ·rfl
    ·obtain⟨a1,a2,a3⟩:=Dv.1 hc
     obtain⟨b1,b2,b3⟩:=Dv.1 hq;exact absurd ⟨a1.symm.trans b1,a2.symm.trans b2,a3.symm.trans b3⟩ (hn.1 x hx)
   constructor
   ·intro _
    rw[i2 hrest];omega
   ·intro h
    have:=h c (by simp);rw[hc]at this;cases this
theorem Ml (L:List Pc) (hn:L.Pairwise (fun a b=>¬(a.n=b.n/\a.w=b.w/\a.r=b.r))):∀(D:List Nd),(∀d∈D,∃c∈L,d.is c.n c.w c.r=true)->GO L D=D.length
 | [],_=>by
   unfold GO;rw[show(fun c:Pc=>(([]:List Nd).filter (fun d=>d.is c.n c.w c.r)).length)=fun _=>0 from rfl]
   induction L with
   |nil=>rfl
   |cons c L ih=>simpa using ih (List.pairwise_cons.1 hn).2
 |d::D,h=>by
  rw[(Kp d D L hn).1 (h d (by simp)),Ml L hn D (fun x hx=>h x (by simp[hx])),List.length_cons]
theorem Nk {D:List Nd}:∀(L:List Pc),(∀c∈L,c.l=EE D c.n c.w c.r)->Dw L=GO L D
 | [],_=>rfl
 |c::L,h=>by
  have e1:GO (c::L) D=(D.filter (fun d=>d.is c.n c.w c.r)).length+GO L D:=by simp[GO]
  rw[e1,Dw,Nk L (fun x hx=>h x (by simp[hx])),h c (by simp)];unfold EE;rw[List.length_map]
theorem LsD.cnt {D:List Nd} {L:List Pc} (h:LsD D L) (hD:DOk D):Dw L=D.length:=by
 rw[Nk (D:=D) L (fun c hc=>by obtain⟨d,hd,rfl⟩:=h.of c hc;rfl)];refine Ml L ?_ D (fun d hd=>⟨_,h.all d hd,Dv.2 ⟨rfl,rfl,rfl⟩⟩);refine(h.ord hD).imp (fun {a b} hab=> ?_);rintro⟨e1,e2,e3⟩;rcases hab with hab|⟨_,hab|⟨_,hab⟩⟩
 ·rw[e1,Ar]at hab;cases hab
 ·rw[e2,Ar]at hab;cases hab
 ·omega
theorem LsD.len {D:List Nd} {L:List Pc} (h:LsD D L) (hD:DOk D):L.length<=D.length:=by
 rw[<-h.cnt hD];exact TN (h.ok hD)
theorem PrS.tight {bf bt bp:Nat} {bd:Sts} {bm N Z:Nat} {D:List Nd} {w:World} (h:PrS bf bt bp bd bm N Z (InD D) w) (hD:DOk D):PrS bf bt bp bd bm N (42 * D.length) (InD D) w:=by
 obtain⟨N1,up,V,T,L,h1,h2,h3,h4⟩:=h.piecesD hD;obtain⟨N2,up2,V2,T2,j1,j2,j3,j4⟩:=h;refine⟨N2,up2,V2,T2,j1,j2,?_,j4⟩
 have e:T2.all=T.all:=EA T2.all T.all j2.sorted h2.sorted (fun x=>by
  rw[j4 x,h3];constructor
  ·rintro⟨d,hd,rfl⟩;exact List.mem_map.2 ⟨_,h4.all d hd,rfl⟩
  ·intro hx
   obtain⟨c,hc,rfl⟩:=List.mem_map.1 hx;obtain⟨d,hd,rfl⟩:=h4.of c hc;exact⟨d,hd,rfl⟩)
 rw[e,h3,<-h4.cnt hD];exact Us (h4.ok hD)
def BE (nm:ByteArray) (r:Nat):Nat->List ByteArray->List Nd
 |_,[]=>[]
 |i,x::t=>⟨nm,x,r,i⟩::BE nm r (i+1) t
theorem KJ (nm:ByteArray) (r:Nat):∀(i:Nat) (ws:List ByteArray),(BE nm r i ws).length=ws.length
 |_,[]=>rfl
 |i,_::t=>by rw[BE,List.length_cons,List.length_cons,KJ nm r (i+1) t]
theorem BQ {nm:ByteArray} {r:Nat}:∀ {i:Nat} {ws:List ByteArray} {d:Nd},d∈BE nm r i ws->d.n=nm/\d.r=r/\d.w∈ws/\i<=d.a/\d.a<i+ws.length
 |_,[],_,h=>by cases h
 |i,x::t,d,h=>by
  rw[BE]at h;rcases List.mem_cons.1 h with rfl|h
  ·exact⟨rfl,rfl,by simp,Nat.le_refl _,by rw[List.length_cons];show i<_;omega⟩
  ·obtain⟨h1,h2,h3,h4,h5⟩:=BQ h
   exact⟨h1,h2,by simp[h3],by omega,by rw[List.length_cons];omega⟩
theorem KI {nm:ByteArray} {r:Nat}:∀ {i:Nat} {ws:List ByteArray} {x:ByteArray},x∈ws->∃d∈BE nm r i ws,d.w=x
 |_,[],_,h=>by cases h
 |i,y::t,x,h=>by
  rw[BE];rcases List.mem_cons.1 h with rfl|h
  ·exact⟨_,List.mem_cons_self,rfl⟩
  ·obtain⟨d,hd,e⟩:=KI (nm:=nm) (r:=r) (i:=i+1) h
   exact⟨d,List.mem_cons_of_mem _ hd,e⟩
theorem K5 (nm:ByteArray) (r:Nat) (x:ByteArray):∀(i:Nat) (ws:List ByteArray),EE (BE nm r i ws) nm x r=AB r i ws x
 |_,[]=>rfl
 |i,y::t=>by
  have ih:=K5 nm r x (i+1) t;unfold EE at ih ⊢;rw[BE,List.filter_cons,AB]
  by_cases e:y=x
  ·rw[if_pos e,if_pos (Dv.2 ⟨rfl,e,rfl⟩),List.map_cons,ih];rfl
  ·rw[if_neg e,if_neg (fun h=>e (Dv.1 h).2.1),ih]
theorem Ht (D E:List Nd) (n w:ByteArray) (r:Nat):EE (D++E) n w r=EE D n w r++EE E n w r:=by
 unfold EE;rw[List.filter_append,List.map_append]
theorem K6 {D:List Nd} {n w:ByteArray} {r:Nat} (h:∀d∈D,¬(d.n=n/\d.w=w/\d.r=r)):EE D n w r=[]:=by
 unfold EE;rw[List.filter_eq_nil_iff.2 (fun d hd e=>h d hd (Dv.1 e))];rfl
def J1 (D:List Nd) (nm:ByteArray) (r:Nat) (ws:List ByteArray):Prop:=∃x∈ws,∃d∈D,d.n=nm/\d.w=x/\d.r=r
theorem T5 {D:List Nd} {nm:ByteArray} {r:Nat} {ws:List ByteArray} (hno:¬J1 D nm r ws) (y:Pr):InD (D++BE nm r 0 ws) y↔(InD D y\/∃x∈ws,y=(⟨nm,x,r,AB r 0 ws x⟩:Pc).pr):=by
 have old:∀d∈D,pcD (D++BE nm r 0 ws) d=pcD D d:=fun d hd=>by
  unfold pcD;rw[Ht,K6 (D:=BE nm r 0 ws) (fun e he h=> ?_),List.append_nil];obtain⟨e1,e2,e3,_⟩:=BQ he;exact hno ⟨e.w,e3,d,hd,h.1.symm.trans e1,h.2.1.symm,h.2.2.symm.trans e2⟩
 have new:∀d∈BE nm r 0 ws,pcD (D++BE nm r 0 ws) d=⟨nm,d.w,r,AB r 0 ws d.w⟩:=fun d hd=>by
  obtain⟨e1,e2,e3,_⟩:=BQ hd;unfold pcD;rw[e1,e2,Ht,K5,K6 (D:=D) (fun c hc h=>hno ⟨d.w,e3,c,hc,h.1,h.2.1,h.2.2⟩),List.nil_append]
 constructor
 ·rintro⟨d,hd,rfl⟩
  rcases List.mem_append.1 hd with hd|hd
  ·rw[old d hd];exact .inl ⟨d,hd,rfl⟩
  ·rw[new d hd];exact .inr ⟨d.w,(BQ hd).2.2.1,rfl⟩
 ·rintro(⟨d,hd,rfl⟩|⟨x,hx,rfl⟩)
  ·exact⟨d,by simp[hd],by rw[old d hd]⟩
  ·obtain⟨d,hd,e⟩:=KI (nm:=nm) (r:=r) (i:=0) hx
   exact⟨d,by simp[hd],by rw[new d hd,e]⟩
theorem DOk.add {D:List Nd} {nm:ByteArray} {r:Nat} {ws:List ByteArray} (h:DOk D) (hn:Kh nm) (h1:1<=r) (h2:r<=1073741824) (hw:∀x∈ws,WOk x) (hl:ws.length<=20) (hno:¬J1 D nm r ws):DOk (D++BE nm r 0 ws):=by
 refine⟨fun d hd=> ?_,?_⟩
 ·rcases List.mem_append.1 hd with hd|hd
  ·exact h.ok d hd
  ·obtain⟨e1,e2,e3,_,e5⟩:=BQ hd
   exact⟨by rw[e1];exact hn,hw _ e3,by omega,by omega,by omega⟩
 ·rw[List.pairwise_append]
  refine⟨h.ri,?_,fun d hd e he e1 e2 e3=> ?_⟩
  ·have:∀(i:Nat) (ws:List ByteArray),(BE nm r i ws).Pairwise (fun x y=>x.n=y.n->x.w=y.w->x.r=y.r->x.a<y.a):=by
    intro i ws
    induction ws generalizing i with
    |nil=>exact List.Pairwise.nil
    |cons x t ih=>
     refine List.Pairwise.cons (fun d hd _ _ _=> ?_) (ih (i+1));have:=(BQ hd).2.2.2.1;show i<d.a;omega
   exact this 0 ws
  ·obtain⟨a1,a2,a3,_⟩:=BQ he
   exact absurd ⟨e.w,a3,d,hd,e1.trans a1,e2,e3.trans a2⟩ hno
def Nd.out (d:Nd) (nm:ByteArray) (r:Nat) (ws:List ByteArray):Bool:=decide (d.n=nm) && ws.any (fun x=>decide (d.w=x)) && decide (d.r=r)
theorem L8 {d:Nd} {nm:ByteArray} {r:Nat} {ws:List ByteArray}:d.out nm r ws=true↔d.n=nm/\d.w∈ws/\d.r=r:=by
 unfold Nd.out;simp only[Bool.and_eq_true,decide_eq_true_eq,List.any_eq_true];constructor
 ·rintro⟨⟨h1,x,hx,e⟩,h3⟩
  exact⟨h1,by rw[e];exact hx,h3⟩
 ·rintro⟨h1,h2,h3⟩
  exact⟨⟨h1,d.w,h2,rfl⟩,h3⟩
def Ek (D:List Nd) (nm:ByteArray) (r:Nat) (ws:List ByteArray):List Nd:=D.filter (fun d=> !d.out nm r ws)
theorem D6 {D:List Nd} {nm:ByteArray} {r:Nat} {ws:List ByteArray} {d:Nd}:d∈Ek D nm r ws↔d∈D/\¬(d.n=nm/\d.w∈ws/\d.r=r):=by
 unfold Ek;rw[List.mem_filter];constructor
 ·rintro⟨h1,h2⟩
  refine⟨h1,fun h=> ?_⟩;rw[L8.2 h]at h2;cases h2
 ·rintro⟨h1,h2⟩
  refine⟨h1,?_⟩
  cases hq:d.out nm r ws
  ·rfl
  ·exact absurd (L8.1 hq) h2
theorem DOk.drop {D:List Nd} (h:DOk D) (nm:ByteArray) (r:Nat) (ws:List ByteArray):DOk (Ek D nm r ws):=
 ⟨fun d hd=>h.ok d (D6.1 hd).1,h.ri.filter _⟩
theorem K7 {D:List Nd} {nm:ByteArray} {r:Nat} {ws:List ByteArray} {d:Nd} (hd:d∈Ek D nm r ws):EE (Ek D nm r ws) d.n d.w d.r=EE D d.n d.w d.r:=by
 unfold EE Ek;rw[List.filter_filter];congr 1;refine List.filter_congr (fun e _=> ?_)
 cases hq:e.is d.n d.w d.r
 ·rfl
 ·obtain⟨a1,a2,a3⟩:=Dv.1 hq
  have hn:=(D6.1 hd).2
  have:e.out nm r ws=false:=by
   cases ho:e.out nm r ws
   ·rfl
   ·obtain⟨b1,b2,b3⟩:=L8.1 ho
    exact absurd ⟨a1.symm.trans b1,by rw[<-a2];exact b2,a3.symm.trans b3⟩ hn
  rw[this];rfl
theorem Sa {D:List Nd} {nm:ByteArray} {r:Nat} {ws:List ByteArray} (hD:DOk D) (hn:Kh nm) (h2:r<=1073741824) (hw:∀x∈ws,WOk x) (y:Pr):InD (Ek D nm r ws) y↔(InD D y/\∀x∈ws,y.k≠Bu nm x r):=by
 have key:∀d∈D,∀x∈ws,(pcD D d).pr.k=Bu nm x r->d.n=nm/\d.w=x/\d.r=r:=fun d hd x hx e=>by
  have k:=hD.ok d hd;exact Ju k.n.nz k.w.nz (by have:=k.hi;omega) hn.nz (hw x hx).nz (by omega) e
 constructor
 ·rintro⟨d,hd,rfl⟩
  have e:pcD (Ek D nm r ws) d=pcD D d:=by unfold pcD;rw[K7 hd]
  obtain⟨h1,h3⟩:=D6.1 hd;rw[e];refine⟨⟨d,h1,rfl⟩,fun x hx hk=> ?_⟩;obtain⟨a1,a2,a3⟩:=key d h1 x hx hk;exact h3 ⟨a1,by rw[a2];exact hx,a3⟩
 ·rintro⟨⟨d,hd,rfl⟩,hk⟩
  have hm:d∈Ek D nm r ws:=D6.2 ⟨hd,fun h=>hk d.w h.2.1 (by rw[<-h.1,<-h.2.2];rfl)⟩;refine⟨d,hm,?_⟩;unfold pcD;rw[K7 hm]
def JU (s:ByteArray) (r:Nat):ByteArray:=s++⟨#[0]⟩++⟨(Eu r).toArray⟩
theorem KO (s:ByteArray) (r:Nat):(JU s r).data.toList=s.data.toList++0::Eu r:=by simp[JU]
theorem PY (s:ByteArray) (r:Nat):(JU s r).size=s.size+5:=by
 unfold JU;rw[ByteArray.size_append,ByteArray.size_append];rfl
theorem GQ {w w':World} {base size n:Nat} {e:TypeId} {v:Value} {xs:List Value} {S:Nat->Prop} (h:w.ownsRow base e size v n xs) (ho:Aa S w w') (hS:∀b,v.ownBlock=some b->¬S b):w'.ownsRow base e size v n xs:=by
 refine⟨h.1,?_⟩;rcases h.2 with h2|⟨g,cap,cur,h1,h2,h3,h4⟩
 ·exact .inl h2
 ·exact .inr ⟨g,cap,cur,h1,h2,by rw[ho.block g (Array.getElem?_eq_some_iff.1 h3).1 (hS g (by rw[h1];rfl))];exact h3,h4⟩
theorem TL {m:Int} (n s:ByteArray) (r:Nat) (h0:(0:UInt8)∉n.data.toList) (hn:n.size<=1000) (hs:s.size<=1000) (w:World) (hm:w.cell? ⟨1,0,none⟩=some (.int .i64 m)):
  Calls Tryz.prog 97 #[.string (Bu n s r),.string ⟨#[0]⟩] w fun e w'=>e= .returned (.tuple #[.string n,.string (JU s r),.bool true])/\Below w.heap.size w w':=by
 refine(Tryz.strings_Cut (Bu n s r) ⟨#[0]⟩ m w (by rw[KS];omega) hm).mono ?_;rintro e w' ⟨he,q,rfl⟩
 have hc:Lib.cut (Bu n s r).data.toList (⟨#[0]⟩:ByteArray).data.toList=(n.data.toList,(JU s r).data.toList,true):=by
  rw[F2,KO];exact GE _ _ h0
 rw[hc]at he;exact⟨he,A4 (Below.refl _ _) q⟩
theorem TK {m:Int} (s:ByteArray) (r:Nat) (h0:(0:UInt8)∉s.data.toList) (hs:s.size<=1000) (w:World) (hm:w.cell? ⟨1,0,none⟩=some (.int .i64 m)):
  Calls Tryz.prog 97 #[.string (JU s r),.string ⟨#[0]⟩] w fun e w'=>e= .returned (.tuple #[.string s,.string ⟨(Eu r).toArray⟩,.bool true])/\Below w.heap.size w w':=by
 refine(Tryz.strings_Cut (JU s r) ⟨#[0]⟩ m w (by rw[PY];omega) hm).mono ?_;rintro e w' ⟨he,n,rfl⟩
 have hc:Lib.cut (JU s r).data.toList (⟨#[0]⟩:ByteArray).data.toList=(s.data.toList,Eu r,true):=by
  rw[KO];exact GE _ _ h0
 rw[hc]at he;exact⟨he,A4 (Below.refl _ _) n⟩
theorem PD {l:List Pl} (hr:DG l=true) (hs:(Ej l).length<=1000) (s:ByteArray) (e:(⟨(Ej l).toArray⟩:ByteArray)=s) (w:World):
  Calls Tryz.prog 98 #[.string s] w fun e w'=>∃v,e= .returned (.tuple #[v,.nilIface])/\w'.ownsRow w.heap.size 118 2 v l.length (plc l)/\Below w.heap.size w w':=by
 subst e;refine(PE ⟨(Ej l).toArray⟩ w (by show(Ej l).toArray.size<=_;rw[List.size_toArray];omega)).mono ?_;have hb:K0 (⟨(Ej l).toArray⟩:ByteArray).data.toList=some l:=Rs l hr;rintro e w' ⟨h|h,hbl⟩
 ·obtain⟨ps,v,h1,rfl,_,h2⟩:=h
  rw[hb]at h1;obtain rfl:=Option.some.inj h1;exact⟨v,rfl,h2,hbl⟩
 ·rw[hb]at h
  cases h.1
section
variable {bf bt bp:Nat} {bd:Sts} {bm N:Nat} {up:Nat->Bool} {V:Pst} {T:Tr} {w:World} {I:Nat->Nat->World->Prop} {W:Nat->Prop} {fw:Nat} {cw:Array Value} {L:List Pc}
theorem MM (h:Fs bf bt bp bd bm N up V T w) {m:Int} (hm:w.cell? ⟨1,0,none⟩=some (.int .i64 m)) (beg:ByteArray) (hL:∀c∈L,c.Ok) (hps:Bd (pfx beg) beg 0 T.all=L.map Pc.pr) (hLl:L.length<=10000)
  (hW:∀b,W b->b<w.heap.size/\b≠1) (eg:∀args w,(callFunc fw args).run Tryz.prog w= .ok (.enter fw args) w)
  (hI:∀B wx,w.heap.size<=B->B<=wx.heap.size->Below w.heap.size w wx->I B 0 wx)
  (hc:∀B k (hk:k<L.length) v wr wx,w.heap.size<=B->B<=wr.heap.size->I B k wr->Below wr.heap.size wr wx->wx.ownsRow wr.heap.size 118 2 v L[k].l.length (plc L[k].l)->
    Calls Tryz.prog fw (#[.agg #[.string L[k].n,.string L[k].w,v]]++cw) wx fun e w'=>e= .returned (.tuple #[])/\I B (k+1) w'/\Aa (fun b=>W b\/B<=b) wx w'):
  Calls Tryz.prog 41 #[.pointer (some ⟨bf,0,none⟩),.string beg,.func (.func fw) #[] cw] w fun e w'=>e= .returned .nilIface/\(∃B,w.heap.size<=B/\I B L.length w')/\Aa W w w':=by
 have HC:Hid (Fs bf bt bp bd bm N up V T w):=h;have HPS:Hid _:=hps;have HL:Hid _:=hL;have HM:Hid _:=hm;have HW:Hid _:=hW;have HI:Hid _:=hI;have HCC:Hid _:=hc;have q0:=h.c.cell;clear h hps hL hm hW hI hc;go_enter Tryz.func41,Tryz.ntmps41;go_wp2_with fail;refine(ED _ HC.out.t HC.out.tw HC.out.a beg).mono ?_;rintro _ w2 ⟨v2,rfl,hr2,hb2⟩;rw[HPS.out]at hr2;obtain⟨a9,c9,hv9⟩:=Aj hr2;obtain⟨n,hn⟩:∃n,L.length=n:=⟨_,rfl⟩;have HN:Hid _:=hn;rw[List.length_map,hn]at hv9;rw[hn]at hLl;subst hv9;have HR:Hid (BU w.heap.size (.slice a9 n c9) (L.map Pc.pr) w2):=hr2;have HB:Hid (Below w.heap.size w w2):=hb2;have HM2:Hid (w2.cell? ⟨1,0,none⟩=some (.int .i64 m)):=Ae hb2 HM.out;have HI0:Hid (I w2.heap.size 0 w2):=HI.out w2.heap.size w2 hb2.size (Nat.le_refl _) hb2
 have HO:Hid (∀wx,Aa (fun b=>W b\/w2.heap.size<=b) w2 wx->wx.cell? ⟨1,0,none⟩=some (.int .i64 m)/\BU w.heap.size (.slice a9 n c9) (L.map Pc.pr) wx):=fun wx ho=>⟨by
   have hlt:=World.block_lt_of_cell? _ _ HM2.out
   rw[ho.cell hlt (fun e=>by rcases e with e|e;exact(HW.out _ e).2 rfl;exact absurd hlt (by simp only;omega)) 0];exact HM2.out,GQ HR.out ho (fun b e=>by
    have:=World.ownsRow.lt HR.out b e;rintro(e|e)
    ·have:=(HW.out _ e).1;omega
    ·omega)⟩
 clear hr2 hb2 q0 HC HPS hn HM HI;go_wp2_with fail;go_loopw [33] (fun i wr=>∃(k:Nat),k<=n/\i= .int .i64 (k:Nat)/\Hid (I w2.heap.size k wr)/\Hid (Aa (fun b=>W b\/w2.heap.size<=b) w2 wr)) (fun i _=>n+1-(intOf i).toNat)
 case atStart=>exact⟨0,Nat.zero_le _,rfl,HI0,Aa.refl _ _⟩
 case round=>
  obtain⟨k,hk,rfl,HIK,HBW⟩:=hrel
  by_cases hlt:k<n
  ·have h1:(k:Int)<(n:Int):=by omega
   have hkl:k<L.length:=by rw[HN.out];exact hlt
   obtain⟨hmw,hRw⟩:=HO.out wr HBW.out;obtain⟨g,hg,k1,k2,hix⟩:=hRw.at (i:=k) (by rw[List.length_map];exact hkl);rw[List.getElem_map]at k1 k2;have hok:=HL.out L[k] (List.getElem_mem hkl);have hws:=hok.w.le;have hns:=hok.n.le;have hnz:=hok.n.nz;have hwz:=hok.w.nz;obtain⟨c,hcc⟩:∃c,L[k]=c:=⟨_,rfl⟩
   have HCK:Hid (∀v wx,Below wr.heap.size wr wx->wx.ownsRow wr.heap.size 118 2 v c.l.length (plc c.l)->
    Calls Tryz.prog fw (#[.agg #[.string c.n,.string c.w,v]]++cw) wx fun e w'=>e= .returned (.tuple #[])/\I w2.heap.size (k+1) w'/\Aa (fun b=>W b\/w2.heap.size<=b) wx w'):=by
    intro v wx hb ho;have:=HCC.out w2.heap.size k hkl v wr wx HB.out.size HBW.out.size HIK.out hb (by rw[hcc];exact ho);rw[hcc]at this;exact this
   rw[hcc]at k1 k2 hok hws hwz hns hnz;unfold Pc.pr at k1 k2;simp only at k1 k2;have HRI:Hid _:=fun s e wx=>PD hok.right (by have:=hok.enc;have:=hok.len;omega) s e wx;obtain⟨kk,hkk⟩:∃kk,Bu c.n c.w c.r=kk:=⟨_,rfl⟩;obtain⟨ii,hii⟩:∃ii,(⟨(Ej c.l).toArray⟩:ByteArray)=ii:=⟨_,rfl⟩;obtain⟨mm,hmm⟩:∃mm,JU c.w c.r=mm:=⟨_,rfl⟩;have HMW:Hid (∀x y:ByteArray,(wr.alloc (.cells #[.string x,.string y] 126)).cell? ⟨1,0,none⟩=some (.int .i64 m)):=fun x y=>Ae ((Below.refl _ wr).alloc (Nat.le_refl _) _) hmw;have HCH:Hid _:=TL c.n c.w c.r hnz (by omega) (by omega) _ (HMW.out kk ii)
   have HCM:Hid (∀wx,wx.cell? ⟨1,0,none⟩=some (.int .i64 m)->Calls Tryz.prog 97 #[.string mm,.string ⟨#[0]⟩] wx fun e w'=>e= .returned (.tuple #[.string c.w,.string ⟨(Eu c.r).toArray⟩,.bool true])/\Below wx.heap.size wx w'):=by
    intro wx hx;rw[<-hmm];exact TK c.w c.r hwz (by omega) wx hx
   have HII:Hid _:=hii;rw[hkk,hmm]at HCH;rw[hkk]at k1;rw[hii]at k2;clear hRw hmw hkk hii hmm hcc hok hwz hnz;go_wp2_with fail;refine(show Calls _ _ _ _ _ from HCH.out).mono ?_;rintro _ w3 ⟨rfl,hb3⟩;have HBA:Hid (Below wr.heap.size wr (wr.alloc (.cells #[.string kk,.string ii] 126))):=(Below.refl _ wr).alloc (Nat.le_refl _) _;have HV3:Hid (Ac wr.heap.size [.string kk,.string ii] w3):=(Ac.new wr #[.string kk,.string ii] 126 (by simp)).below hb3;have HB3:Hid (Below wr.heap.size wr w3):=HBA.out.trans (hb3.mono HBA.out.size);have HM3:Hid (w3.cell? ⟨1,0,none⟩=some (.int .i64 m)):=Ae hb3 (HMW.out kk ii);clear hb3 HBA k1 k2 HCH;go_wp2_with fail;refine(show Calls _ _ _ _ _ from HCM.out w3 HM3.out).mono ?_;rintro _ w4 ⟨rfl,hb4⟩;have HV4:Hid (Ac wr.heap.size [.string kk,.string ii] w4):=HV3.out.below hb4;have HB4:Hid (Below wr.heap.size wr w4):=HB3.out.trans (hb4.mono HB3.out.size);have d1:=HV4.out.cell 1 (by simp);simp only[List.getElem_cons_zero,List.getElem_cons_succ]at d1;clear hb4;go_wp2_with fail;refine(show Calls _ _ _ _ _ from HRI.out ii HII.out w4).mono ?_;rintro _ w5 ⟨v5,rfl,hr5,hb5⟩;obtain⟨a5,c5,hv5⟩:=Aj hr5;obtain⟨n5,hn5⟩:∃n5,c.l.length=n5:=⟨_,rfl⟩;rw[hn5]at hv5;subst hv5;have HB5:Hid (Below wr.heap.size wr w5):=HB4.out.trans (hb5.mono HB4.out.size);have HR5:Hid (w5.ownsRow wr.heap.size 118 2 (.slice a5 n5 c5) c.l.length (plc c.l)):=AE hr5 HB4.out.size;clear hr5 hb5 d1 hn5;go_wp2_with fail;refine(show Calls _ _ _ _ _ from HCK.out (.slice a5 n5 c5) w5 HB5.out HR5.out).mono ?_;rintro _ w6 ⟨rfl,hi6,ho6⟩;have HI6:Hid (I w2.heap.size (k+1) w6):=hi6;have HO6:Hid (Aa (fun b=>W b\/w2.heap.size<=b) w2 w6):=(HBW.out.trans (Ab HB5.out _) (fun _ e=> .inl e)).trans ho6 (fun _ e=> .inl e);clear hi6 ho6;go_wp2_with fail;go_roundw
   case rel=>exact⟨k+1,by omega,by go_num,HI6,HO6⟩
   case measure=>simp[intOf];omega
  ·have h1:¬(k:Int)<(n:Int):=by omega
   obtain rfl:n=k:=by omega
   go_wp2;go_ret;refine⟨rfl,⟨w2.heap.size,HB.out.size,by rw[HN.out];exact HIK.out⟩,?_⟩;exact(Ab HB.out W).trans HBW.out (fun i e=>by rcases e with e|e;exact .inl e;exact .inr (Nat.le_trans HB.out.size e))
end
set_option maxHeartbeats 1000000
theorem Tp {B:Nat} {s n c:Nat} {nm wd:ByteArray} {a:Option Addr} (w:World) (h:Ai B (.int .i64 (s:Nat)) w) (hs:s<=1000000) (hn:n<=1000000):
  Calls Tryz.prog 42 #[.agg #[.string nm,.string wd,.slice a n c],.pointer (some ⟨B,0,none⟩)] w fun e w'=>e= .returned (.tuple #[])/\Ai B (.int .i64 ((s+n:Nat):Int)) w'/\Aa (fun b=>b=B) w w':=by
 have hlt:=h.lt;have hbB:Below w.heap.size w (w.alloc (.cells #[.string nm,.string wd,.slice a n c] 121)):=(Below.refl _ w).alloc (Nat.le_refl _) _;have HV:Hid (Ac w.heap.size [.string nm,.string wd,.slice a n c] (w.alloc (.cells #[.string nm,.string wd,.slice a n c] 121))):=Ac.new w #[.string nm,.string wd,.slice a n c] 121 (by simp);have HO:Hid (Ai B (.int .i64 (s:Nat)) (w.alloc (.cells #[.string nm,.string wd,.slice a n c] 121))):=h.below hbB;have HO0:Hid (Ai B (.int .i64 (s:Nat)) w):=h;have c0:=HO.out.cell;have c1:=HV.out.c3.2.2;have hwp:IntKind.i64.wrap ((s:Int)+(n:Int))=((s+n:Nat):Int):=by rw[Br _ (by omega) (by omega)];omega
 have hf0:=HO.out.free;clear h hbB;go_enter Tryz.func42,Tryz.ntmps42;go_wp2;go_end0;refine⟨rfl,?_,?_⟩
 ·rw[Int.natCast_add]
  exact(HO0.out.set _).below ((Below.refl _ _).alloc (Nat.le_refl _) _)
 ·exact(Aa.set B 0 _ _).trans (Ab ((Below.refl _ _).alloc (Nat.le_refl _) _) (fun _=>False)) (fun _ e=>e.elim)
section
variable {bf bt bp:Nat} {bd:Sts} {bm N:Nat} {up:Nat->Bool} {V:Pst} {T:Tr} {w:World} {L:List Pc}
theorem Tg (k:Nat) (x:ByteArray):pfx ⟨#[]⟩ k x=true:=by
 unfold pfx Lib.hasPrefix;rfl
theorem RG (h:Fs bf bt bp bd bm N up V T w) {m:Int} (hm:w.cell? ⟨1,0,none⟩=some (.int .i64 m)) (hL:∀c∈L,c.Ok) (hps:T.all=L.map Pc.pr) (hLl:L.length<=10000):
  Calls Tryz.prog 15 #[.pointer (some ⟨bf,0,none⟩)] w fun e w'=>e= .returned (.tuple #[.int .i64 (Dw L:Nat),.nilIface])/\Below w.heap.size w w':=by
 have hbB:Below w.heap.size w (w.alloc (.cells #[.int .i64 0] 3)):=(Below.refl _ w).alloc (Nat.le_refl _) _;have hO0:Ai w.heap.size (.int .i64 ((0:Nat):Int)) (w.alloc (.cells #[.int .i64 0] 3)):=Ai.new w _ _;have hmf:∀(fn:Fn) (first cap:Array Value) (w:World),(Instr.makeFunc fn first cap).run Tryz.prog w= .ok (.func fn first cap) w:=fun _ _ _ _=>rfl;have hcnt:=I2 hL
 have hwk:Bd (pfx ⟨#[]⟩) ⟨#[]⟩ 0 T.all=L.map Pc.pr:=by
  rw[IB ⟨#[]⟩ T.all 0 h.sorted,<-hps];exact List.filter_eq_self.2 (fun x _=>Tg 0 x.k)
 have hm2:1<w.heap.size:=World.block_lt_of_cell? _ _ hm
 have HLK:Hid (Calls Tryz.prog 41 #[.pointer (some ⟨bf,0,none⟩),.string ⟨#[]⟩,.func (.func 42) #[] #[.pointer (some ⟨w.heap.size,0,none⟩)]] (w.alloc (.cells #[.int .i64 0] 3)) fun e w'=>e= .returned .nilIface/\(∃B,(w.alloc (.cells #[.int .i64 0] 3)).heap.size<=B/\Ai w.heap.size (.int .i64 (Dw (L.take L.length):Nat)) w')/\Aa (fun b=>b=w.heap.size) (w.alloc (.cells #[.int .i64 0] 3)) w'):=by
  refine MM (I:=fun _ k wx=>Ai w.heap.size (.int .i64 (Dw (L.take k):Nat)) wx) (h.below hbB) (Ae hbB hm) ⟨#[]⟩ hL hwk hLl (fun b e=> ?_) (enters_of Tryz.func42 (by kernel_rfl) rfl) (fun B wx h1 h2 h3=>hO0.below h3) (fun B k hk v wr wx h1 h2 h3 h4 h5=> ?_)
  ·subst e;rw[World.size_alloc];exact⟨by omega,by omega⟩
  ·obtain⟨a5,c5,rfl⟩:=Aj h5
   have hc2:=I2 (L:=L.take k) (fun c hc=>hL c (List.mem_of_mem_take hc));rw[List.length_take]at hc2;have hl5:=(hL L[k] (List.getElem_mem hk)).len;refine(Tp wx (h3.below h4) (by omega) (by omega)).mono ?_;rintro e w' ⟨rfl,g1,g2⟩;refine⟨rfl,?_,g2.mono (fun _ e=> .inl e)⟩;show Ai _ _ _;rw[QA hk];exact g1
 have HB:Hid _:=hbB;clear hbB hO0 hm hL hps hwk h;rw[List.take_length]at HLK;go_enter Tryz.func15,Tryz.ntmps15;go_wp2_with fail;refine(show Calls _ _ _ _ _ from HLK.out).mono ?_;rintro _ w2 ⟨rfl,⟨B,_,hO⟩,ho⟩;have HB2:Hid (Below w.heap.size w w2):=Aa.below HB.out ho (by rw[World.size_alloc];omega) (fun b e=>by omega);have c0:=hO.cell;clear hO ho;go_wp2;go_ret2;exact⟨rfl,HB2.out⟩
end
def Cr (nm wd:ByteArray):List Pc->List Pl
 | []=>[]
 |c::l=>if c.n=nm/\c.w=wd then c.l++Cr nm wd l else Cr nm wd l
theorem Hs (nm wd:ByteArray):∀(a b:List Pc),Cr nm wd (a++b)=Cr nm wd a++Cr nm wd b
 | [],b=>by simp[Cr]
 |c::a,b=>by
  rw[List.cons_append,Cr,Cr,Hs nm wd a b];split
  ·rw[List.append_assoc]
  ·rfl
theorem K4 (nm wd:ByteArray) {L:List Pc} {k:Nat} (hk:k<L.length):Cr nm wd (L.take (k+1))=Cr nm wd (L.take k)++(if L[k].n=nm/\L[k].w=wd then L[k].l else []):=by
 rw[List.take_succ_eq_append_getElem hk,Hs];congr 1;simp only[Cr];split<;>simp
theorem Gy (nm wd:ByteArray):∀(L:List Pc),(Cr nm wd L).length<=Dw L
 | []=>by simp[Cr]
 |c::l=>by
  have:=Gy nm wd l;unfold Cr Dw;split
  ·rw[List.length_append];omega
  ·omega
theorem OB {a b:ByteArray} (h:¬a=b):(a.toList == b.toList)=false:=by
 rw[beq_eq_false_iff_ne,ByteArray.toList_eq,ByteArray.toList_eq];exact fun e=>h (SB e)
def PlV (B C:Nat) (xs:List Pl) (w:World):Prop:=∃v,Ai C v w/\w.ownsRow B 118 2 v xs.length (plc xs)
theorem PK {Bn Bw Bl:Nat} {n c:Nat} {nm wd wc:ByteArray} {a:Option Addr} (w:World) (h1:Ai Bn (.string nm) w) (h2:Ai Bw (.string wd) w) (hne:¬wc=wd):
  Calls Tryz.prog 95 #[.agg #[.string nm,.string wc,.slice a n c],.pointer (some ⟨Bn,0,none⟩),.pointer (some ⟨Bw,0,none⟩),.pointer (some ⟨Bl,0,none⟩)] w fun e w'=>e= .returned (.tuple #[])/\Below w.heap.size w w':=by
 have hbB:Below w.heap.size w (w.alloc (.cells #[.string nm,.string wc,.slice a n c] 121)):=(Below.refl _ w).alloc (Nat.le_refl _) _;have HV:Hid (Ac w.heap.size [.string nm,.string wc,.slice a n c] (w.alloc (.cells #[.string nm,.string wc,.slice a n c] 121))):=Ac.new w #[.string nm,.string wc,.slice a n c] 121 (by simp);have c0:=(h1.below hbB).cell;have c1:=(h2.below hbB).cell;have d0:=HV.out.c3.1;have d1:=HV.out.c3.2.1;have l1:=h1.lt;have l2:=h2.lt;have HB:Hid _:=hbB;have hq:=OB hne;clear h1 h2 hbB;go_enter Tryz.func95,Tryz.ntmps95;go_wp2;go_end0;exact⟨rfl,HB.out⟩
theorem NJ {Bn Bw Bl:Nat} {n c:Nat} {nm nc wd wc:ByteArray} {a:Option Addr} (w:World) (h1:Ai Bn (.string nm) w) (h2:Ai Bw (.string wd) w) (hne:¬nc=nm):
  Calls Tryz.prog 95 #[.agg #[.string nc,.string wc,.slice a n c],.pointer (some ⟨Bn,0,none⟩),.pointer (some ⟨Bw,0,none⟩),.pointer (some ⟨Bl,0,none⟩)] w fun e w'=>e= .returned (.tuple #[])/\Below w.heap.size w w':=by
 have hbB:Below w.heap.size w (w.alloc (.cells #[.string nc,.string wc,.slice a n c] 121)):=(Below.refl _ w).alloc (Nat.le_refl _) _;have HV:Hid (Ac w.heap.size [.string nc,.string wc,.slice a n c] (w.alloc (.cells #[.string nc,.string wc,.slice a n c] 121))):=Ac.new w #[.string nc,.string wc,.slice a n c] 121 (by simp);have c0:=(h1.below hbB).cell;have c1:=(h2.below hbB).cell;have d0:=HV.out.c3.1;have d1:=HV.out.c3.2.1;have l1:=h1.lt;have l2:=h2.lt;have HB:Hid _:=hbB;have hq:=OB hne;clear h1 h2 hbB;go_enter Tryz.func95,Tryz.ntmps95;go_wp2;go_end0;exact⟨rfl,HB.out⟩
theorem NI {B Bn Bw Bl B5:Nat} {nm wd:ByteArray} {v:Value} {xs ys:List Pl} (w:World) (h1:Ai Bn (.string nm) w) (h2:Ai Bw (.string wd) w) (h3:PlV B Bl xs w) (hlB:Bl<B) (hv:w.ownsRow B5 118 2 v ys.length (plc ys)) (hpos:0<ys.length) (hl:xs.length+ys.length<=1000000) (hB2:B<=w.heap.size):
  Calls Tryz.prog 95 #[.agg #[.string nm,.string wd,v],.pointer (some ⟨Bn,0,none⟩),.pointer (some ⟨Bw,0,none⟩),.pointer (some ⟨Bl,0,none⟩)] w fun e w'=>e= .returned (.tuple #[])/\PlV B Bl (xs++ys) w'/\Aa (fun b=>b=Bl\/B<=b) w w':=by
 obtain⟨u,u1,u2⟩:=h3;obtain⟨i0,hi0,hz0,hz1,hz2⟩:=CC Oc;obtain⟨n,hn⟩:∃n,ys.length=n:=⟨_,rfl⟩;have HN:Hid _:=hn;rw[hn]at hv hpos hl;obtain⟨g5,cap5,rfl,k1,k2⟩:=World.ownsRow.form hv hpos;have hbB:Below w.heap.size w (w.alloc (.cells #[.string nm,.string wd,.slice (some ⟨g5,0,none⟩) n cap5] 121)):=(Below.refl _ w).alloc (Nat.le_refl _) _;have HV:Hid (Ac w.heap.size [.string nm,.string wd,.slice (some ⟨g5,0,none⟩) n cap5] (w.alloc (.cells #[.string nm,.string wd,.slice (some ⟨g5,0,none⟩) n cap5] 121))):=Ac.new w #[.string nm,.string wd,.slice (some ⟨g5,0,none⟩) n cap5] 121 (by simp);have HU1:Hid (Ai Bl u (w.alloc (.cells #[.string nm,.string wd,.slice (some ⟨g5,0,none⟩) n cap5] 121))):=u1.below hbB;have HU2:Hid ((w.alloc (.cells #[.string nm,.string wd,.slice (some ⟨g5,0,none⟩) n cap5] 121)).ownsRow B 118 2 u xs.length (plc xs)):=Ag u2 hbB;have HS:Hid ((w.alloc (.cells #[.string nm,.string wd,.slice (some ⟨g5,0,none⟩) n cap5] 121)).ownsRow B5 118 2 (.slice (some ⟨g5,0,none⟩) n cap5) n (plc ys)):=Ag hv hbB;have c0:=(h1.below hbB).cell;have c1:=(h2.below hbB).cell;have c2:=HU1.out.cell;have d0:=HV.out.c3.1;have d1:=HV.out.c3.2.1;have d2:=HV.out.c3.2.2;have l1:=h1.lt;have l2:=h2.lt;have l3:=u1.lt;have HB:Hid _:=hbB;clear h1 h2 hbB u1 u2 hv hn;go_enter Tryz.func95,Tryz.ntmps95
 go_wp2_with (at_builtin;refine wpList_append_lies _ rfl _ _ 114 rfl B 118 i0 (.agg #[.int .i64 0,.int .i64 0]) 2 16 Tryz.underlying114 hi0 hz0 hz1 hz2 rfl (by decide) _ _ _ rfl HU2.out ⟨g5,0,none⟩ n cap5 (plc ys) rfl (by rw[NH,HN.out]) (fun j u hu=>HS.out.cells rfl j u hu) (OJ ys) hpos (by simp only[maxLen];omega) (by omega) (by rw[World.size_alloc];omega) _ rfl ?_;intro g' cap' w' hO hG hat hlt';have hU9:Ai Bl u w':=HU1.out.block (hG.block Bl HU1.out.lt (fun e=>by have:=(World.ownsRow.lt HU2.out Bl e.symm).1;omega));have f9:=hU9.free;have c9:=hU9.cell)
 go_end0;refine⟨rfl,⟨_,hU9.set _,?_⟩,?_⟩
 ·rw[List.length_append,HN.out,FQ]
  exact Lu hO (by omega)
 ·have e1:Aa (fun b=>b=Bl\/B<=b) w w':=(Ab HB.out _).trans (By (S:=fun b=>b=Bl\/B<=b) hG (fun k e=> .inr (World.ownsRow.lt HU2.out k e).1)) (fun _ e=> .inl e)
  exact e1.trans (Aa.set Bl 0 _ _) (fun _ e=> .inl (.inl e))
def Ge (nm wd:ByteArray):ByteArray:=DC nm wd++⟨#[0]⟩
theorem S8 (c:Pc):pfx (Ge c.n c.w) 0 c.pr.k=true:=by
 unfold pfx Lib.hasPrefix;refine List.isPrefixOf_iff_prefix.2 ⟨Eu c.r,?_⟩;show(Ge c.n c.w).data.toList++Eu c.r=(Bu c.n c.w c.r).data.toList;rw[F2];simp[Ge,DC]
theorem Ed (nm wd:ByteArray):∀(L:List Pc),Cr nm wd (L.filter (fun c=>pfx (Ge nm wd) 0 c.pr.k))=Cr nm wd L
 | []=>rfl
 |c::l=>by
  rw[List.filter_cons]
  by_cases h:c.n=nm/\c.w=wd
  ·have hb:pfx (Ge nm wd) 0 c.pr.k=true:=by rw[<-h.1,<-h.2];exact S8 c
   rw[hb,if_pos rfl,Cr,Cr,if_pos h,if_pos h,Ed nm wd l]
  ·rw[Cr,if_neg h]
   split
   ·rw[Cr,if_neg h,Ed nm wd l]
   ·exact Ed nm wd l
section
variable {bf bt bp:Nat} {bd:Sts} {bm N:Nat} {up:Nat->Bool} {V:Pst} {T:Tr} {w:World} {L:List Pc}
theorem NK (h:Fs bf bt bp bd bm N up V T w) {m:Int} (hm:w.cell? ⟨1,0,none⟩=some (.int .i64 m)) (hL:∀c∈L,c.Ok) (hps:T.all=L.map Pc.pr) (hLl:L.length<=10000) (nm wd:ByteArray) (hnm:nm.size<=100) (hwd:wd.size<=100):
  Calls Tryz.prog 39 #[.pointer (some ⟨bf,0,none⟩),.string nm,.string wd] w fun e w'=>∃v,e= .returned (.tuple #[v,.nilIface])/\w'.ownsRow w.heap.size 118 2 v (Cr nm wd L).length (plc (Cr nm wd L))/\Below w.heap.size w w':=by
 obtain⟨w0,hw0⟩:∃w0,((w.alloc (.cells #[.string nm] 9)).alloc (.cells #[.string wd] 9)).alloc (.cells #[.slice none 0 0] 114)=w0:=⟨_,rfl⟩;have hbB:Below w.heap.size w w0:=by rw[<-hw0];exact(((Below.refl _ w).alloc (Nat.le_refl _) _).alloc (by simp) _).alloc (by simp only[World.size_alloc];omega) _
 have hsz:w0.heap.size=w.heap.size+3:=by rw[<-hw0];simp
 have o1:Ai w.heap.size (.string nm) w0:=by
  rw[<-hw0];exact((Ai.new w (.string nm) 9).below ((Below.refl _ _).alloc (Nat.le_refl _) _)).below ((Below.refl _ _).alloc (Nat.le_refl _) _)
 have o2:Ai (w.heap.size+1) (.string wd) w0:=by
  rw[<-hw0];have:=Ai.new (w.alloc (.cells #[.string nm] 9)) (.string wd) 9;rw[World.size_alloc]at this;exact this.below ((Below.refl _ _).alloc (Nat.le_refl _) _)
 have o3:Ai (w.heap.size+2) (.slice none 0 0) w0:=by
  rw[<-hw0];have:=Ai.new ((w.alloc (.cells #[.string nm] 9)).alloc (.cells #[.string wd] 9)) (.slice none 0 0) 114;rw[World.size_alloc,World.size_alloc]at this;exact this
 have hmf:∀(fn:Fn) (first cap:Array Value) (w:World),(Instr.makeFunc fn first cap).run Tryz.prog w= .ok (.func fn first cap) w:=fun _ _ _ _=>rfl;have hm2:1<w.heap.size:=World.block_lt_of_cell? _ _ hm
 have hwk:Bd (pfx (Ge nm wd)) (Ge nm wd) 0 T.all=(L.filter (fun c=>pfx (Ge nm wd) 0 c.pr.k)).map Pc.pr:=by
  rw[IB (Ge nm wd) T.all 0 h.sorted,hps,List.filter_map];rfl
 have hpf:=Ed nm wd L;have hcnt:=I2 hL;have hlen:=Gy nm wd L;have hLf:∀c∈L.filter (fun c=>pfx (Ge nm wd) 0 c.pr.k),c.Ok:=fun c hc=>hL c ((List.mem_filter.1 hc).1);have hLfl:(L.filter (fun c=>pfx (Ge nm wd) 0 c.pr.k)).length<=10000:=Nat.le_trans (List.length_filter_le _ _) hLl;generalize L.filter (fun c=>pfx (Ge nm wd) 0 c.pr.k)=L' at *
 have HLK:Hid (Calls Tryz.prog 41 #[.pointer (some ⟨bf,0,none⟩),.string (Ge nm wd),.func (.func 95) #[] #[.pointer (some ⟨w.heap.size,0,none⟩),.pointer (some ⟨w.heap.size+1,0,none⟩),.pointer (some ⟨w.heap.size+2,0,none⟩)]] w0 fun e w'=>e= .returned .nilIface/\(∃B,w0.heap.size<=B/\(Ai w.heap.size (.string nm) w'/\Ai (w.heap.size+1) (.string wd) w'/\PlV B (w.heap.size+2) (Cr nm wd (L'.take L'.length)) w'))/\Aa (fun b=>b=w.heap.size+2) w0 w'):=by
  refine MM (I:=fun B k wx=>Ai w.heap.size (.string nm) wx/\Ai (w.heap.size+1) (.string wd) wx/\PlV B (w.heap.size+2) (Cr nm wd (L'.take k)) wx) (h.below hbB) (Ae hbB hm) (Ge nm wd) hLf hwk hLfl (fun b e=> ?_) (enters_of Tryz.func95 (by kernel_rfl) rfl) (fun B wx h1 h2 h3=>⟨o1.below h3,o2.below h3,_,o3.below h3,World.ownsRow_nil _ _ _ _⟩) (fun B k hk v wr wx h1 h2 h3 h4 h5=> ?_)
  ·subst e;exact⟨by omega,by omega⟩
  ·obtain⟨j1,j2,v3,j3,j4⟩:=h3
   have hok:=hLf L'[k] (List.getElem_mem hk);have hsb:=h4.size
   have hlk:(Cr nm wd (L'.take k)).length<=200000:=by
    have a1:=Gy nm wd (L'.take k);have a2:=I2 (L:=L'.take k) (fun c hc=>hLf c (List.mem_of_mem_take hc));rw[List.length_take]at a2;omega
   by_cases hw:L'[k].n=nm/\L'[k].w=wd
   ·refine(show Calls _ _ _ _ _ from ?_).mono (fun e w' hh=>hh)
    have hl20:=hok.len;have:=NI (Bl:=w.heap.size+2) wx (j1.below h4) (j2.below h4) ⟨v3,j3.below h4,Ag j4 h4⟩ (by omega) h5 hok.pos (by omega) (by omega);rw[hw.1,hw.2];refine this.mono ?_;rintro e w' ⟨rfl,g1,g2⟩;refine⟨rfl,⟨(j1.below h4).only g2 (by omega),(j2.below h4).only g2 (by omega),?_⟩,g2.mono (fun _ e=>e)⟩;rw[K4 nm wd hk,if_pos hw];exact g1
   ·obtain⟨a5,c5,rfl⟩:=Aj h5
    refine(show Calls _ _ _ _ (fun e w'=>e= .returned (.tuple #[])/\Below wx.heap.size wx w')from by
     by_cases hn:L'[k].n=nm
     ·rw[hn];exact PK (Bl:=w.heap.size+2) wx (j1.below h4) (j2.below h4) (fun e=>hw ⟨hn,e⟩)
     ·exact NJ (Bl:=w.heap.size+2) wx (j1.below h4) (j2.below h4) hn).mono ?_
    rintro e w' ⟨rfl,g1⟩;refine⟨rfl,⟨(j1.below h4).below g1,(j2.below h4).below g1,?_⟩,Ab g1 _⟩;rw[K4 nm wd hk,if_neg hw,List.append_nil];exact⟨v3,(j3.below h4).below g1,Ag (Ag j4 h4) g1⟩
 have HB:Hid _:=hbB;have HSZ:Hid _:=hsz;rw[List.take_length,hpf]at HLK;have c1:=o1.cell;have c2:=o2.cell;have hadd:=Dk (DC nm wd) ⟨#[0]⟩ (by rw[Ec];show nm.size+1+wd.size+1<=_;omega);have HSA:Hid _:=IL nm wd (by omega) (by omega);rw[show DC nm wd++⟨#[0]⟩=Ge nm wd from rfl]at hadd;clear hbB o1 o2 o3 hm hL hps hwk h hpf hcnt hlen hLf hLfl hsz;go_enter Tryz.func39,Tryz.ntmps39;go_wp2_with fail;refine(show Calls _ _ _ _ _ from HSA.out w0).mono ?_;rintro _ w9 ⟨rfl,h9⟩;obtain rfl:=h9.symm;clear h9;go_wp2_with fail;refine(show Calls _ _ _ _ _ from HLK.out).mono ?_;rintro _ w2 ⟨rfl,⟨B,hB0,_,_,v,hO,hR⟩,ho⟩;have HB2:Hid (Below w.heap.size w w2):=Aa.below HB.out ho HB.out.size (fun b e=>by omega);have HR:Hid (w2.ownsRow w.heap.size 118 2 v (Cr nm wd L).length (plc (Cr nm wd L))):=AE hR (by have:=HSZ.out;omega);have c0:w2.cell? ⟨w.heap.size+1+1,0,none⟩=some v:=hO.cell;clear hO ho hR;go_wp2;go_ret2;exact⟨_,rfl,HR.out,HB2.out⟩
end
end
end Go.Proofs.YtihnldkgeelehaaGreatDoor
