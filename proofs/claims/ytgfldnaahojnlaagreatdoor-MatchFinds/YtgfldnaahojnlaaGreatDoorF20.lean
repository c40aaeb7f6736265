/- MatchFinds: part 20. -/
import Derived.Test.YtgfldnaahojnlaaGreatDoorF17
import Derived.Test.YtgfldnaahojnlaaGreatDoorF19
set_option maxRecDepth 100000
set_option maxHeartbeats 4000000
namespace Go.Proofs.YtgfldnaahojnlaaGreatDoor
section
open Go.RowKit Go.Maps
structure WOk (w:ByteArray):Prop where
 nz:(0:UInt8)∉w.data.toList
 pos:1<=w.size
 le:w.size<=12
theorem XU {c:UInt8} (h:isL c=true):c≠0:=fun e=>by rw[e]at h;revert h;decide
theorem XP {c:UInt8} (h:c≠0):low c≠0:=fun e=>by
 have h1:=Q7 c;rw[e]at h1;have h2:c.toNat≠0:=fun e2=>h (UInt8.toNat_inj.1 (by rw[e2];rfl));unfold EK at h1;have h0:(0:UInt8).toNat=0:=rfl;rw[h0]at h1;split at h1<;>omega
theorem Mf:∀(l cur:List UInt8),(∀c∈cur,isL c=true)->∀r∈Eb cur l,r≠[]/\∀c∈r,isL c=true
 | [],cur,hc,r,hr=>by
   unfold Eb at hr
   cases cur with
   |nil=>simp at hr
   |cons a b=>simp at hr;subst hr;exact⟨by simp,hc⟩
 |c::l,cur,hc,r,hr=>by
  unfold Eb at hr
  cases h:isL c
  ·rw[h]at hr
   simp only[Bool.false_eq_true,if_false]at hr;rcases List.mem_append.1 hr with hr|hr
   ·cases cur with
    |nil=>simp at hr
    |cons a b=>simp at hr;subst hr;exact⟨by simp,hc⟩
   ·exact Mf l [] (by simp) r hr
  ·rw[h,if_pos rfl]at hr
   refine Mf l (cur++[c]) (fun x hx=> ?_) r hr;rcases List.mem_append.1 hx with hx|hx
   ·exact hc x hx
   ·obtain rfl:=List.mem_singleton.1 hx;exact h
theorem GW:∀(l cur:List UInt8),2 * (Eb cur l).length<=l.length+(if cur=[]then 1 else 2)
 | [],cur=>by
   unfold Eb
   cases cur<;>simp
 |c::l,cur=>by
  unfold Eb
  cases h:isL c
  ·have ih:=GW l []
   rw[if_pos rfl]at ih;simp only[Bool.false_eq_true,if_false,List.length_append,List.length_cons]
   cases cur with
   |nil=>simp;omega
   |cons a b=>simp;omega
  ·have ih:=GW l (cur++[c])
   rw[if_neg (by simp)]at ih;rw[if_pos rfl,List.length_cons];split<;>omega
theorem MV (s:ByteArray):2 * (Ad s.data.toList).length<=s.size+1:=by
 have:=GW s.data.toList [];rw[if_pos rfl,Array.length_toList]at this;unfold Ad;rw[List.length_map];exact this
theorem Qp:∀(t:List (ByteArray×ByteArray)) (s:ByteArray),(∀x∈t,(0:UInt8)∉x.2.data.toList)->(0:UInt8)∉s.data.toList->1<=s.size->(0:UInt8)∉(AW t s).data.toList/\1<=(AW t s).size
 | [],s,_,h0,h1=>⟨h0,h1⟩
 |(e,r)::t,s,ht,h0,h1=>by
  unfold AW;split
  ·split
   ·rename_i h3
    constructor
    ·rw[ByteArray.data_append,Array.toList_append]
     intro hm;rcases List.mem_append.1 hm with hm|hm
     ·rw[ByteArray.data_extract,Array.toList_extract,List.extract_eq_take_drop]at hm
      exact h0 (List.mem_of_mem_drop (List.mem_of_mem_take hm))
     ·exact ht (e,r) (by simp) hm
    ·rw[ByteArray.size_append,ByteArray.size_extract];omega
   ·exact⟨h0,h1⟩
  ·exact Qp t s (fun x hx=>ht x (by simp[hx])) h0 h1
theorem LU {l:List UInt8} {w:ByteArray} (h:w∈Ad l):WOk w:=by
 unfold Ad at h;obtain⟨r,hr,rfl⟩:=List.mem_map.1 h;obtain⟨hne,hl⟩:=Mf l [] (by simp) r hr
 have h0:(0:UInt8)∉((Aw r).take 12):=fun hm=>by
  obtain⟨c,hc,e⟩:=List.mem_map.1 (List.mem_of_mem_take hm);exact XP (XU (hl c hc)) e
 have h1:1<=(⟨((Aw r).take 12).toArray⟩:ByteArray).size:=by
  show 1<=((Aw r).take 12).toArray.size;rw[List.size_toArray,List.length_take];unfold Aw;rw[List.length_map];have:0<r.length:=List.length_pos_iff.2 hne;omega
 obtain⟨g1,g2⟩:=Qp B6 ⟨((Aw r).take 12).toArray⟩ (by decide) (by simpa using h0) h1;exact⟨g1,g2,Ri r⟩
theorem Nr {r:Nat} (h:r<4294967296):(B7 ((r:Int) / 16777216)).toNat=r / 16777216/\(B7 ((r:Int) / 65536)).toNat=r / 65536 % 256/\(B7 ((r:Int) / 256)).toNat=r / 256 % 256/\(B7 (r:Int)).toNat=r % 256:=by
 have a:=BB ((r:Int) / 16777216);have b:=BB ((r:Int) / 65536);have c:=BB ((r:Int) / 256);have d:=BB (r:Int);rw[LS]at a b c d;omega
theorem VZ {r s:Nat} (h:r<s) (hs:s<4294967296):Fd r<Fd s:=by
 obtain⟨a0,a1,a2,a3⟩:=Nr (show r<4294967296 by omega);obtain⟨b0,b1,b2,b3⟩:=Nr hs;unfold Fd;rw[List.cons_lt_cons_iff,List.cons_lt_cons_iff,List.cons_lt_cons_iff,List.cons_lt_cons_iff];simp only[UInt8.lt_iff_toNat_lt,<-UInt8.toNat_inj,a0,a1,a2,a3,b0,b1,b2,b3];omega
structure Qh (n:ByteArray):Prop where
 nz:(0:UInt8)∉n.data.toList
 pos:1<=n.size
 le:n.size<=16
theorem Pv {nm:ByteArray} (h:DL nm=false):Qh nm:=by
 unfold DL at h;simp only[Bool.or_eq_false_iff,decide_eq_false_iff_not]at h;exact⟨h.2,by omega,by omega⟩
theorem MI {nm:ByteArray} {r:Int} (h:CV nm r=0):Qh nm/\1<=r/\r<=1073741824:=by
 unfold CV at h;split at h
 ·cases h
 ·split at h
  ·cases h
  ·rename_i h1 h2
   exact⟨Pv (by simpa using h1),by omega,by omega⟩
theorem Ek {n n' w w':ByteArray} {r r':Nat} (hn':(0:UInt8)∉n'.data.toList) (hw':(0:UInt8)∉w'.data.toList) (hr':r'<4294967296) (h:bl n n'=true\/(n=n'/\(bl w w'=true\/(w=w'/\r<r')))):bl (CM n w r) (CM n' w' r')=true:=by
 rw[Eg,Fq,Fq];rcases h with h|⟨rfl,h⟩
 ·exact Mz _ _ ((Eg _ _).1 h) hn' _ _
 ·rw[show n.data.toList++0::(w.data.toList++0::Fd r)=(n.data.toList++[0])++(w.data.toList++0::Fd r) by simp,show n.data.toList++0::(w'.data.toList++0::Fd r')=(n.data.toList++[0])++(w'.data.toList++0::Fd r') by simp]
  refine IP _ _ _ ?_;rcases h with h|⟨rfl,h⟩
  ·exact Mz _ _ ((Eg _ _).1 h) hw' _ _
  ·refine IP _ _ _ ?_
   rw[List.cons_lt_cons_iff];exact .inr ⟨rfl,VZ h hr'⟩
theorem NZ {n n' w w':ByteArray} {r r':Nat} (hn:(0:UInt8)∉n.data.toList) (hw:(0:UInt8)∉w.data.toList) (hr:r<4294967296) (hn':(0:UInt8)∉n'.data.toList) (hw':(0:UInt8)∉w'.data.toList) (hr':r'<4294967296) (h:CM n w r=CM n' w' r'):n=n'/\w=w'/\r=r':=by
 have no:∀ {a b:ByteArray},bl a b=true->a=b->False:=fun h1 h2=>by rw[h2,AM]at h1;cases h1
 rcases Gn n n' with h1|h1|h1
 ·exact(no (Ek (w:=w) (r:=r) hn' hw' hr' (.inl h1)) h).elim
 ·refine⟨h1,?_⟩
  rcases Gn w w' with h2|h2|h2
  ·exact(no (Ek (r:=r) hn' hw' hr' (.inr ⟨h1,.inl h2⟩)) h).elim
  ·refine⟨h2,?_⟩
   rcases Nat.lt_trichotomy r r' with h3|h3|h3
   ·exact(no (Ek hn' hw' hr' (.inr ⟨h1,.inr ⟨h2,h3⟩⟩)) h).elim
   ·exact h3
   ·exact(no (Ek hn hw hr (.inr ⟨h1.symm,.inr ⟨h2.symm,h3⟩⟩)) h.symm).elim
  ·exact(no (Ek (r:=r') hn hw hr (.inr ⟨h1.symm,.inl h2⟩)) h.symm).elim
 ·exact(no (Ek (w:=w') (r:=r') hn hw hr (.inl h1)) h.symm).elim
def AU (r:Nat):Nat->List ByteArray->ByteArray->List Pl
 |_,[],_=>[]
 |i,x::t,w=>if x=w then⟨(r:Int),(i:Int)⟩::AU r (i+1) t w else AU r (i+1) t w
structure Ris (r:Nat) (l:List Pl):Prop where
 row:∀q∈l,q.r=(r:Int)/\0<=q.a/\q.a<20
 ri:l.Pairwise (fun x y=>x.a<y.a)
theorem Ris.tail {r:Nat} {q:Pl} {l:List Pl} (h:Ris r (q::l)):Ris r l:=⟨fun x hx=>h.row x (by simp[hx]),(List.pairwise_cons.1 h.ri).2⟩
theorem JE {r:Nat} (hr:1<=r) (hr2:r<=1073741824):∀(l:List Pl) (p:Pl),Ris r l->((p.r=(r:Int)/\∀q∈l,p.a<q.a)\/(0<=p.r/\p.r<(r:Int)))->Al p l=true
 | [],_,_,_=>rfl
 |q::l,p,h,hp=>by
  obtain⟨q1,q2,q3⟩:=h.row q (by simp);rw[Al,Bool.and_eq_true];refine⟨?_,JE hr hr2 l q h.tail (.inl ⟨q1,(List.pairwise_cons.1 h.ri).1⟩)⟩;unfold CT okB BO Io;simp only[Bool.and_eq_true,decide_eq_true_eq];refine⟨⟨⟨⟨by omega,by omega⟩,by omega⟩,by omega⟩,?_⟩;rcases hp with⟨h1,h2⟩|⟨h1,h2⟩
  ·rw[if_pos (by rw[h1,q1]),if_pos (h2 q (by simp))];decide
  ·rw[if_neg (by omega),if_pos (by omega)];decide
theorem Ris.right {r:Nat} {l:List Pl} (h:Ris r l) (hr:1<=r) (hr2:r<=1073741824):DB l=true:=
 JE hr hr2 l ⟨0,0⟩ h (.inr ⟨by decide,by show(0:Int)<(r:Int);omega⟩)
theorem Qw {r:Nat}:∀(l:List Pl) (lo:Int),Ris r l->(∀q∈l,lo<=q.a)->(l.length:Int)<=20-lo\/l=[]
 | [],_,_,_=> .inr rfl
 |q::l,lo,h,hlo=>by
  have h1:=hlo q (by simp);obtain⟨_,_,h3⟩:=h.row q (by simp)
  left
  rcases Qw l (lo+1) h.tail (fun x hx=>by have:=(List.pairwise_cons.1 h.ri).1 x hx;omega)with h2|rfl
  ·rw[List.length_cons];omega
  ·simp;omega
theorem Ris.len {r:Nat} {l:List Pl} (h:Ris r l):l.length<=20:=by
 rcases Qw l 0 h (fun q hq=>(h.row q hq).2.1)with h1|rfl
 ·omega
 ·simp
theorem Y1 {n:Nat} (h:n<128):(Bv n).length=1:=by rw[E7 h];rfl
theorem Nt {r:Nat}:∀(l:List Pl) (p:Pl),Ris r l->p.r=(r:Int)->0<=p.a->(∀q∈l,p.a<q.a)->(Bd p l).length<=l.length
 | [],_,_,_,_,_=>Nat.le_refl _
 |q::l,p,h,h1,h2,h3=>by
  obtain⟨q1,q2,q3⟩:=h.row q (by simp);have ih:=Nt l q h.tail q1 q2 (List.pairwise_cons.1 h.ri).1;have hq:=h3 q (by simp);rw[Bd,List.length_append,List.length_cons]
  have:(Gi p q).length=1:=by
   unfold Gi;rw[if_pos (by rw[q1,h1])];exact Y1 (by omega)
  omega
theorem Ris.enc {r:Nat} {l:List Pl} (h:Ris r l) (hr:1<=r) (hr2:r<=1073741824):(EZ l).length<=l.length+5:=by
 unfold EZ
 cases l with
 |nil=>simp[Bd]
 |cons q l=>
  obtain⟨q1,q2,q3⟩:=h.row q (by simp);have ih:=Nt l q h.tail q1 q2 (List.pairwise_cons.1 h.ri).1;rw[Bd,List.length_append,List.length_cons]
  have:(Gi ⟨0,0⟩ q).length<=6:=by
   unfold Gi;rw[if_neg (by show ¬q.r=0;omega),List.length_append];have h1:(Bv q.a.toNat).length=1:=Y1 (by omega);have h2:=FZ 4 (2 * (q.r-0)+1).toNat (by omega);show(Bv (2 * (q.r-0)+1).toNat).length+(Bv q.a.toNat).length<=6;omega
  omega
theorem N9 (r:Nat):∀(ws:List ByteArray) (i:Nat) (w:ByteArray) (x:Pl),x∈AU r i ws w->∃j,ws[j]? =some w/\x=⟨(r:Int),((i+j:Nat):Int)⟩
 | [],_,_,_,h=>by cases h
 |y::t,i,w,x,h=>by
  unfold AU at h
  have go:x∈AU r (i+1) t w->∃j,(y::t)[j]? =some w/\x=⟨(r:Int),((i+j:Nat):Int)⟩:=fun h=>by
   obtain⟨j,h1,h2⟩:=N9 r t (i+1) w x h;exact⟨j+1,h1,by rw[h2];congr 2;omega⟩
  by_cases e:y=w
  ·rw[if_pos e]at h
   rcases List.mem_cons.1 h with h|h
   ·exact⟨0,by rw[<-e];rfl,h⟩
   ·exact go h
  ·rw[if_neg e]at h
   exact go h
theorem N7 (r:Nat):∀(ws:List ByteArray) (i:Nat) (w:ByteArray),i+ws.length<=20->Ris r (AU r i ws w)
 | [],_,_,_=>⟨fun q h=>(by cases h),List.Pairwise.nil⟩
 |y::t,i,w,hi=>by
  simp only[List.length_cons]at hi;have ih:=N7 r t (i+1) w (by omega);unfold AU;split
  ·refine⟨fun q hq=> ?_,List.Pairwise.cons (fun x hx=> ?_) ih.ri⟩
   ·rcases List.mem_cons.1 hq with rfl|hq
    ·exact⟨rfl,by show(0:Int)<=(i:Int);omega,by show(i:Int)<20;omega⟩
    ·exact ih.row q hq
   ·obtain⟨j,_,e⟩:=N9 r t (i+1) w x hx
    rw[e];show(i:Int)<((i+1+j:Nat):Int);omega
  ·exact ih
theorem Lq (r:Nat):∀(ws:List ByteArray) (i:Nat) (w:ByteArray),w∈ws->0<(AU r i ws w).length
 | [],_,_,h=>by cases h
 |y::t,i,w,h=>by
  unfold AU;split
  ·simp
  ·rename_i hne
   rcases List.mem_cons.1 h with h|h
   ·exact absurd h.symm hne
   ·exact Lq r t (i+1) w h
structure Pc where
 n:ByteArray
 w:ByteArray
 r:Nat
 l:List Pl
def Pc.pr (c:Pc):Pr:=⟨CM c.n c.w c.r,⟨(EZ c.l).toArray⟩⟩
structure Pc.Ok (c:Pc):Prop where
 n:Qh c.n
 w:WOk c.w
 lo:1<=c.r
 hi:c.r<=1073741824
 ris:Ris c.r c.l
 pos:0<c.l.length
theorem Pc.Ok.right {c:Pc} (h:c.Ok):DB c.l=true:=h.ris.right h.lo h.hi
theorem Pc.Ok.len {c:Pc} (h:c.Ok):c.l.length<=20:=h.ris.len
theorem Pc.Ok.enc {c:Pc} (h:c.Ok):(EZ c.l).length<=c.l.length+5:=h.ris.enc h.lo h.hi
theorem Pc.Ok.pr {c:Pc} (h:c.Ok):c.pr.Ok/\c.pr.sz<=41+c.l.length:=by
 have h1:=h.w.le;have h2:=h.n.le;have h3:=h.enc;have h4:=h.len;have h5:=h.pos;have hk:c.pr.k.size=c.n.size+c.w.size+6:=LA _ _ _
 have hi:c.pr.i.size<=c.l.length+5:=by
  show(EZ c.l).toArray.size<=_;rw[List.size_toArray];exact h3
 refine⟨⟨by omega,by omega,by omega⟩,?_⟩;unfold Pr.sz;omega
theorem Pc.Ok.key {c d:Pc} (h:c.Ok) (k:d.Ok) (e:c.pr.k=d.pr.k):c.n=d.n/\c.w=d.w/\c.r=d.r:=
 NZ h.n.nz h.w.nz (by have:=h.hi;omega) k.n.nz k.w.nz (by have:=k.hi;omega) e
def Ef:List Pc->Nat
 | []=>0
 |c::l=>c.l.length+Ef l
theorem Je:∀(a b:List Pc),Ef (a++b)=Ef a+Ef b
 | [],b=>by simp[Ef]
 |c::a,b=>by rw[List.cons_append,Ef,Ef,Je a b];omega
theorem SM {L:List Pc} {k:Nat} (hk:k<L.length):Ef (L.take (k+1))=Ef (L.take k)+L[k].l.length:=by
 rw[List.take_succ_eq_append_getElem hk,Je];simp[Ef]
theorem Ju {L:List Pc} (hL:∀c∈L,c.Ok):Ef L<=20 * L.length:=by
 induction L with
 |nil=>simp[Ef]
 |cons c l ih=>
  have h1:=ih (fun x hx=>hL x (by simp[hx]));have h2:=(hL c (by simp)).len;rw[Ef,List.length_cons];omega
theorem WQ {L:List Pc} (hL:∀c∈L,c.Ok):L.length<=Ef L:=by
 induction L with
 |nil=>simp
 |cons c l ih=>
  have h1:=ih (fun x hx=>hL x (by simp[hx]));have h2:=(hL c (by simp)).pos;rw[Ef,List.length_cons];omega
theorem X2 {L:List Pc} (hL:∀c∈L,c.Ok):szL (L.map Pc.pr)<=42 * Ef L:=by
 induction L with
 |nil=>simp[szL]
 |cons c l ih=>
  have h1:=ih (fun x hx=>hL x (by simp[hx]));have h2:=(hL c (by simp)).pr.2;have h3:=(hL c (by simp)).pos;rw[List.map_cons,szL,Ef];omega
structure Nd where
 n:ByteArray
 w:ByteArray
 r:Nat
 a:Nat
def Nd.pl (d:Nd):Pl:=⟨(d.r:Int),(d.a:Int)⟩
structure Nd.Ok (d:Nd):Prop where
 n:Qh d.n
 w:WOk d.w
 lo:1<=d.r
 hi:d.r<=1073741824
 a:d.a<20
def Nd.is (d:Nd) (n w:ByteArray) (r:Nat):Bool:=decide (d.n=n) && decide (d.w=w) && decide (d.r=r)
theorem E9 {d:Nd} {n w:ByteArray} {r:Nat}:d.is n w r=true↔d.n=n/\d.w=w/\d.r=r:=by
 unfold Nd.is;simp only[Bool.and_eq_true,decide_eq_true_eq];exact⟨fun h=>⟨h.1.1,h.1.2,h.2⟩,fun h=>⟨⟨h.1,h.2.1⟩,h.2.2⟩⟩
def GG (D:List Nd) (n w:ByteArray) (r:Nat):List Pl:=(D.filter (fun d=>d.is n w r)).map Nd.pl
structure DOk (D:List Nd):Prop where
 ok:∀d∈D,d.Ok
 ri:D.Pairwise (fun x y=>x.n=y.n->x.w=y.w->x.r=y.r->x.a<y.a)
theorem DOk.nil:DOk []:=⟨fun _ h=>(by cases h),List.Pairwise.nil⟩
def pcD (D:List Nd) (d:Nd):Pc:=⟨d.n,d.w,d.r,GG D d.n d.w d.r⟩
def InD (D:List Nd) (x:Pr):Prop:=∃d∈D,x=(pcD D d).pr
theorem Ib {D:List Nd} {n w:ByteArray} {r:Nat} {p:Pl}:p∈GG D n w r↔∃d∈D,d.n=n/\d.w=w/\d.r=r/\p=d.pl:=by
 unfold GG;constructor
 ·intro h
  obtain⟨d,hd,rfl⟩:=List.mem_map.1 h;obtain⟨h1,h2⟩:=List.mem_filter.1 hd;obtain⟨e1,e2,e3⟩:=E9.1 h2;exact⟨d,h1,e1,e2,e3,rfl⟩
 ·rintro⟨d,hd,e1,e2,e3,rfl⟩
  exact List.mem_map.2 ⟨d,List.mem_filter.2 ⟨hd,E9.2 ⟨e1,e2,e3⟩⟩,rfl⟩
theorem TR {D:List Nd} (h:DOk D) (n w:ByteArray) (r:Nat):Ris r (GG D n w r):=by
 refine⟨fun q hq=> ?_,?_⟩
 ·obtain⟨d,hd,_,_,e,rfl⟩:=Ib.1 hq
  have:=(h.ok d hd).a;exact⟨by show(d.r:Int)=(r:Int);rw[e],by show(0:Int)<=(d.a:Int);omega,by show(d.a:Int)<20;omega⟩
 ·unfold GG
  rw[List.pairwise_map];refine List.Pairwise.imp_of_mem (fun {x y} hx hy hxy=> ?_) (h.ri.filter (fun d=>d.is n w r));obtain⟨a1,a2,a3⟩:=E9.1 (List.mem_filter.1 hx).2;obtain⟨b1,b2,b3⟩:=E9.1 (List.mem_filter.1 hy).2;have:=hxy (a1.trans b1.symm) (a2.trans b2.symm) (a3.trans b3.symm);show(x.a:Int)<(y.a:Int);omega
theorem TS {D:List Nd} {d:Nd} (hd:d∈D):0<(GG D d.n d.w d.r).length:=
 List.length_pos_iff.2 (List.ne_nil_of_mem (Ib.2 ⟨d,hd,rfl,rfl,rfl,rfl⟩))
theorem DOk.pc {D:List Nd} (h:DOk D) {d:Nd} (hd:d∈D):(pcD D d).Ok:=
 have k:=h.ok d hd
 ⟨k.n,k.w,k.lo,k.hi,TR h _ _ _,TS hd⟩
structure LsD (D:List Nd) (L:List Pc):Prop where
 of:∀c∈L,∃d∈D,c=pcD D d
 all:∀d∈D,pcD D d∈L
 sorted:(L.map Pc.pr).Pairwise (fun a b=>bl a.k b.k=true)
theorem LsD.ok {D:List Nd} {L:List Pc} (h:LsD D L) (hD:DOk D):∀c∈L,c.Ok:=fun c hc=>by
 obtain⟨d,hd,rfl⟩:=h.of c hc;exact hD.pc hd
theorem Ub {D:List Nd} {d e:Nd} (h1:d.n=e.n) (h2:d.w=e.w) (h3:d.r=e.r):pcD D d=pcD D e:=by
 unfold pcD;rw[h1,h2,h3]
theorem Ku {α β:Type} {f:α->β} {P:α->Prop}:∀(l:List β),(∀x∈l,∃c,P c/\x=f c)->∃cs:List α,l=cs.map f/\∀c∈cs,P c
 | [],_=>⟨[],rfl,fun _ h=>by cases h⟩
 |x::l,h=>by
  obtain⟨cs,h1,h2⟩:=Ku l (fun y hy=>h y (by simp[hy]));obtain⟨c,h3,h4⟩:=h x (by simp);refine⟨c::cs,by rw[h1,h4];rfl,fun d hd=> ?_⟩;rcases List.mem_cons.1 hd with rfl|hd
  ·exact h3
  ·exact h2 d hd
theorem PrS.piecesD {bf bt bp bd bm N Z:Nat} {D:List Nd} {w:World} (h:PrS bf bt bp bd bm N Z (InD D) w) (hD:DOk D):∃N1 up V T L,N1<=N/\Fs bf bt bp bd bm N1 up V T w/\T.all=L.map Pc.pr/\LsD D L:=by
 obtain⟨N1,up,V,T,h1,h2,h3,h4⟩:=h
 obtain⟨L,hL,hL2⟩:=Ku (f:=Pc.pr) (P:=fun c=>∃d∈D,c=pcD D d) T.all (fun x hx=>by
  obtain⟨d,hd,rfl⟩:=(h4 x).1 hx;exact⟨pcD D d,⟨d,hd,rfl⟩,rfl⟩)
 refine⟨N1,up,V,T,L,h1,h2,hL,⟨hL2,fun d hd=> ?_,by rw[<-hL];exact h2.sorted⟩⟩;have hm:=(h4 (pcD D d).pr).2 ⟨d,hd,rfl⟩;rw[hL]at hm;obtain⟨c,hc,e⟩:=List.mem_map.1 hm;obtain⟨d',hd',rfl⟩:=hL2 c hc;obtain⟨e1,e2,e3⟩:=(hD.pc hd').key (hD.pc hd) (congrArg Pr.k e);have:=Ub (D:=D) (d:=d') (e:=d) e1 e2 e3;rw[<-this];exact hc
def Xg (L:List Pc):Prop:=L.Pairwise (fun a b=>bl a.n b.n=true\/(a.n=b.n/\(bl a.w b.w=true\/(a.w=b.w/\a.r<b.r))))
theorem XJ {L:List Pc} (hok:∀c∈L,c.Ok) (hs:(L.map Pc.pr).Pairwise (fun a b=>bl a.k b.k=true)):Xg L:=by
 rw[List.pairwise_map]at hs;refine List.Pairwise.imp_of_mem (fun {a b} ha hb hab=> ?_) hs;have ka:=hok a ha;have kb:=hok b hb;have hab':bl (CM a.n a.w a.r) (CM b.n b.w b.r)=true:=hab
 have no:bl (CM b.n b.w b.r) (CM a.n a.w a.r)=true->False:=fun h2=>by
  rw[KB h2]at hab';cases hab'
 have hr:a.r<4294967296:=by have:=ka.hi;omega
 rcases Gn a.n b.n with h1|h1|h1
 ·exact .inl h1
 ·rcases Gn a.w b.w with h2|h2|h2
  ·exact .inr ⟨h1,.inl h2⟩
  ·rcases Nat.lt_trichotomy a.r b.r with h3|h3|h3
   ·exact .inr ⟨h1,.inr ⟨h2,h3⟩⟩
   ·rw[h1,h2,h3,AM]at hab';cases hab'
   ·exact(no (Ek ka.n.nz ka.w.nz hr (.inr ⟨h1.symm,.inr ⟨h2.symm,h3⟩⟩))).elim
  ·exact(no (Ek ka.n.nz ka.w.nz hr (.inr ⟨h1.symm,.inl h2⟩))).elim
 ·exact(no (Ek ka.n.nz ka.w.nz hr (.inl h1))).elim
theorem LsD.ord {D:List Nd} {L:List Pc} (h:LsD D L) (hD:DOk D):Xg L:=XJ (h.ok hD) h.sorted
def I0 (L:List Pc) (D:List Nd):Nat:=(L.map (fun c=>(D.filter (fun d=>d.is c.n c.w c.r)).length)).sum
theorem Lf (d:Nd) (D:List Nd):∀(L:List Pc),L.Pairwise (fun a b=>¬(a.n=b.n/\a.w=b.w/\a.r=b.r))->((∃c∈L,d.is c.n c.w c.r=true)->I0 L (d::D)=I0 L D+1)/\((∀c∈L,d.is c.n c.w c.r=false)->I0 L (d::D)=I0 L D)
 | [],_=>⟨fun h=>(by obtain⟨_,h,_⟩:=h;cases h),fun _=>rfl⟩
 |c::L,hn=>by
  rw[List.pairwise_cons]at hn;obtain⟨i1,i2⟩:=Lf d D L hn.2;have e1:∀D,I0 (c::L) D=(D.filter (fun d=>d.is c.n c.w c.r)).length+I0 L D:=fun D=>by simp[I0]
  rw[e1,e1,List.filter_cons]
  cases hc:d.is c.n c.w c.r
  ·simp only[Bool.false_eq_true,if_false]
   constructor
   ·rintro⟨x,hx,hd⟩
    rcases List.mem_cons.1 hx with rfl|hx
    ·rw[hc]at hd;cases hd
    ·rw[i1 ⟨x,hx,hd⟩];omega
   ·intro h
    rw[i2 (fun x hx=>h x (by simp[hx]))]
  ·simp only[if_true,List.length_cons]
   have hrest:∀x∈L,d.is x.n x.w x.r=false:=fun x hx=>by
    cases hq:d.is x.n x.w x.r
    ·rfl
    ·obtain⟨a1,a2,a3⟩:=E9.1 hc
     obtain⟨b1,b2,b3⟩:=E9.1 hq;exact absurd ⟨a1.symm.trans b1,a2.symm.trans b2,a3.symm.trans b3⟩ (hn.1 x hx)
   constructor
   ·intro _
    rw[i2 hrest];omega
   ·intro h
    have:=h c (by simp);rw[hc]at this;cases this
theorem Nc (L:List Pc) (hn:L.Pairwise (fun a b=>¬(a.n=b.n/\a.w=b.w/\a.r=b.r))):∀(D:List Nd),(∀d∈D,∃c∈L,d.is c.n c.w c.r=true)->I0 L D=D.length
 | [],_=>by
   unfold I0;rw[show(fun c:Pc=>(([]:List Nd).filter (fun d=>d.is c.n c.w c.r)).length)=fun _=>0 from rfl]
   induction L with
   |nil=>rfl
   |cons c L ih=>simpa using ih (List.pairwise_cons.1 hn).2
 |d::D,h=>by
  rw[(Lf d D L hn).1 (h d (by simp)),Nc L hn D (fun x hx=>h x (by simp[hx])),List.length_cons]
theorem Oz {D:List Nd}:∀(L:List Pc),(∀c∈L,c.l=GG D c.n c.w c.r)->Ef L=I0 L D
 | [],_=>rfl
 |c::L,h=>by
  have e1:I0 (c::L) D=(D.filter (fun d=>d.is c.n c.w c.r)).length+I0 L D:=by simp[I0]
  rw[e1,Ef,Oz L (fun x hx=>h x (by simp[hx])),h c (by simp)];unfold GG;rw[List.length_map]
theorem LsD.cnt {D:List Nd} {L:List Pc} (h:LsD D L) (hD:DOk D):Ef L=D.length:=by
 rw[Oz (D:=D) L (fun c hc=>by obtain⟨d,hd,rfl⟩:=h.of c hc;rfl)];refine Nc L ?_ D (fun d hd=>⟨_,h.all d hd,E9.2 ⟨rfl,rfl,rfl⟩⟩);refine(h.ord hD).imp (fun {a b} hab=> ?_);rintro⟨e1,e2,e3⟩;rcases hab with hab|⟨_,hab|⟨_,hab⟩⟩
 ·rw[e1,AM]at hab;cases hab
 ·rw[e2,AM]at hab;cases hab
 ·omega
theorem LsD.len {D:List Nd} {L:List Pc} (h:LsD D L) (hD:DOk D):L.length<=D.length:=by
 rw[<-h.cnt hD];exact WQ (h.ok hD)
theorem PrS.tight {bf bt bp bd bm N Z:Nat} {D:List Nd} {w:World} (h:PrS bf bt bp bd bm N Z (InD D) w) (hD:DOk D):PrS bf bt bp bd bm N (42 * D.length) (InD D) w:=by
 obtain⟨N1,up,V,T,L,h1,h2,h3,h4⟩:=h.piecesD hD;obtain⟨N2,up2,V2,T2,j1,j2,j3,j4⟩:=h;refine⟨N2,up2,V2,T2,j1,j2,?_,j4⟩
 have e:T2.all=T.all:=J8 T2.all T.all j2.sorted h2.sorted (fun x=>by
  rw[j4 x,h3];constructor
  ·rintro⟨d,hd,rfl⟩;exact List.mem_map.2 ⟨_,h4.all d hd,rfl⟩
  ·intro hx
   obtain⟨c,hc,rfl⟩:=List.mem_map.1 hx;obtain⟨d,hd,rfl⟩:=h4.of c hc;exact⟨d,hd,rfl⟩)
 rw[e,h3,<-h4.cnt hD];exact X2 (h4.ok hD)
def AX (nm:ByteArray) (r:Nat):Nat->List ByteArray->List Nd
 |_,[]=>[]
 |i,x::t=>⟨nm,x,r,i⟩::AX nm r (i+1) t
theorem G5 (nm:ByteArray) (r:Nat):∀(i:Nat) (ws:List ByteArray),(AX nm r i ws).length=ws.length
 |_,[]=>rfl
 |i,_::t=>by rw[AX,List.length_cons,List.length_cons,G5 nm r (i+1) t]
theorem BI {nm:ByteArray} {r:Nat}:∀ {i:Nat} {ws:List ByteArray} {d:Nd},d∈AX nm r i ws->d.n=nm/\d.r=r/\d.w∈ws/\i<=d.a/\d.a<i+ws.length
 |_,[],_,h=>by cases h
 |i,x::t,d,h=>by
  rw[AX]at h;rcases List.mem_cons.1 h with rfl|h
  ·exact⟨rfl,rfl,by simp,Nat.le_refl _,by rw[List.length_cons];show i<_;omega⟩
  ·obtain⟨h1,h2,h3,h4,h5⟩:=BI h
   exact⟨h1,h2,by simp[h3],by omega,by rw[List.length_cons];omega⟩
theorem L1 {nm:ByteArray} {r:Nat}:∀ {i:Nat} {ws:List ByteArray} {x:ByteArray},x∈ws->∃d∈AX nm r i ws,d.w=x
 |_,[],_,h=>by cases h
 |i,y::t,x,h=>by
  rw[AX];rcases List.mem_cons.1 h with rfl|h
  ·exact⟨_,List.mem_cons_self,rfl⟩
  ·obtain⟨d,hd,e⟩:=L1 (nm:=nm) (r:=r) (i:=i+1) h
   exact⟨d,List.mem_cons_of_mem _ hd,e⟩
theorem Ln (nm:ByteArray) (r:Nat) (x:ByteArray):∀(i:Nat) (ws:List ByteArray),GG (AX nm r i ws) nm x r=AU r i ws x
 |_,[]=>rfl
 |i,y::t=>by
  have ih:=Ln nm r x (i+1) t;unfold GG at ih ⊢;rw[AX,List.filter_cons,AU]
  by_cases e:y=x
  ·rw[if_pos e,if_pos (E9.2 ⟨rfl,e,rfl⟩),List.map_cons,ih];rfl
  ·rw[if_neg e,if_neg (fun h=>e (E9.1 h).2.1),ih]
theorem IW (D E:List Nd) (n w:ByteArray) (r:Nat):GG (D++E) n w r=GG D n w r++GG E n w r:=by
 unfold GG;rw[List.filter_append,List.map_append]
theorem Lo {D:List Nd} {n w:ByteArray} {r:Nat} (h:∀d∈D,¬(d.n=n/\d.w=w/\d.r=r)):GG D n w r=[]:=by
 unfold GG;rw[List.filter_eq_nil_iff.2 (fun d hd e=>h d hd (E9.1 e))];rfl
def Fe (D:List Nd) (nm:ByteArray) (r:Nat) (ws:List ByteArray):Prop:=∃x∈ws,∃d∈D,d.n=nm/\d.w=x/\d.r=r
theorem WA {D:List Nd} {nm:ByteArray} {r:Nat} {ws:List ByteArray} (hno:¬Fe D nm r ws) (y:Pr):InD (D++AX nm r 0 ws) y↔(InD D y\/∃x∈ws,y=(⟨nm,x,r,AU r 0 ws x⟩:Pc).pr):=by
 have old:∀d∈D,pcD (D++AX nm r 0 ws) d=pcD D d:=fun d hd=>by
  unfold pcD;rw[IW,Lo (D:=AX nm r 0 ws) (fun e he h=> ?_),List.append_nil];obtain⟨e1,e2,e3,_⟩:=BI he;exact hno ⟨e.w,e3,d,hd,h.1.symm.trans e1,h.2.1.symm,h.2.2.symm.trans e2⟩
 have new:∀d∈AX nm r 0 ws,pcD (D++AX nm r 0 ws) d=⟨nm,d.w,r,AU r 0 ws d.w⟩:=fun d hd=>by
  obtain⟨e1,e2,e3,_⟩:=BI hd;unfold pcD;rw[e1,e2,IW,Ln,Lo (D:=D) (fun c hc h=>hno ⟨d.w,e3,c,hc,h.1,h.2.1,h.2.2⟩),List.nil_append]
 constructor
 ·rintro⟨d,hd,rfl⟩
  rcases List.mem_append.1 hd with hd|hd
  ·rw[old d hd];exact .inl ⟨d,hd,rfl⟩
  ·rw[new d hd];exact .inr ⟨d.w,(BI hd).2.2.1,rfl⟩
 ·rintro(⟨d,hd,rfl⟩|⟨x,hx,rfl⟩)
  ·exact⟨d,by simp[hd],by rw[old d hd]⟩
  ·obtain⟨d,hd,e⟩:=L1 (nm:=nm) (r:=r) (i:=0) hx
   exact⟨d,by simp[hd],by rw[new d hd,e]⟩
theorem DOk.add {D:List Nd} {nm:ByteArray} {r:Nat} {ws:List ByteArray} (h:DOk D) (hn:Qh nm) (h1:1<=r) (h2:r<=1073741824) (hw:∀x∈ws,WOk x) (hl:ws.length<=20) (hno:¬Fe D nm r ws):DOk (D++AX nm r 0 ws):=by
 refine⟨fun d hd=> ?_,?_⟩
 ·rcases List.mem_append.1 hd with hd|hd
  ·exact h.ok d hd
  ·obtain⟨e1,e2,e3,_,e5⟩:=BI hd
   exact⟨by rw[e1];exact hn,hw _ e3,by omega,by omega,by omega⟩
 ·rw[List.pairwise_append]
  refine⟨h.ri,?_,fun d hd e he e1 e2 e3=> ?_⟩
  ·have:∀(i:Nat) (ws:List ByteArray),(AX nm r i ws).Pairwise (fun x y=>x.n=y.n->x.w=y.w->x.r=y.r->x.a<y.a):=by
    intro i ws
    induction ws generalizing i with
    |nil=>exact List.Pairwise.nil
    |cons x t ih=>
     refine List.Pairwise.cons (fun d hd _ _ _=> ?_) (ih (i+1));have:=(BI hd).2.2.2.1;show i<d.a;omega
   exact this 0 ws
  ·obtain⟨a1,a2,a3,_⟩:=BI he
   exact absurd ⟨e.w,a3,d,hd,e1.trans a1,e2,e3.trans a2⟩ hno
def KU (s:ByteArray) (r:Nat):ByteArray:=s++⟨#[0]⟩++⟨(Fd r).toArray⟩
theorem L6 (s:ByteArray) (r:Nat):(KU s r).data.toList=s.data.toList++0::Fd r:=by simp[KU]
theorem Sg (s:ByteArray) (r:Nat):(KU s r).size=s.size+5:=by
 unfold KU;rw[ByteArray.size_append,ByteArray.size_append];rfl
theorem I3 {w w':World} {base size n:Nat} {e:TypeId} {v:Value} {xs:List Value} {S:Nat->Prop} (h:w.ownsRow base e size v n xs) (ho:Aa S w w') (hS:∀b,v.ownBlock=some b->¬S b):w'.ownsRow base e size v n xs:=by
 refine⟨h.1,?_⟩;rcases h.2 with h2|⟨g,cap,cur,h1,h2,h3,h4⟩
 ·exact .inl h2
 ·exact .inr ⟨g,cap,cur,h1,h2,by rw[ho.block g (Array.getElem?_eq_some_iff.1 h3).1 (hS g (by rw[h1];rfl))];exact h3,h4⟩
theorem WM {m:Int} (n s:ByteArray) (r:Nat) (h0:(0:UInt8)∉n.data.toList) (hn:n.size<=1000) (hs:s.size<=1000) (w:World) (hm:w.cell? ⟨1,0,none⟩=some (.int .i64 m)):
  Calls Tryz.prog 91 #[.string (CM n s r),.string ⟨#[0]⟩] w fun e w'=>e= .returned (.tuple #[.string n,.string (KU s r),.bool true])/\Below w.heap.size w w':=by
 refine(Tryz.strings_Cut (CM n s r) ⟨#[0]⟩ m w (by rw[LA];omega) hm).mono ?_;rintro e w' ⟨he,q,rfl⟩
 have hc:Lib.cut (CM n s r).data.toList (⟨#[0]⟩:ByteArray).data.toList=(n.data.toList,(KU s r).data.toList,true):=by
  rw[Fq,L6];exact Om _ _ h0
 rw[hc]at he;exact⟨he,AZ (Below.refl _ _) q⟩
theorem WL {m:Int} (s:ByteArray) (r:Nat) (h0:(0:UInt8)∉s.data.toList) (hs:s.size<=1000) (w:World) (hm:w.cell? ⟨1,0,none⟩=some (.int .i64 m)):
  Calls Tryz.prog 91 #[.string (KU s r),.string ⟨#[0]⟩] w fun e w'=>e= .returned (.tuple #[.string s,.string ⟨(Fd r).toArray⟩,.bool true])/\Below w.heap.size w w':=by
 refine(Tryz.strings_Cut (KU s r) ⟨#[0]⟩ m w (by rw[Sg];omega) hm).mono ?_;rintro e w' ⟨he,n,rfl⟩
 have hc:Lib.cut (KU s r).data.toList (⟨#[0]⟩:ByteArray).data.toList=(s.data.toList,Fd r,true):=by
  rw[L6];exact Om _ _ h0
 rw[hc]at he;exact⟨he,AZ (Below.refl _ _) n⟩
theorem R2 {l:List Pl} (hr:DB l=true) (hs:(EZ l).length<=1000) (s:ByteArray) (e:(⟨(EZ l).toArray⟩:ByteArray)=s) (w:World):
  Calls Tryz.prog 92 #[.string s] w fun e w'=>∃v,e= .returned (.tuple #[v,.nilIface])/\w'.ownsRow w.heap.size 81 2 v l.length (plc l)/\Below w.heap.size w w':=by
 subst e;refine(R8 ⟨(EZ l).toArray⟩ w (by show(EZ l).toArray.size<=_;rw[List.size_toArray];omega)).mono ?_;have hb:Ll (⟨(EZ l).toArray⟩:ByteArray).data.toList=some l:=TO l hr;rintro e w' ⟨h|h,hbl⟩
 ·obtain⟨ps,v,h1,rfl,_,h2⟩:=h
  rw[hb]at h1;obtain rfl:=Option.some.inj h1;exact⟨v,rfl,h2,hbl⟩
 ·rw[hb]at h
  cases h.1
section
variable {bf bt bp bd bm N:Nat} {up:Nat->Bool} {V:Pst} {T:Tr} {w:World} {I:Nat->Nat->World->Prop} {W:Nat->Prop} {fw:Nat} {cw:Array Value} {L:List Pc}
theorem Kf (h:Fs bf bt bp bd bm N up V T w) {m:Int} (hm:w.cell? ⟨1,0,none⟩=some (.int .i64 m)) (beg:ByteArray) (hL:∀c∈L,c.Ok) (hps:BJ (pfx beg) beg 0 T.all=L.map Pc.pr) (hLl:L.length<=10000)
  (hW:∀b,W b->b<w.heap.size/\b≠1) (eg:∀args w,(callFunc fw args).run Tryz.prog w= .ok (.enter fw args) w)
  (hI:∀B wx,w.heap.size<=B->B<=wx.heap.size->Below w.heap.size w wx->I B 0 wx)
  (hc:∀B k (hk:k<L.length) v wr wx,w.heap.size<=B->B<=wr.heap.size->I B k wr->Below wr.heap.size wr wx->wx.ownsRow wr.heap.size 81 2 v L[k].l.length (plc L[k].l)->
    Calls Tryz.prog fw (#[.agg #[.string L[k].n,.string L[k].w,v]]++cw) wx fun e w'=>e= .returned (.tuple #[])/\I B (k+1) w'/\Aa (fun b=>W b\/B<=b) wx w'):
  Calls Tryz.prog 55 #[.pointer (some ⟨bf,0,none⟩),.string beg,.func (.func fw) #[] cw] w fun e w'=>e= .returned .nilIface/\(∃B,w.heap.size<=B/\I B L.length w')/\Aa W w w':=by
 have HC:Hid (Fs bf bt bp bd bm N up V T w):=h;have HPS:Hid _:=hps;have HL:Hid _:=hL;have HM:Hid _:=hm;have HW:Hid _:=hW;have HI:Hid _:=hI;have HCC:Hid _:=hc;have q0:=h.c.cell;clear h hps hL hm hW hI hc;go_enter Tryz.func55,Tryz.ntmps55;go_wp2_with fail;refine(Pd _ HC.out.t HC.out.tw HC.out.a beg).mono ?_;rintro _ w2 ⟨v2,rfl,hr2,hb2⟩;rw[HPS.out]at hr2;obtain⟨a9,c9,hv9⟩:=Bz hr2;obtain⟨n,hn⟩:∃n,L.length=n:=⟨_,rfl⟩;have HN:Hid _:=hn;rw[List.length_map,hn]at hv9;rw[hn]at hLl;subst hv9;have HR:Hid (Jj w.heap.size (.slice a9 n c9) (L.map Pc.pr) w2):=hr2;have HB:Hid (Below w.heap.size w w2):=hb2;have HM2:Hid (w2.cell? ⟨1,0,none⟩=some (.int .i64 m)):=AP hb2 HM.out;have HI0:Hid (I w2.heap.size 0 w2):=HI.out w2.heap.size w2 hb2.size (Nat.le_refl _) hb2
 have HO:Hid (∀wx,Aa (fun b=>W b\/w2.heap.size<=b) w2 wx->wx.cell? ⟨1,0,none⟩=some (.int .i64 m)/\Jj w.heap.size (.slice a9 n c9) (L.map Pc.pr) wx):=fun wx ho=>⟨by
   have hlt:=World.block_lt_of_cell? _ _ HM2.out
   rw[ho.cell hlt (fun e=>by rcases e with e|e;exact(HW.out _ e).2 rfl;exact absurd hlt (by simp only;omega)) 0];exact HM2.out,I3 HR.out ho (fun b e=>by
    have:=World.ownsRow.lt HR.out b e;rintro(e|e)
    ·have:=(HW.out _ e).1;omega
    ·omega)⟩
 clear hr2 hb2 q0 HC HPS hn HM HI;go_wp2_with fail;go_loopw [33] (fun i wr=>∃(k:Nat),k<=n/\i= .int .i64 (k:Nat)/\Hid (I w2.heap.size k wr)/\Hid (Aa (fun b=>W b\/w2.heap.size<=b) w2 wr)) (fun i _=>n+1-(intOf i).toNat)
 case atStart=>exact⟨0,Nat.zero_le _,rfl,HI0,Aa.refl _ _⟩
 case round=>
  obtain⟨k,hk,rfl,HIK,HBW⟩:=hrel
  by_cases hlt:k<n
  ·have h1:(k:Int)<(n:Int):=by omega
   have hkl:k<L.length:=by rw[HN.out];exact hlt
   obtain⟨hmw,hRw⟩:=HO.out wr HBW.out;obtain⟨g,hg,k1,k2,hix⟩:=hRw.at (i:=k) (by rw[List.length_map];exact hkl);rw[List.getElem_map]at k1 k2;have hok:=HL.out L[k] (List.getElem_mem hkl);have hws:=hok.w.le;have hns:=hok.n.le;have hnz:=hok.n.nz;have hwz:=hok.w.nz;obtain⟨c,hcc⟩:∃c,L[k]=c:=⟨_,rfl⟩
   have HCK:Hid (∀v wx,Below wr.heap.size wr wx->wx.ownsRow wr.heap.size 81 2 v c.l.length (plc c.l)->
    Calls Tryz.prog fw (#[.agg #[.string c.n,.string c.w,v]]++cw) wx fun e w'=>e= .returned (.tuple #[])/\I w2.heap.size (k+1) w'/\Aa (fun b=>W b\/w2.heap.size<=b) wx w'):=by
    intro v wx hb ho;have:=HCC.out w2.heap.size k hkl v wr wx HB.out.size HBW.out.size HIK.out hb (by rw[hcc];exact ho);rw[hcc]at this;exact this
   rw[hcc]at k1 k2 hok hws hwz hns hnz;unfold Pc.pr at k1 k2;simp only at k1 k2;have HRI:Hid _:=fun s e wx=>R2 hok.right (by have:=hok.enc;have:=hok.len;omega) s e wx;obtain⟨kk,hkk⟩:∃kk,CM c.n c.w c.r=kk:=⟨_,rfl⟩;obtain⟨ii,hii⟩:∃ii,(⟨(EZ c.l).toArray⟩:ByteArray)=ii:=⟨_,rfl⟩;obtain⟨mm,hmm⟩:∃mm,KU c.w c.r=mm:=⟨_,rfl⟩;have HMW:Hid (∀x y:ByteArray,(wr.alloc (.cells #[.string x,.string y] 182)).cell? ⟨1,0,none⟩=some (.int .i64 m)):=fun x y=>AP ((Below.refl _ wr).alloc (Nat.le_refl _) _) hmw;have HCH:Hid _:=WM c.n c.w c.r hnz (by omega) (by omega) _ (HMW.out kk ii)
   have HCM:Hid (∀wx,wx.cell? ⟨1,0,none⟩=some (.int .i64 m)->Calls Tryz.prog 91 #[.string mm,.string ⟨#[0]⟩] wx fun e w'=>e= .returned (.tuple #[.string c.w,.string ⟨(Fd c.r).toArray⟩,.bool true])/\Below wx.heap.size wx w'):=by
    intro wx hx;rw[<-hmm];exact WL c.w c.r hwz (by omega) wx hx
   have HII:Hid _:=hii;rw[hkk,hmm]at HCH;rw[hkk]at k1;rw[hii]at k2;clear hRw hmw hkk hii hmm hcc hok hwz hnz;go_wp2_with fail;refine(show Calls _ _ _ _ _ from HCH.out).mono ?_;rintro _ w3 ⟨rfl,hb3⟩;have HBA:Hid (Below wr.heap.size wr (wr.alloc (.cells #[.string kk,.string ii] 182))):=(Below.refl _ wr).alloc (Nat.le_refl _) _;have HV3:Hid (Cp wr.heap.size [.string kk,.string ii] w3):=(Cp.new wr #[.string kk,.string ii] 182 (by simp)).below hb3;have HB3:Hid (Below wr.heap.size wr w3):=HBA.out.trans (hb3.mono HBA.out.size);have HM3:Hid (w3.cell? ⟨1,0,none⟩=some (.int .i64 m)):=AP hb3 (HMW.out kk ii);clear hb3 HBA k1 k2 HCH;go_wp2_with fail;refine(show Calls _ _ _ _ _ from HCM.out w3 HM3.out).mono ?_;rintro _ w4 ⟨rfl,hb4⟩;have HV4:Hid (Cp wr.heap.size [.string kk,.string ii] w4):=HV3.out.below hb4;have HB4:Hid (Below wr.heap.size wr w4):=HB3.out.trans (hb4.mono HB3.out.size);have d1:=HV4.out.cell 1 (by simp);simp only[List.getElem_cons_zero,List.getElem_cons_succ]at d1;clear hb4;go_wp2_with fail;refine(show Calls _ _ _ _ _ from HRI.out ii HII.out w4).mono ?_;rintro _ w5 ⟨v5,rfl,hr5,hb5⟩;obtain⟨a5,c5,hv5⟩:=Bz hr5;obtain⟨n5,hn5⟩:∃n5,c.l.length=n5:=⟨_,rfl⟩;rw[hn5]at hv5;subst hv5;have HB5:Hid (Below wr.heap.size wr w5):=HB4.out.trans (hb5.mono HB4.out.size);have HR5:Hid (w5.ownsRow wr.heap.size 81 2 (.slice a5 n5 c5) c.l.length (plc c.l)):=Du hr5 HB4.out.size;clear hr5 hb5 d1 hn5;go_wp2_with fail;refine(show Calls _ _ _ _ _ from HCK.out (.slice a5 n5 c5) w5 HB5.out HR5.out).mono ?_;rintro _ w6 ⟨rfl,hi6,ho6⟩;have HI6:Hid (I w2.heap.size (k+1) w6):=hi6;have HO6:Hid (Aa (fun b=>W b\/w2.heap.size<=b) w2 w6):=(HBW.out.trans (Ab HB5.out _) (fun _ e=> .inl e)).trans ho6 (fun _ e=> .inl e);clear hi6 ho6;go_wp2_with fail;go_roundw
   case rel=>exact⟨k+1,by omega,by go_num,HI6,HO6⟩
   case measure=>simp[intOf];omega
  ·have h1:¬(k:Int)<(n:Int):=by omega
   obtain rfl:n=k:=by omega
   go_wp2;go_ret;refine⟨rfl,⟨w2.heap.size,HB.out.size,by rw[HN.out];exact HIK.out⟩,?_⟩;exact(Ab HB.out W).trans HBW.out (fun i e=>by rcases e with e|e;exact .inl e;exact .inr (Nat.le_trans HB.out.size e))
end
set_option maxHeartbeats 1000000
theorem Wt {B:Nat} {s n c:Nat} {nm wd:ByteArray} {a:Option Addr} (w:World) (h:Af B (.int .i64 (s:Nat)) w) (hs:s<=1000000) (hn:n<=1000000):
  Calls Tryz.prog 56 #[.agg #[.string nm,.string wd,.slice a n c],.pointer (some ⟨B,0,none⟩)] w fun e w'=>e= .returned (.tuple #[])/\Af B (.int .i64 ((s+n:Nat):Int)) w'/\Aa (fun b=>b=B) w w':=by
 have hlt:=h.lt;have hbB:Below w.heap.size w (w.alloc (.cells #[.string nm,.string wd,.slice a n c] 135)):=(Below.refl _ w).alloc (Nat.le_refl _) _;have HV:Hid (Cp w.heap.size [.string nm,.string wd,.slice a n c] (w.alloc (.cells #[.string nm,.string wd,.slice a n c] 135))):=Cp.new w #[.string nm,.string wd,.slice a n c] 135 (by simp);have HO:Hid (Af B (.int .i64 (s:Nat)) (w.alloc (.cells #[.string nm,.string wd,.slice a n c] 135))):=h.below hbB;have HO0:Hid (Af B (.int .i64 (s:Nat)) w):=h;have c0:=HO.out.cell;have c1:=HV.out.c3.2.2;have hwp:IntKind.i64.wrap ((s:Int)+(n:Int))=((s+n:Nat):Int):=by rw[By _ (by omega) (by omega)];omega
 have hf0:=HO.out.free;clear h hbB;go_enter Tryz.func56,Tryz.ntmps56;go_wp2;go_end0;refine⟨rfl,?_,?_⟩
 ·rw[Int.natCast_add]
  exact(HO0.out.set _).below ((Below.refl _ _).alloc (Nat.le_refl _) _)
 ·exact(Aa.set B 0 _ _).trans (Ab ((Below.refl _ _).alloc (Nat.le_refl _) _) (fun _=>False)) (fun _ e=>e.elim)
section
variable {bf bt bp bd bm N:Nat} {up:Nat->Bool} {V:Pst} {T:Tr} {w:World} {L:List Pc}
theorem Wf (k:Nat) (x:ByteArray):pfx ⟨#[]⟩ k x=true:=by
 unfold pfx Lib.hasPrefix;rfl
theorem UA (h:Fs bf bt bp bd bm N up V T w) {m:Int} (hm:w.cell? ⟨1,0,none⟩=some (.int .i64 m)) (hL:∀c∈L,c.Ok) (hps:T.all=L.map Pc.pr) (hLl:L.length<=10000):
  Calls Tryz.prog 26 #[.pointer (some ⟨bf,0,none⟩)] w fun e w'=>e= .returned (.tuple #[.int .i64 (Ef L:Nat),.nilIface])/\Below w.heap.size w w':=by
 have hbB:Below w.heap.size w (w.alloc (.cells #[.int .i64 0] 3)):=(Below.refl _ w).alloc (Nat.le_refl _) _;have hO0:Af w.heap.size (.int .i64 ((0:Nat):Int)) (w.alloc (.cells #[.int .i64 0] 3)):=Af.new w _ _;have hmf:∀(fn:Fn) (first cap:Array Value) (w:World),(Instr.makeFunc fn first cap).run Tryz.prog w= .ok (.func fn first cap) w:=fun _ _ _ _=>rfl;have hcnt:=Ju hL
 have hwk:BJ (pfx ⟨#[]⟩) ⟨#[]⟩ 0 T.all=L.map Pc.pr:=by
  rw[MW ⟨#[]⟩ T.all 0 h.sorted,<-hps];exact List.filter_eq_self.2 (fun x _=>Wf 0 x.k)
 have hm2:1<w.heap.size:=World.block_lt_of_cell? _ _ hm
 have HLK:Hid (Calls Tryz.prog 55 #[.pointer (some ⟨bf,0,none⟩),.string ⟨#[]⟩,.func (.func 56) #[] #[.pointer (some ⟨w.heap.size,0,none⟩)]] (w.alloc (.cells #[.int .i64 0] 3)) fun e w'=>e= .returned .nilIface/\(∃B,(w.alloc (.cells #[.int .i64 0] 3)).heap.size<=B/\Af w.heap.size (.int .i64 (Ef (L.take L.length):Nat)) w')/\Aa (fun b=>b=w.heap.size) (w.alloc (.cells #[.int .i64 0] 3)) w'):=by
  refine Kf (I:=fun _ k wx=>Af w.heap.size (.int .i64 (Ef (L.take k):Nat)) wx) (h.below hbB) (AP hbB hm) ⟨#[]⟩ hL hwk hLl (fun b e=> ?_) (enters_of Tryz.func56 (by kernel_rfl) rfl) (fun B wx h1 h2 h3=>hO0.below h3) (fun B k hk v wr wx h1 h2 h3 h4 h5=> ?_)
  ·subst e;rw[World.size_alloc];exact⟨by omega,by omega⟩
  ·obtain⟨a5,c5,rfl⟩:=Bz h5
   have hc2:=Ju (L:=L.take k) (fun c hc=>hL c (List.mem_of_mem_take hc));rw[List.length_take]at hc2;have hl5:=(hL L[k] (List.getElem_mem hk)).len;refine(Wt wx (h3.below h4) (by omega) (by omega)).mono ?_;rintro e w' ⟨rfl,g1,g2⟩;refine⟨rfl,?_,g2.mono (fun _ e=> .inl e)⟩;show Af _ _ _;rw[SM hk];exact g1
 have HB:Hid _:=hbB;clear hbB hO0 hm hL hps hwk h;rw[List.take_length]at HLK;go_enter Tryz.func26,Tryz.ntmps26;go_wp2_with fail;refine(show Calls _ _ _ _ _ from HLK.out).mono ?_;rintro _ w2 ⟨rfl,⟨B,_,hO⟩,ho⟩;have HB2:Hid (Below w.heap.size w w2):=Aa.below HB.out ho (by rw[World.size_alloc];omega) (fun b e=>by omega);have c0:=hO.cell;clear hO ho;go_wp2;go_ret2;exact⟨rfl,HB2.out⟩
end
end
end Go.Proofs.YtgfldnaahojnlaaGreatDoor
