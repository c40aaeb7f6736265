/- MatchFinds: part 29. -/
import Derived.Test.YtgfldnaahojnlaaGreatDoorF28
import Derived.Laws.OwnMore
import Derived.Maps.RangeWalk
import Derived.Maps.Ext
import Derived.Maps.OwnOps
set_option maxRecDepth 100000
set_option maxHeartbeats 4000000
namespace Go.Proofs.YtgfldnaahojnlaaGreatDoor
section
open Go.RowKit
def pcs:Nat->List UInt8->Option (List ByteArray)
 |0,_=>some []
 |_+1,[]=>some []
 |f+1,c::l=>
  if c.toNat=32 then pcs f l
  else if c.toNat=40\/c.toNat=41\/c.toNat=42 then(pcs f l).map (⟨#[c]⟩::·)
  else if c.toNat=34 then
   if(l.takeWhile Cj).length=l.length then none else(pcs f (l.drop ((l.takeWhile Cj).length+1))).map (⟨(c::l.takeWhile Cj).toArray⟩::·)
  else(pcs f (l.drop (l.takeWhile Bq).length)).map (⟨(c::l.takeWhile Bq).toArray⟩::·)
theorem Ev {α:Type} (p:α->Bool) (l:List α):l.take (l.takeWhile p).length=l.takeWhile p:=by
 have h:=List.takeWhile_prefix p (l:=l);exact(List.prefix_iff_eq_take.1 h).symm
theorem Ig (s:ByteArray) (i n:Nat) (h:i<s.size) (L:List UInt8) (hL:(s.data.toList.drop (i+1)).take n=L):s.extract i (i+1+n)=⟨(s[i]::L).toArray⟩:=by
 apply Dy;rw[Ch,List.drop_take,CZ s i h,show i+1+n-i=n+1 by omega,List.take_succ_cons,hL]
theorem Mt {c:UInt8} (h1:c.toNat≠32) (h2:¬(c.toNat=40\/c.toNat=41\/c.toNat=42)) (h3:c.toNat≠34):Bq c=true:=by
 have e:∀n:UInt8,c.toNat≠n.toNat->(c == n)=false:=fun n hn=>by
  rw[beq_eq_false_iff_ne];exact fun e=>hn (by rw[e])
 simp only[Bq,UO,e 32 h1,e 40 (fun h=>h2 (.inl h)),e 41 (fun h=>h2 (.inr (.inl h))),e 42 (fun h=>h2 (.inr (.inr h))),e 34 h3];rfl
theorem Wp {c:UInt8} (h:Bq c=true):c.toNat≠32/\¬(c.toNat=40\/c.toNat=41\/c.toNat=42)/\c.toNat≠34:=by
 have key:∀n:UInt8,c.toNat=n.toNat->c=n:=fun n hn=>UInt8.toNat_inj.1 hn;refine⟨fun e=> ?_,fun e=> ?_,fun e=> ?_⟩
 ·rw[key 32 e]at h;exact absurd h (by decide)
 ·rcases e with e|e|e
  ·rw[key 40 e]at h;exact absurd h (by decide)
  ·rw[key 41 e]at h;exact absurd h (by decide)
  ·rw[key 42 e]at h;exact absurd h (by decide)
 ·rw[key 34 e]at h;exact absurd h (by decide)
theorem XI (s:ByteArray) (f:Nat):∀i,A0 s f i=pcs f (s.data.toList.drop i):=by
 induction f with
 |zero=>intro i;rfl
 |succ f ih=>
  intro i;rw[A0]
  by_cases h:i<s.size
  ·rw[dif_pos h,CZ s i h,pcs]
   by_cases h1:s[i].toNat=32
   ·rw[if_pos h1,if_pos h1,ih]
   ·rw[if_neg h1,if_neg h1]
    by_cases h2:s[i].toNat=40\/s[i].toNat=41\/s[i].toNat=42
    ·rw[if_pos h2,if_pos h2,ih]
     have e:=Ig s i 0 h [] (List.take_zero);simp only[Nat.add_zero]at e;rw[e]
    ·rw[if_neg h2,if_neg h2]
     by_cases h3:s[i].toNat=34
     ·rw[if_pos h3,if_pos h3]
      have hl:(s.data.toList.drop (i+1)).length=s.size-(i+1):=by rw[List.length_drop,AF]
      have he:Cf Cj s (i+1)=i+1+((s.data.toList.drop (i+1)).takeWhile Cj).length:=rfl
      by_cases h4:Cf Cj s (i+1)=s.size
      ·rw[if_pos h4,if_pos (by omega)]
      ·rw[if_neg h4,if_neg (by omega),ih,he,List.drop_drop,show i+1+((s.data.toList.drop (i+1)).takeWhile Cj).length+1=i+1+(((s.data.toList.drop (i+1)).takeWhile Cj).length+1) by omega]
       rw[Ig s i _ h _ (Ev _ _)]
     ·rw[if_neg h3,if_neg h3,Er h (Mt h1 h2 h3),ih]
      have he:Cf Bq s (i+1)=i+1+((s.data.toList.drop (i+1)).takeWhile Bq).length:=rfl;rw[he,List.drop_drop,Ig s i _ h _ (Ev _ _)]
  ·rw[dif_neg h,List.drop_eq_nil_of_le (by rw[AF];omega)]
   rfl
theorem Ua (f:Nat):∀g l,l.length<=f->l.length<=g->pcs f l=pcs g l:=by
 induction f with
 |zero=>
  intro g l h1 h2;obtain rfl:l=[]:=List.length_eq_zero_iff.1 (by omega)
  cases g<;>rfl
 |succ f ih=>
  intro g l h1 h2
  cases l with
  |nil=>cases g<;>rfl
  |cons c l=>
   cases g with
   |zero=>simp at h2
   |succ g=>
    simp only[List.length_cons]at h1 h2;have key:∀n,pcs f (l.drop n)=pcs g (l.drop n):=fun n=>ih g _ (by simp;omega) (by simp;omega);have k0:=key 0;rw[List.drop_zero]at k0;rw[pcs,pcs,k0,key,key]
def BP (l:List UInt8) (L:List ByteArray):Prop:=pcs l.length l=some L
theorem BP.of {f:Nat} {l:List UInt8} {L:List ByteArray} (hl:l.length<=f) (h:pcs f l=some L):BP l L:=by
 unfold BP;rw[Ua _ f l (Nat.le_refl _) hl];exact h
theorem Vh {L:List ByteArray} (h:BP [] L):L=[]:=(Option.some.inj h).symm
theorem Ol:BP [] []:=rfl
theorem PL {c:UInt8} {l:List UInt8} {L:List ByteArray} (hc:c.toNat=32) (h:BP (c::l) L):BP l L:=by
 unfold BP at h;rw[List.length_cons,pcs,if_pos hc]at h;exact h
theorem map_cons {x:ByteArray} {o:Option (List ByteArray)} {L:List ByteArray} (h:o.map (x::·)=some L):∃L',L=x::L'/\o=some L':=by
 cases o with
 |none=>cases h
 |some M=>exact⟨M,(Option.some.inj h).symm,rfl⟩
theorem SK {c:UInt8} {l:List UInt8} {L:List ByteArray} (hc:c.toNat=40\/c.toNat=41\/c.toNat=42) (h:BP (c::l) L):∃L',L=⟨#[c]⟩::L'/\BP l L':=by
 unfold BP at h;rw[List.length_cons,pcs,if_neg (by omega),if_pos hc]at h;exact map_cons h
theorem PK {c:UInt8} {l:List UInt8} {L:List ByteArray} (hc:c.toNat=34) (h:BP (c::l) L):(l.takeWhile Cj).length<l.length/\∃L',L=⟨(c::l.takeWhile Cj).toArray⟩::L'/\BP (l.drop ((l.takeWhile Cj).length+1)) L':=by
 unfold BP at h;rw[List.length_cons,pcs,if_neg (by omega),if_neg (by omega),if_pos hc]at h;have hle:=(List.takeWhile_sublist Cj (l:=l)).length_le
 by_cases h4:(l.takeWhile Cj).length=l.length
 ·rw[if_pos h4]at h;cases h
 ·rw[if_neg h4]at h
  obtain⟨L',e,h'⟩:=map_cons h;exact⟨by omega,L',e,BP.of (by rw[List.length_drop];omega) h'⟩
theorem Vg {c:UInt8} {l:List UInt8} {L:List ByteArray} (hc:Bq c=true) (h:BP (c::l) L):∃L',L=⟨(c::l.takeWhile Bq).toArray⟩::L'/\BP (l.drop (l.takeWhile Bq).length) L':=by
 obtain⟨h1,h2,h3⟩:=Wp hc;unfold BP at h;rw[List.length_cons,pcs,if_neg h1,if_neg h2,if_neg h3]at h;obtain⟨L',e,h'⟩:=map_cons h;exact⟨L',e,BP.of (by rw[List.length_drop];omega) h'⟩
theorem SJ {l:List UInt8} {L:List ByteArray} (h:BP l L):BP (l.dropWhile (· == 32)) L:=by
 induction l with
 |nil=>exact h
 |cons c l ih=>
  rw[List.dropWhile_cons]
  by_cases hc:(c == 32)=true
  ·rw[if_pos hc]
   exact ih (PL (by rw[beq_iff_eq.1 hc];rfl) h)
  ·rw[if_neg hc];exact h
theorem PM {p:UInt8->Bool} (hp:p 34=false) (l:List UInt8):(l.takeWhile p).count 34=0:=by
 rw[List.count_eq_zero];intro hm;have h:=List.all_takeWhile (p:=p) (l:=l);rw[List.all_eq_true]at h;exact absurd (h 34 hm) (by rw[hp];decide)
theorem K1 {p:UInt8->Bool} (hp:p 34=false) (l:List UInt8):l.count 34=(l.drop (l.takeWhile p).length).count 34:=by
 have h:=List.take_append_drop (l.takeWhile p).length l;rw[Ev]at h
 conv=>lhs;rw[<-h]
 rw[List.count_append,PM hp,Nat.zero_add]
theorem K0 {c:UInt8} (l:List UInt8) (h:c.toNat≠34):(c::l).count 34=l.count 34:=by
 rw[List.count_cons,if_neg (by rw[beq_iff_eq];intro e;exact h (by rw[e];rfl))];rfl
theorem OJ {p:UInt8->Bool} (l:List UInt8) (h:(l.takeWhile p).length<l.length):∃d,p d=false/\l.drop (l.takeWhile p).length=d::l.drop ((l.takeWhile p).length+1):=by
 induction l with
 |nil=>simp at h
 |cons c l ih=>
  by_cases hc:p c=true
  ·rw[List.takeWhile_cons_of_pos hc]at h ⊢
   simp only[List.length_cons]at h ⊢;obtain⟨d,h1,h2⟩:=ih (by omega);exact⟨d,h1,by simpa using h2⟩
  ·rw[List.takeWhile_cons_of_neg hc]
   exact⟨c,by simpa using hc,by simp⟩
theorem Wg (f:Nat):∀l,l.length<=f->(pcs f l=none↔l.count 34 % 2=1):=by
 induction f with
 |zero=>
  intro l h;obtain rfl:l=[]:=List.length_eq_zero_iff.1 (by omega);simp[pcs]
 |succ f ih=>
  intro l h
  cases l with
  |nil=>simp[pcs]
  |cons c l=>
   simp only[List.length_cons]at h;rw[pcs]
   by_cases h1:c.toNat=32
   ·rw[if_pos h1,ih l (by omega),K0 l (by omega)]
   ·rw[if_neg h1]
    by_cases h2:c.toNat=40\/c.toNat=41\/c.toNat=42
    ·rw[if_pos h2,Option.map_eq_none_iff,ih l (by omega),K0 l (by omega)]
    ·rw[if_neg h2]
     by_cases h3:c.toNat=34
     ·rw[if_pos h3]
      obtain rfl:c=34:=UInt8.toNat_inj.1 h3;have hq:Cj 34=false:=by decide
      have e:=K1 hq l;rw[List.count_cons_self,e]
      by_cases h4:(l.takeWhile Cj).length=l.length
      ·rw[if_pos h4,h4,List.drop_length]
       simp
      ·have hle:=(List.takeWhile_sublist Cj (l:=l)).length_le
       obtain⟨d,hd,hdr⟩:=OJ (p:=Cj) l (by omega);rw[if_neg h4,Option.map_eq_none_iff,ih _ (by simp;omega),hdr]
       obtain rfl:d=34:=by
        have:d.toNat=34:=by simpa [Cj]using hd
        exact UInt8.toNat_inj.1 this
       rw[List.count_cons_self];omega
     ·rw[if_neg h3,Option.map_eq_none_iff,ih _ (by simp;omega),K0 l h3,<-K1 (p:=Bq) (by decide) l]
def DU (x:ByteArray):Int×ByteArray:=
 if x=B9 then(1,⟨#[]⟩)else if x=AA then(2,⟨#[]⟩)else if x=Ao then(3,⟨#[]⟩)
 else if BA x=34 then(4,⟨(x.data.toList.drop 1).toArray⟩)else(5,x)
def AJ:List ByteArray->Int×ByteArray
 | []=>(0,⟨#[]⟩)
 |x::_=>DU x
inductive Ei:ByteArray->Prop
 |opens:Ei B9
 |shuts:Ei AA
 |star:Ei Ao
 |quoted (r:List UInt8):r.length<=400->Ei ⟨(34::r).toArray⟩
 |run (c:UInt8) (r:List UInt8):r.length<400->(∀d∈c::r,Bq d=true)->Ei ⟨(c::r).toArray⟩
theorem CU (c:UInt8) (r:List UInt8):BA ⟨(c::r).toArray⟩=c:=by simp[BA]
theorem Fp {c d:UInt8} {r:List UInt8} (h:c≠d):(⟨(c::r).toArray⟩:ByteArray)≠⟨#[d]⟩:=by
 intro e;have:=congrArg BA e;rw[CU]at this;exact h this
theorem C8 (r:List UInt8):DU ⟨(34::r).toArray⟩=(4,⟨r.toArray⟩):=by
 unfold DU B9 AA Ao;rw[if_neg (Fp (by decide)),if_neg (Fp (by decide)),if_neg (Fp (by decide)),if_pos (CU _ _)];simp
theorem Gb {c:UInt8} {r:List UInt8} (h:Bq c=true):DU ⟨(c::r).toArray⟩=(5,⟨(c::r).toArray⟩):=by
 have key:∀d:UInt8,Bq d=false->c≠d:=fun d hd e=>by rw[e,hd]at h;cases h
 unfold DU B9 AA Ao;rw[if_neg (Fp (key 40 (by decide))),if_neg (Fp (key 41 (by decide))),if_neg (Fp (key 42 (by decide))),if_neg (by rw[CU];exact key 34 (by decide))]
theorem Mw (c:UInt8) (r:List UInt8):(⟨(c::r).toArray⟩:ByteArray)≠Ax:=by
 intro e;have:=congrArg (fun x:ByteArray=>x.data.toList.length) e;simp[Ax]at this
theorem Jc (w:World) (r:Option Nat):w.grownBy w r:=⟨rfl,rfl,rfl,Nat.le_refl _,fun _ _ _=>rfl⟩
theorem Ac {w w':World} (h:Below w.heap.size w w') (row:Option Nat):w.grownBy w' row:=⟨h.os,h.tape,h.output,h.size,fun k hk _=>h.block k hk⟩
theorem DF (W:World) (b o:Nat) (v:Value):W.grownBy (W.setCell ⟨b,o,none⟩ v) (some b):=
 ⟨rfl,rfl,rfl,by simp[World.setCell],fun k _ hk=>Below.heap_setCell W ⟨b,o,none⟩ v k (fun e=>hk (by rw[e]))⟩
theorem Ff (p:ByteArray) (l:List UInt8):(p.toList == l)=decide (p=(⟨l.toArray⟩:ByteArray)):=by
 rw[Bool.eq_iff_iff,ByteArray.toList_eq];simp only[beq_iff_eq,decide_eq_true_eq];constructor
 ·intro h
  apply Dy;rw[h]
 ·intro h;rw[h]
def GI (A:Nat) (w:World) (v:Value) (ws:List ByteArray):Prop:=
 ∃a c,v= .slice a ws.length c/\(ws.length<=1000000/\ws.length<=c)/\(ws=[]\/∃b off,a=some ⟨b,off,none⟩/\A<b/\b<w.heap.size/\∀i (h:i<ws.length),w.cell? ⟨b,off+i,none⟩=some (.string ws[i]))
theorem GI.grown {A:Nat} {w w':World} {v:Value} {ws:List ByteArray} (h:GI A w v ws) (hg:w.grownBy w' (some A)):GI A w' v ws:=by
 obtain⟨a,c,rfl,hl,h⟩:=h;refine⟨a,c,rfl,hl,?_⟩;rcases h with h|⟨b,off,e,h1,h2,h3⟩
 ·exact .inl h
 ·exact .inr ⟨b,off,e,h1,Nat.lt_of_lt_of_le h2 hg.size,fun i hi=>by rw[World.cell?_of_block (w:=w) (a:=⟨b,off+i,none⟩) (hg.block b h2 (fun e=>by cases e;omega))];exact h3 i hi⟩
theorem DA (A:Nat) (w:World):GI A w (.slice none 0 0) []:=⟨none,0,rfl,by simp,.inl rfl⟩
theorem FT {A:Nat} {w:World} {B:Nat} {v:Value} {ws:List ByteArray} (h:w.ownsRow B 9 1 v ws.length (sc ws)) (hA:A<B) (hl:ws.length<=1000000):GI A w v ws:=by
 rcases h.2 with⟨rfl,h0⟩|⟨g,cap,cur,rfl,hBg,hg,hcap,_⟩
 ·have:ws=[]:=List.length_eq_zero_iff.1 h0
  subst this;exact DA A w
 ·refine⟨_,cap,rfl,⟨hl,hcap⟩,.inr ⟨g,0,rfl,by omega,(Array.getElem?_eq_some_iff.1 hg).1,fun i hi=> ?_⟩⟩
  have k0:=h.cells (g:=g) rfl i (.string ws[i]) (by simp[sc,hi]);rw[Go.WideShapes.add_plain]at k0;exact k0
def BN (s:ByteArray):Qy×Int:=match A0 s s.size 0 with
 |none=>(.nil,3)
 |some L=>IN L
theorem GD {s:ByteArray} (h:A0 s s.size 0=none):BN s=(.nil,3):=by rw[BN,h]
theorem GC {s:ByteArray} {L:List ByteArray} (h:A0 s s.size 0=some L):BN s=IN L:=by rw[BN,h]
def LD (k:Int):Int:=if k=3 then 3 else 0
def MIs (w:World):Option Addr->Qy->Prop
 |p,.nil=>p=none
 |p,.node k ws a b=>∃B x n c pa pb,p=some ⟨B,0,none⟩/\B<w.heap.size/\(w.cell? ⟨B,0,none⟩=some (.int .i64 k)/\w.cell? ⟨B,1,none⟩=some (.slice x n c)/\w.cell? ⟨B,2,none⟩=some (.int .i64 (LD k))/\w.cell? ⟨B,3,none⟩=some (.pointer pa)/\w.cell? ⟨B,4,none⟩=some (.pointer pb))/\It w x n ws/\MIs w pa a/\MIs w pb b
theorem MIs.below {w w':World} (hb:Below w.heap.size w w') (q:Qy):∀ {p:Option Addr},MIs w p q->MIs w' p q:=by
 induction q with
 |nil=>intro p h;exact h
 |node k ws a b ha hb'=>
  intro p h;obtain⟨B,x,n,c,pa,pb,e,h2,⟨c0,c1,c2,c3,c4⟩,hr,qa,qb⟩:=h;have key:∀o,w'.cell? ⟨B,o,none⟩=w.cell? ⟨B,o,none⟩:=fun o=>hb.cell (p:=⟨B,o,none⟩) h2;exact⟨B,x,n,c,pa,pb,e,Nat.lt_of_lt_of_le h2 hb.size,⟨by rw[key];exact c0,by rw[key];exact c1,by rw[key];exact c2,by rw[key];exact c3,by rw[key];exact c4⟩,hr.below hb,ha qa,hb' qb⟩
theorem Rw {A:Nat} {w:World} {v:Value} {ws:List ByteArray} (h:GI A w v ws):∃a c,v= .slice a ws.length c/\It w a ws.length ws:=by
 obtain⟨a,c,rfl,hl,h⟩:=h;refine⟨a,c,rfl,rfl,hl.1,?_⟩;rcases h with h|⟨b,off,e,_,h2,h3⟩
 ·exact .inl h
 ·exact .inr ⟨b,off,e,h2,h3⟩
theorem Jo (x:ByteArray):∀u∈[Value.string x],u.oneCell'=true:=by intro y hy;simp at hy;subst hy;rfl
theorem NF {s:Rst} (h:s.l=[]):s.peek=Ax:=by unfold Rst.peek;rw[h];split<;>rfl
theorem G2 {s:Rst} (h:s.bad≠0):s.peek=Ax:=by unfold Rst.peek;rw[if_neg h];rfl
theorem RJ {s:Rst} {x:ByteArray} {r:List ByteArray} (h:s.l=x::r) (hb:s.bad=0):s.peek=x:=by unfold Rst.peek;rw[h,if_pos hb];rfl
theorem Mu {t:ByteArray} {s:Rst} (h:(s.plain t).2.peek≠At):C7 t s=(.node 1 [(s.plain t).1] .nil .nil,(s.plain t).2):=by
 unfold C7;simp only;rw[Ca h];rfl
theorem JZ {t:ByteArray} {s:Rst} (h:(s.plain t).2.peek=At) {s3:Rst} (h3:((s.plain t).2.take At).2=s3) (hb:s3.peek=Ax\/Dd (BA s3.peek)=true):C7 t s=(.node 1 [(s.plain t).1] .nil .nil,s3.fails 3):=by
 unfold C7;simp only;rw[h3,AH h];simp only;rw[if_pos trivial,if_pos hb]
theorem JX {t:ByteArray} {s:Rst} (h:(s.plain t).2.peek=At) {s3:Rst} (h3:((s.plain t).2.take At).2=s3) (hb:¬(s3.peek=Ax\/Dd (BA s3.peek)=true)):C7 t s=(.node 3 [(s.plain t).1,((s3.take s3.peek).2.plain s3.peek).1] .nil .nil,((s3.take s3.peek).2.plain s3.peek).2):=by
 unfold C7;simp only;rw[h3,AH h];simp only;rw[if_pos trivial,if_neg hb]
theorem Mh {A:Nat} {w:World} (x:ByteArray) (hA:A<w.heap.size):GI A (w.alloc (.cells #[.string x] 9)) (.slice (some ⟨w.heap.size,0,none⟩) 1 1) [x]:=by
 refine⟨_,1,rfl,by simp,.inr ⟨w.heap.size,0,rfl,hA,by simp,fun i hi=> ?_⟩⟩;have:i=0:=by simp at hi;omega
 subst this;simp
theorem Qu {A:Nat} {w:World} (x y:ByteArray) (hA:A<w.heap.size):GI A (w.alloc (.cells #[.string x,.string y] 9)) (.slice (some ⟨w.heap.size,0,none⟩) 2 2) [x,y]:=by
 refine⟨_,2,rfl,by simp,.inr ⟨w.heap.size,0,rfl,hA,by simp,fun i hi=> ?_⟩⟩;have:i=0\/i=1:=by simp at hi;omega
 rcases this with rfl|rfl<;>simp
theorem Dl {w w':World} {A:Nat} (h:w.grownBy w' (some A)) (B:Nat) (hB:B<=A) (hw:B<=w.heap.size):Below B w w':=(Below.refl B w).grown h hw (fun g hg=>by cases hg;exact hB)
theorem P7:(Tryz.prog.info? 47).map (fun i=>(i.zero,i.size,i.bytes))=some (some (.agg #[.int .i64 0,.int .i64 0]),2,16):=by kernel_rfl
def htc (l:List Ht):List Value:=l.flatMap fun p=>[.int .i64 p.r,.int .i64 p.o]
theorem Gd (p:Ht) (l:List Ht):htc (p::l)= .int .i64 p.r:: .int .i64 p.o::htc l:=rfl
theorem De (a b:List Ht):htc (a++b)=htc a++htc b:=by simp[htc]
theorem QJ (xs:List Ht) (i:Nat) (h:i<xs.length):(htc xs)[i * 2]? =some (.int .i64 xs[i].r)/\(htc xs)[i * 2+1]? =some (.int .i64 xs[i].o):=by
 induction xs generalizing i with
 |nil=>simp at h
 |cons x xs ih=>
  cases i with
  |zero=>simp[Gd]
  |succ i=>
   have:=ih i (by simpa using h);rw[Gd,show(i+1) * 2=i * 2+2 by omega];simpa using this
theorem WC (xs:List Ht):∀u∈htc xs,u.oneCell'=true:=by
 intro u hu;simp[htc]at hu;obtain⟨x,_,h⟩:=hu;rcases h with rfl|rfl<;>rfl
def Qg (w:World) (a:Option Addr) (len:Nat) (xs:List Ht):Prop:=
 len=xs.length/\xs.length<=200000000/\(xs=[]\/∃b off,a=some ⟨b,off,none⟩/\b<w.heap.size/\∀i (h:i<xs.length),w.cell? ⟨b,off+i * 2,none⟩=some (.int .i64 xs[i].r)/\w.cell? ⟨b,off+i * 2+1,none⟩=some (.int .i64 xs[i].o))
theorem Qg.below {w w':World} {a:Option Addr} {len:Nat} {xs:List Ht} (h:Qg w a len xs) (hb:Below w.heap.size w w'):Qg w' a len xs:=by
 obtain⟨h1,h2,h3⟩:=h;refine⟨h1,h2,?_⟩;rcases h3 with h3|⟨b,off,e,hlt,hc⟩
 ·exact .inl h3
 ·exact .inr ⟨b,off,e,Nat.lt_of_lt_of_le hlt hb.size,fun i hi=>by rw[hb.cell (p:=⟨b,_,none⟩) hlt,hb.cell (p:=⟨b,_,none⟩) hlt];exact hc i hi⟩
theorem Nq {w:World} {B:Nat} {v:Value} {xs:List Ht} (h:w.ownsRow B 47 2 v xs.length (htc xs)) (hl:xs.length<=200000000):∃a cap,v= .slice a xs.length cap/\Qg w a xs.length xs/\(a=none->cap=0):=by
 rcases h.2 with⟨rfl,h0⟩|⟨g,cap,cur,rfl,_,hg,_⟩
 ·have:xs=[]:=List.length_eq_zero_iff.1 h0
  subst this;exact⟨none,0,rfl,⟨rfl,hl,.inl rfl⟩,fun _=>rfl⟩
 ·refine⟨some ⟨g,0,none⟩,cap,rfl,⟨rfl,hl,.inr ⟨g,0,rfl,(Array.getElem?_eq_some_iff.1 hg).1,fun i hi=> ?_⟩⟩,fun e=>by simp at e⟩
  obtain⟨c0,c1⟩:=QJ xs i hi;have k0:=h.cells (g:=g) rfl _ _ c0;have k1:=h.cells (g:=g) rfl _ _ c1;rw[Go.WideShapes.add_plain]at k0 k1;exact⟨k0,k1⟩
def InH (w:World) (v:Value) (xs:List Ht):Prop:=∃a cap,v= .slice a xs.length cap/\xs.length<=cap/\Qg w a xs.length xs/\(a=none->cap=0)
theorem InH.below {w w':World} {v:Value} {xs:List Ht} (h:InH w v xs) (hb:Below w.heap.size w w'):InH w' v xs:=by
 obtain⟨a,cap,h1,h2,h3,h4⟩:=h;exact⟨a,cap,h1,h2,h3.below hb,h4⟩
theorem InH.of_own {w:World} {B:Nat} {v:Value} {xs:List Ht} (h:w.ownsRow B 47 2 v xs.length (htc xs)) (hl:xs.length<=200000000):InH w v xs:=by
 obtain⟨a,cap,rfl,hr,hn⟩:=Nq h hl;refine⟨a,cap,rfl,?_,hr,hn⟩;rcases h.2 with⟨e,h0⟩|⟨g,c,cur,e,_,_,hc,_⟩
 ·omega
 ·cases e;exact hc
theorem InH.nil (w:World):InH w (.slice none 0 0) []:=⟨none,0,rfl,Nat.le_refl _,⟨rfl,by simp,.inl rfl⟩,fun _=>rfl⟩
theorem InH.tail {w:World} {b o n c:Nat} {x:Ht} {xs:List Ht} (h:InH w (.slice (some ⟨b,o,none⟩) (n+1) c) (x::xs)):InH w (.slice (if c=1 then some ⟨b,o,none⟩else some ⟨b,o+2,none⟩) n (c-1)) xs:=by
 obtain⟨a,cap,h1,h2,⟨_,hm,hr⟩,_⟩:=h
 cases h1
 simp only[List.length_cons]at h2 hm;refine⟨_,_,rfl,by omega,⟨rfl,by omega,?_⟩,fun e=>by split at e<;>cases e⟩
 by_cases hc:c=1
 ·exact .inl (List.length_eq_zero_iff.1 (by omega))
 ·rw[if_neg hc]
  rcases hr with hr|⟨b',o',e,hb,hrow⟩
  ·cases hr
  ·cases e
   refine .inr ⟨b,o+2,rfl,hb,fun i hi=> ?_⟩;have:=hrow (i+1) (by simp;omega);simp only[List.getElem_cons_succ]at this;rw[show o+2+i * 2=o+(i+1) * 2 by omega];exact this
theorem EW (w:World) (q:Ht) (t:TypeId):∀j u,(htc [q])[j]? =some u->(w.alloc (.cells #[.int .i64 q.r,.int .i64 q.o] t)).cell? ((⟨w.heap.size,0,none⟩:Addr).add j)=some u:=by
 intro j u hj;have hn:=heap_alloc_new w (.cells #[.int .i64 q.r,.int .i64 q.o] t);rw[Go.WideShapes.add_plain]
 match j with
 |0=>simp[htc]at hj;subst hj;simp
 |1=>simp[htc]at hj;subst hj;simp
 |j+2=>simp[htc]at hj
theorem FX (q:Ht):∀u∈htc [q],u.oneCell'=true:=WC [q]
theorem WB (xs:List Ht) (i:Nat) (h:i<xs.length) (x:Ht) (hr:xs[i].r=x.r):(htc xs).set (i * 2+1) (.int .i64 x.o)=htc (xs.set i x):=by
 induction xs generalizing i with
 |nil=>simp at h
 |cons y xs ih=>
  cases i with
  |zero=>simp at hr;simp[Gd,hr]
  |succ i=>
   have:=ih i (by simpa using h) (by simpa using hr);rw[Gd,show(i+1) * 2+1=(i * 2+1)+2 by omega];simp only[List.set_cons_succ,Gd,this]
end
section
open Go.RowKit Go.Maps
def rl (i:Int):Lit:= .int .i64 i
theorem Xl {i j:Int} (h:i≠j):rl i≠rl j:=fun e=>h (by unfold rl at e;injection e)
section
variable {m n:Nat} {l:List Ht} {w w':World}
end
section
variable {ops:Array Oper} {rest:List Oper} {o:Oper} {a:Act} {Q:Exit->Act->World->Prop} {m n:Nat} {l:List Ht}
theorem Tn (w:World):(zeroValue 3).run Tryz.prog w= .ok (.int .i64 0) w:=by kernel_rfl
theorem I2 {i:Int} (h0:0<=i) (h:i<=10000000000):(Lit.int .i64 i).wf=true:=WalkArith.wf_i64 (by omega)
theorem Vo {r:Int} (h:∀x∈l,x.r≠r):cn l r=0:=In h
theorem Xq (hr:Iv l) {x:Ht} (hx:x∈l):cn l x.r=x.o:=by
 induction l with
 |nil=>cases hx
 |cons y l ih=>
  show(if y.r=x.r then y.o else cn l x.r)=x.o;rcases List.mem_cons.1 hx with rfl|hx
  ·rw[if_pos rfl]
  ·have:=hr.hd x hx
   rw[if_neg (by omega)];exact ih hr.tl hx
end
end
section
open Go.RowKit
theorem Jv {y:Ht} {r:Int}:∀ {l:List Ht},(∀z∈l,z.r≠y.r)->cn (l++[y]) r=if y.r=r then y.o else cn l r
 | [],_=>rfl
 |x::l,h=>by
  show(if x.r=r then x.o else cn (l++[y]) r)=if y.r=r then y.o else(if x.r=r then x.o else cn l r);rw[Jv fun z hz=>h z (List.mem_cons_of_mem _ hz)];have:=h x (List.mem_cons_self ..)
  by_cases e:x.r=r
  ·rw[if_pos e,if_neg (by omega),if_pos e]
  ·rw[if_neg e,if_neg e]
theorem WT {l:List Ht} {q r:Int} (hr:Iv l) (hq:∀x∈l,x.r<=q):cn (K8 l q) r=cn l r+if q=r then 1 else 0:=by
 rcases List.eq_nil_or_concat l with rfl|⟨l',x,rfl⟩
 ·rw[K7]
  show(if q=r then 1 else 0)=(0:Int)+_;omega
 ·rw[List.concat_eq_append]at hr hq ⊢
  have hx:∀z∈l',z.r≠x.r:=fun z hz=>by
   have:=(List.pairwise_append.1 hr).2.2 z hz x (by simp);omega
  have hxq:=hq x (by simp)
  by_cases e:x.r=q
  ·subst e
   rw[K6,Jv (y:=⟨x.r,x.o+1⟩) hx,Jv hx];show(if x.r=r then x.o+1 else cn l' r)=_;split<;>omega
  ·have h2:∀z∈l'++[x],z.r≠q:=fun z hz=>by
    rcases List.mem_append.1 hz with hz|hz
    ·have:=(List.pairwise_append.1 hr).2.2 z hz x (by simp)
     omega
    ·obtain rfl:=List.mem_singleton.1 hz;exact e
   rw[MH e,Jv (y:=⟨q,1⟩) h2];show(if q=r then 1 else cn (l'++[x]) r)=_
   by_cases e2:q=r
   ·subst e2
    rw[if_pos rfl,if_pos rfl,In h2];rfl
   ·rw[if_neg e2,if_neg e2]
    omega
def cnt (ps:List Pl) (r:Int):Int:=((ps.filter fun p=>decide (p.r=r)).length:Nat)
theorem Oy (ps:List Pl) (p:Pl) (r:Int):cnt (ps++[p]) r=cnt ps r+if p.r=r then 1 else 0:=by
 unfold cnt;rw[List.filter_append,List.length_append]
 by_cases e:p.r=r
 ·rw[if_pos e,List.filter_cons,decide_eq_true e];simp
 ·rw[if_neg e,List.filter_cons,decide_eq_false e];simp
theorem PQ (a b:List Pl) (r:Int):cnt (a++b) r=cnt a r+cnt b r:=by
 unfold cnt;rw[List.filter_append,List.length_append];omega
theorem K5 (ps:List Pl) (r:Int):0<=cnt ps r:=by unfold cnt;omega
theorem Vm (ps:List Pl) (r:Int):cnt ps r<=ps.length:=by
 unfold cnt;have:=List.length_filter_le (fun p:Pl=>decide (p.r=r)) ps;omega
theorem QT (r:Int):∀ {ps:List Pl},ps.Pairwise LtP->cn (Cx ps) r=cnt ps r:=by
 intro ps
 induction hn:ps.length generalizing ps with
 |zero=>intro _;obtain rfl:=List.length_eq_zero_iff.1 hn;rfl
 |succ n ih=>
  intro h;rcases List.eq_nil_or_concat ps with rfl|⟨qs,p,rfl⟩
  ·cases hn
  ·rw[List.concat_eq_append]at hn h ⊢
   have h1:=(List.pairwise_append.1 h).1;have e:Cx (qs++[p])=K8 (Cx qs) p.r:=by unfold Cx O0;rw[List.foldl_append];rfl
   have hc:=Gm h1;rw[e,WT hc.hk.ris,ih (by simpa using hn) h1,Oy];intro x hx;obtain⟨q,hq,e⟩:=hc.mem x hx;have:=(List.pairwise_append.1 h).2.2 q hq p (by simp);unfold LtP at this;omega
theorem YL {X Y:List Ht} {M N:Nat} (hx:Hk M X) (hy:Hk N Y) (r:Int):cn (Ak 5 X Y) r=cn X r+cn Y r:=by
 rw[Vn 5 X Y r hx.ris hy.ris hx.pos hy.pos];have e:A8 5 (decide (0<cn X r)) (decide (0<cn Y r))=true:=rfl;rw[e,if_pos rfl]
theorem Yg {pls:ByteArray->List Pl} (hp:∀w,(pls w).Pairwise LtP) (r:Int) (ws:List ByteArray):∀(M:Nat) (l:List Ht),Hk M l->cn (FO pls l ws) r=cn l r+cnt (ws.flatMap pls) r:=by
 induction ws with
 |nil=>intro M l _;show cn l r=cn l r+0;omega
 |cons w ws ih=>
  intro M l h;have hc:=(Gm (hp w)).hk;rw[GB,ih _ _ (h.tog 5 hc),YL h hc,QT r (hp w),List.flatMap_cons,PQ];omega
theorem L9 {l:List Pl} (h:l.Pairwise LtP):l.Nodup:=h.imp (fun {a b} e e2=>by rw[e2]at e;exact LtP.irrefl b e)
theorem Vl {a b:List Pl} (h:a.Perm b) (r:Int):cnt a r=cnt b r:=by
 unfold cnt;rw[(h.filter _).length_eq]
theorem Kt {pls:ByteArray->List Pl} (hp:∀w,(pls w).Pairwise LtP):∀ws:List ByteArray,ws.Nodup->(∀u∈ws,∀v∈ws,∀p∈pls u,p∈pls v->u=v)->(ws.flatMap pls).Nodup
 | [],_,_=>List.nodup_nil
 |w::ws,h,hd=>by
  obtain⟨h1,h2⟩:=List.nodup_cons.1 h;rw[List.flatMap_cons,List.nodup_append];refine⟨L9 (hp w),Kt hp ws h2 fun u hu v hv=>hd u (List.mem_cons_of_mem _ hu) v (List.mem_cons_of_mem _ hv),fun p hpw q hq e=> ?_⟩;subst e;obtain⟨v,hv,hpv⟩:=List.mem_flatMap.1 hq;have:=hd w (List.mem_cons_self ..) v (List.mem_cons_of_mem _ hv) p hpw hpv;rw[this]at h1;exact h1 hv
theorem Vp {pls:ByteArray->List Pl} (hp:∀w,(pls w).Pairwise LtP) {ws:List ByteArray} (hw:ws.Nodup) (hd:∀u∈ws,∀v∈ws,∀p∈pls u,p∈pls v->u=v) {T:List Pl} (hT:T.Pairwise LtP) (hm:∀p,p∈T↔∃w∈ws,p∈pls w) (r:Int):cn (FO pls [] ws) r=cnt T r:=by
 rw[Yg hp r ws 0 [] (Hk.nil 0)];have:(ws.flatMap pls).Perm T:=(List.perm_ext_iff_of_nodup (Kt hp ws hw hd) (L9 hT)).2 fun p=>by rw[hm,List.mem_flatMap]
 rw[Vl this];show(0:Int)+_=_;omega
theorem WS {pls:ByteArray->List Pl} {u v:ByteArray} (r:Int):cn (Ed pls u v) r=if r∈Ag 3 [] (pls u) (pls v)then 1 else 0:=by
 unfold Ed;generalize Ag 3 [] (pls u) (pls v)=R
 induction R with
 |nil=>rfl
 |cons x R ih=>
  show(if x=r then(1:Int)else cn (R.map fun r=>⟨r,1⟩) r)=_;rw[ih]
  by_cases e:x=r
  ·subst e;simp
  ·have:¬r=x:=fun h=>e h.symm
   simp[e,this]
end
section
open Go.RowKit Go.Maps
structure Dr (B0 b:Nat) (nm:ByteArray) (D:List Nd) (pls:ByteArray->List Pl) (beg:ByteArray->List ByteArray) (w:World):Prop where
 doc:Gs B0 b D w
 pl:∀wd,LO D nm wd (pls wd)
 bg:∀s,Rc D nm s (beg s)
 len:D.length<=500
 one:∀d∈D,∀e∈D,d.n=e.n->d.r=e.r->d.a=e.a->d.w=e.w
section
variable {B0 b:Nat} {nm:ByteArray} {D:List Nd} {pls:ByteArray->List Pl} {beg:ByteArray->List ByteArray} {w w':World}
theorem Dr.below (h:Dr B0 b nm D pls beg w) (hb:Below w.heap.size w w'):Dr B0 b nm D pls beg w':=⟨h.doc.below hb,h.pl,h.bg,h.len,h.one⟩
theorem Dr.ris (h:Dr B0 b nm D pls beg w) (wd:ByteArray):(pls wd).Pairwise LtP:=((Gz _).1 (h.pl wd).right).2
theorem Dr.ok (h:Dr B0 b nm D pls beg w) (wd:ByteArray):∀p∈pls wd,OkP p:=((Gz _).1 (h.pl wd).right).1
theorem Dr.le (h:Dr B0 b nm D pls beg w) (wd:ByteArray):(pls wd).length<=500:=Nat.le_trans (h.pl wd).len h.len
theorem Dr.two (h:Dr B0 b nm D pls beg w) {u v:ByteArray} {p:Pl} (hu:p∈pls u) (hv:p∈pls v):u=v:=by
 obtain⟨d,hd,dn,rfl,rfl⟩:=((h.pl u).mem p).1 hu;obtain⟨e,he,en,rfl,ep⟩:=((h.pl v).mem d.pl).1 hv;have e1:(d.r:Int)=e.r:=congrArg Pl.r ep;have e2:(d.a:Int)=e.a:=congrArg Pl.a ep;exact h.one d hd e he (dn.trans en.symm) (by omega) (by omega)
theorem M7 (wd:ByteArray) (w:World):Calls Tryz.prog 31 #[.string wd] w fun e w'=>e= .returned (.func (.func 32) #[] #[.pointer (some ⟨w.heap.size,0,none⟩)])/\w'=w.alloc (.cells #[.string wd] 9):=by
 go_enter Tryz.func31,Tryz.ntmps31;go_wp2;go_ret;exact⟨rfl,rfl⟩
theorem P5 {bs:Nat} {wd:ByteArray} {w:World} (h:Af bs (.string wd) w) (y:ByteArray):Calls Tryz.prog 32 #[.string y,.pointer (some ⟨bs,0,none⟩)] w fun e w'=>e= .returned (.bool (decide (y=wd)))/\w'=w:=by
 have c0:=h.cell;clear h
 by_cases e:y=wd
 ·subst e
  rw[decide_eq_true rfl];go_enter Tryz.func32,Tryz.ntmps32;go_wp2;go_ret;exact⟨rfl,rfl⟩
 ·rw[decide_eq_false e]
  have hq:=F0 e;clear e;go_enter Tryz.func32,Tryz.ntmps32;go_wp2;go_ret;exact⟨rfl,rfl⟩
theorem FA (hS:AS) (h:Dr B0 b nm D pls beg w) {bs:Nat} {wd:ByteArray} (hs:Af bs (.string wd) w):
  Calls Tryz.prog 33 #[.pointer (some ⟨b,0,none⟩),.string nm,.func (.func 32) #[] #[.pointer (some ⟨bs,0,none⟩)]] w fun e w'=>∃v,e= .returned v/\InP w' v (pls wd)/\Below w.heap.size w w':=by
 refine(Lk (wd:=fun y=>decide (y=wd)) hS h.len h.doc (enters_of Tryz.func32 (by kernel_rfl) rfl) (fun wx y hb=>P5 (hs.below hb) y)).mono ?_;rintro _ w' ⟨v,T,rfl,hi,⟨t1,_,t3⟩,hb⟩;have e:pls wd=T:=(h.pl wd).same (t1.imp GA.2) fun p=>(t3 p).trans (by simp);exact⟨v,rfl,by rw[e];exact hi,hb⟩
theorem Sp {bq B bw off n c:Nat} {s:ByteArray} {w:World} (hq:Af bq (.pointer (some ⟨B,0,none⟩)) w) (c1:w.cell? ⟨B,1,none⟩=some (.slice (some ⟨bw,off,none⟩) (n+1) c)) (cs:w.cell? ⟨bw,off,none⟩=some (.string s)) (y:ByteArray):
  Calls Tryz.prog 35 #[.string y,.pointer (some ⟨bq,0,none⟩)] w fun e w'=>e= .returned (.bool (Lib.hasPrefix y.data.toList s.data.toList))/\w'=w:=by
 have c0:=hq.cell;have HP:Hid _:=DN y s w;have i1:(0:Int)<((n+1:Nat):Int):=by omega
 clear hq;go_enter Tryz.func35,Tryz.ntmps35;go_wp2_with fail;refine(show Calls _ _ _ _ _ from HP.out).mono ?_;rintro _ w9 ⟨rfl,h9⟩;obtain rfl:=h9.symm;clear h9 HP;go_wp2;go_ret;exact⟨rfl,rfl⟩
theorem RV (hS:AS) (h:Dr B0 b nm D pls beg w) {bq B bw off n c:Nat} {s:ByteArray} (hq:Af bq (.pointer (some ⟨B,0,none⟩)) w) (c1:w.cell? ⟨B,1,none⟩=some (.slice (some ⟨bw,off,none⟩) (n+1) c)) (cs:w.cell? ⟨bw,off,none⟩=some (.string s)):
  Calls Tryz.prog 33 #[.pointer (some ⟨b,0,none⟩),.string nm,.func (.func 35) #[] #[.pointer (some ⟨bq,0,none⟩)]] w fun e w'=>∃v T,e= .returned v/\InP w' v T/\(T.Pairwise LtP/\T.length<=500/\(∀p∈T,OkP p)/\∀r,cn (FO pls [] (beg s)) r=cnt T r)/\Below w.heap.size w w':=by
 have l1:=World.block_lt_of_cell? w _ c1;have l2:=World.block_lt_of_cell? w _ cs;refine(Lk (wd:=fun y=>Lib.hasPrefix y.data.toList s.data.toList) hS h.len h.doc (enters_of Tryz.func35 (by kernel_rfl) rfl) (fun wx y hb=>Sp (hq.below hb) ((hb.cell (p:=⟨B,1,none⟩) l1).trans c1) ((hb.cell (p:=⟨bw,off,none⟩) l2).trans cs) y)).mono ?_;rintro _ w' ⟨v,T,rfl,hi,⟨t1,t2,t3⟩,hb⟩
 have hm:∀p,p∈T↔∃x∈beg s,p∈pls x:=fun p=>by
  rw[t3];constructor
  ·rintro⟨d,hd,dn,dp,rfl⟩
   exact⟨d.w,((h.bg s).mem d.w).2 ⟨d,hd,dn,rfl,dp⟩,((h.pl d.w).mem d.pl).2 ⟨d,hd,dn,rfl,rfl⟩⟩
  ·rintro⟨x,hx,hp⟩
   obtain⟨_,_,_,_,hpx⟩:=((h.bg s).mem x).1 hx;obtain⟨d,hd,dn,dw,dp⟩:=((h.pl x).mem p).1 hp;exact⟨d,hd,dn,by rw[dw];exact hpx,dp⟩
 have hnd:(beg s).Nodup:=(h.bg s).ord.imp (fun {a b} e e2=>by rw[e2,AM]at e;cases e);refine⟨v,T,rfl,hi,⟨t1,t2,fun p hp=> ?_,fun r=>Vp h.ris hnd (fun u _ v _ p hu hv=>h.two hu hv) t1 hm r⟩,hb⟩;obtain⟨x,_,hx⟩:=(hm p).1 hp;exact h.ok x p hx
end
structure FP (D:DataW Unit) (c:Int->Int):Prop where
 has:∀i:Int,Maps.has D (rl i)=true↔c i≠0
 elem:∀i:Int,c i≠0->∀z,D.atKey (rl i) z= .lit (.int .i64 (c i))
theorem FP.not {D:DataW Unit} {c:Int->Int} (h:FP D c) {i:Int} (hn:c i=0):Maps.has D (rl i)=false:=by
 cases e:Maps.has D (rl i)with
 |false=>rfl
 |true=>exact absurd hn ((h.has i).1 e)
theorem FP.put {D:DataW Unit} {c:Int->Int} (h:FP D c) (ht:Tidy D) (i:Int) {v:Int} (hv:v≠0):FP (D.put (rl i) (.lit (.int .i64 v))) (fun j=>if j=i then v else c j):=by
 have hk:WideAt.IsKeyLit (rl i):=trivial;refine⟨fun j=> ?_,fun j hj z=> ?_⟩
 ·by_cases e:j=i
  ·subst e
   rw[has_put_same ht.isMap hk,if_pos rfl];exact⟨fun _=>hv,fun _=>rfl⟩
  ·rw[has_put_other (Xl e),h.has j,if_neg e]
 ·by_cases e:j=i
  ·subst e
   rw[if_pos rfl];exact atKey_put_same ht.isMap hk _ z
  ·rw[if_neg e]at hj ⊢
   rw[atKey_put_other (Xl e)];exact h.elem j hj z
def Ah (m n:Nat) (c:Int->Int) (w:World):Prop:=∃D:DataW Unit,w.ownsMap Tryz.prog 3 (plainElem Tryz.prog 3) m n D/\FP D c/\Maps.size D<=n
section
variable {m n:Nat} {c:Int->Int} {w w':World}
theorem Ah.lt (h:Ah m n c w):m<w.heap.size:=by obtain⟨D,hD,_⟩:=h;exact hD.lt
theorem Ah.block (h:Ah m n c w) (hb:w'.heap[m]? =w.heap[m]?):Ah m n c w':=by
 obtain⟨D,⟨es,clock,hm,F,hs,hD⟩,hM⟩:=h;exact⟨D,⟨es,clock,hb.trans hm,F,hs,hD⟩,hM⟩
theorem Ah.only {S:Nat->Prop} (h:Ah m n c w) (ho:Aa S w w') (hs:¬S m):Ah m n c w':=h.block (ho.block m h.lt hs)
theorem Ah.below (h:Ah m n c w) (hb:Below w.heap.size w w'):Ah m n c w':=h.block (hb.block m h.lt)
theorem Ah.mono {n':Nat} (h:Ah m n c w) (hn:n<=n'):Ah m n' c w:=by
 obtain⟨D,hD,hM,hs⟩:=h;exact⟨D,hD.mono hn,hM,Nat.le_trans hs hn⟩
theorem Ah.new (w:World):Ah w.heap.size 0 (fun _=>0) (w.alloc (.map #[] 0)):=
 ⟨.map [],World.ownsMap_made _ _ _ _,⟨fun k=>⟨fun h=>by simp[has_eq]at h,fun h=>absurd rfl h⟩,fun i h=>absurd rfl h⟩,Nat.le_refl _⟩
theorem Ah.as {d:Int->Int} (h:Ah m n c w) (e:∀i,c i=d i):Ah m n d w:=by
 have:c=d:=funext e;rw[<-this];exact h
end
section
variable {ops:Array Oper} {rest:List Oper} {o:Oper} {a:Act} {Q:Exit->Act->World->Prop} {m n:Nat} {c:Int->Int}
theorem XQ (w:World) (hg:o.guard=none) (mo x:Operand) (hop:o.op=Op.lookup 44 mo x false) (hS:Ah m n c w) (r:Int) (h0:0<=r) (h1:r<=10000000000) (hm:a.eval mo= .map (some m)) (hx:a.eval x= .int .i64 r)
  (hK:wpList Tryz.prog ops Q rest (a.put o.dst (.int .i64 (c r))) w):wpList Tryz.prog ops Q (o::rest) a w:=by
 obtain⟨D,hD,hM,_⟩:=hS;refine wpList_lookup_own_int w hg mo x 44 hop 3 3 .i64 BF Tryz.underlying44 Tryz.underlying3 (Tn w) m n D hm hD _ _ hx (keyOf_int_mk Tryz.underlying3 (I2 h0 h1)) ?_;intro v hv _;rw[show(Lit.int .i64 r)=rl r from rfl]at hv
 by_cases e:c r=0
 ·rw[atKey_of_not_has (hM.not e)]at hv
  injection hv with hv;injection hv with _ hv;subst hv;rw[e]at hK;exact hK
 ·rw[hM.elem r e]at hv
  injection hv with hv;injection hv with _ hv;subst hv;exact hK
theorem Yz (w:World) (hg:o.guard=none) (mo x v:Operand) (hop:o.op=Op.mapUpdate 44 mo x v) (hS:Ah m n c w) (hnn:n<1000000000) (r y:Int) (h0:0<=r) (h1:r<=10000000000) (h2:0<y) (h3:y<=10000000000) (hm:a.eval mo= .map (some m)) (hx:a.eval x= .int .i64 r) (hv:a.eval v= .int .i64 y)
  (hK:∀w',Ah m (n+1) (fun j=>if j=r then y else c j) w'->Aa (fun b=>b=m) w w'->wpList Tryz.prog ops Q rest (a.put o.dst undef) w'):wpList Tryz.prog ops Q (o::rest) a w:=by
 obtain⟨D,hD,hM,hs⟩:=hS;refine wpList_mapUpdate_own w hg mo x v 44 hop 3 3 BF Tryz.underlying44 (plainElem Tryz.prog 3) m n D hm hD (Nat.lt_trans hnn (by decide)) _ _ _ hx hv (keyOf_int_mk Tryz.underlying3 (I2 h0 h1)) _ [] (plainElem_int Tryz.underlying3 (I2 (Int.le_of_lt h2) h3)) ?_;intro w' h1 h2';refine hK w' ⟨_,h1,hM.put (hD.tidy BF) r (by omega),?_⟩ (Aa.of_grown h2' rfl);rw[show(Lit.int .i64 r)=rl r from rfl,size_put (hD.tidy BF)];split<;>omega
end
structure Lb (c:Int->Int) (Z:List Int) (left:Lit->Bool):Prop where
 l:∀x:Int,left (rl x)=true↔(c x≠0/\x∉Z)
 m:∀x∈Z,c x≠0
theorem Lb.start {D:DataW Unit} {c:Int->Int} (h:FP D c):Lb c [] (Maps.has D):=⟨fun x=>by rw[h.has x];simp,fun x hx=>(by cases hx)⟩
theorem Wa (x y:Int):(rl y).sameKey (rl x)=true↔y=x:=by simp[rl,Lit.sameKey]
theorem Lb.step {c:Int->Int} {Z:List Int} {left:Lit->Bool} (h:Lb c Z left) {x:Int} (hx:left (rl x)=true):Lb c (x::Z) (fun z=>left z && !z.sameKey (rl x)):=by
 obtain⟨h1,h2⟩:=(h.l x).1 hx;refine⟨fun y=> ?_,fun y hy=> ?_⟩
 ·rw[Bool.and_eq_true,h.l y,List.mem_cons]
  have hk:=Wa x y
  cases hs:(rl y).sameKey (rl x)
  ·have:¬y=x:=fun e=>by rw[hk.2 e]at hs;cases hs
   simp[this]
  ·have:=hk.1 hs
   simp[this]
 ·rcases List.mem_cons.1 hy with rfl|hy
  ·exact h1
  ·exact h.m y hy
theorem Lb.done {c:Int->Int} {Z:List Int} {left:Lit->Bool} (h:Lb c Z left) (hl:∀k,left k=false):∀x,x∈Z↔c x≠0:=fun x=>⟨h.m x,fun hs=>by
 by_cases hz:x∈Z
 ·exact hz
 ·have:=(h.l x).2 ⟨hs,hz⟩
  rw[hl]at this;cases this⟩
end
section
open Go.RowKit
theorem Uz (w:World) (o:Obj) (q:Pl):∀j u,(plc [q])[j]? =some u->((w.alloc o).alloc (.cells #[.int .i64 q.r,.int .i64 q.a] 81)).cell? ((⟨w.heap.size+1,0,none⟩:Addr).add j)=some u:=by
 have h:=G6 (w.alloc o) q 81;rw[show(w.alloc o).heap.size=w.heap.size+1 by simp]at h;exact h
theorem KS (hS:AS) (v1 v2:Value) (xs ys:List Pl) (w:World) (h1:InP w v1 xs) (h2:InP w v2 ys) (hl1:xs.length<=10000) (hl2:ys.length<=10000) (hcl:(AT Dp ys xs).length<=10000) (hk1:∀z∈xs,OkP z):
  Calls Tryz.prog 34 #[v1,v2] w fun e w'=>∃v' T,e= .returned v'/\w'.ownsRow w.heap.size 81 2 v' T.length (plc T)/\(T.Pairwise LtP/\(∀x,x∈T↔x∈AT Dp ys xs)/\T.length<=10000)/\Below w.heap.size w w':=by
 obtain⟨i0,hi,hz0,hz1,hz2⟩:=A5 He;obtain⟨a1,c1,rfl,_,⟨_,_,hx⟩,_⟩:=h1;obtain⟨a2,c2,rfl,_,⟨_,_,hy⟩,_⟩:=h2;have HS:Hid AS:=hS;have HK:Hid (∀z∈xs,OkP z):=hk1;obtain⟨F,hF⟩:∃F,AT Dp ys xs=F:=⟨_,rfl⟩;have hFl:F.length<=10000:=by rw[<-hF];exact hcl
 clear hcl;have HF:Hid (AT Dp (ys.drop 0) xs=F):=hF;rw[hF];clear hS hk1 hF;go_enter Tryz.func34,Tryz.ntmps34;go_wp2;go_loopw [5,12] (fun v i wr=>∃(k:Nat) (l:List Pl),k<=ys.length/\i= .int .i64 k/\Hid (l++AT Dp (ys.drop k) xs=F)/\Hid (wr.ownsRow w.heap.size 81 2 v l.length (plc l)/\Below w.heap.size w wr)) (fun _ i _=>ys.length-(intOf i).toNat)
 case atStart=>exact⟨0,[],Nat.zero_le _,rfl,HF,World.ownsRow_nil _ _ _ _,Below.refl _ _⟩
 case round=>
  clear HF;obtain⟨k,l,hk,rfl,hz,hown⟩:=hrel
  by_cases hkl:k<ys.length
  ·rcases hy with hy|⟨b2,o2,rfl,hb2,hrow2⟩
   ·simp[hy]at hkl
   obtain⟨g1,g2⟩:=hrow2 k hkl;clear hrow2;rw[<-hown.out.2.cell (p:=⟨b2,_,none⟩) hb2]at g1 g2
   have HZ:Hid (l++((xs.drop 0).filterMap (Dp ys[k])++AT Dp (ys.drop (k+1)) xs)=F):=by
    show _=_;rw[<-hz.out,Jd Dp xs hkl]
   have i1:(k:Int)<(ys.length:Int):=by omega
   generalize ys[k]=q at *;obtain⟨R,hR⟩:∃R,AT Dp (ys.drop (k+1)) xs=R:=⟨_,rfl⟩;rw[hR]at HZ;have HR:Hid (AT Dp (ys.drop (k+1)) xs=R):=hR;have HB:Hid (Below w.heap.size w wr):=hown.out.2;have HO:Hid (wr.ownsRow w.heap.size 81 2 u5 l.length (plc l)):=hown.out.1;have HA:Hid (Below wr.heap.size wr (wr.alloc (.cells #[.int .i64 q.r,.int .i64 q.a] 81))):=(Below.refl _ _).alloc (Nat.le_refl _) _;have HV:Hid (Az wr.heap.size q (wr.alloc (.cells #[.int .i64 q.r,.int .i64 q.a] 81))):=Az.box wr q;clear hown hz hR;have hsw:=HB.out.size;go_wp2;obtain⟨wo,rfl⟩:∃wo,wo=wr:=⟨_,rfl⟩;obtain⟨vo,rfl⟩:∃vo,vo=u5:=⟨_,rfl⟩;go_loopw [5,18] (fun v i wi=>∃(j:Nat) (m:List Pl),j<=xs.length/\i= .int .i64 j/\Hid (m++((xs.drop j).filterMap (Dp q)++R)=F)/\Hid (wi.ownsRow w.heap.size 81 2 v m.length (plc m)/\Gr (wo.alloc (.cells #[.int .i64 q.r,.int .i64 q.a] 81)) wi vo v)) (fun _ i _=>xs.length-(intOf i).toNat)
   case atStart=>exact⟨0,l,Nat.zero_le _,rfl,HZ,Bi HO.out HA.out,Gr.refl _ _⟩
   case round=>
    clear HZ;obtain⟨j,m,hj,rfl,hz,hown⟩:=hrel;have hmF:m.length<=F.length:=by rw[<-hz.out];simp
    have hv:=Az.gr HV.out hown.out.2 (F9 HO.out _ (.inr (Nat.le_refl _)));obtain⟨q1,q2,_,_,hvl⟩:=hv;have HBi:Hid (Below w.heap.size w wr):=(HB.out.trans (HA.out.mono HB.out.size)).trans (Gr.below hown.out.2 (fun k e=>(HO.out.lt k e).1) (by simp;omega));have hsi:=HBi.out.size;have HOi:Hid (wr.ownsRow w.heap.size 81 2 u5 m.length (plc m)):=hown.out.1;have HG:Hid (Gr (wo.alloc (.cells #[.int .i64 q.r,.int .i64 q.a] 81)) wr vo u5):=hown.out.2;clear hown
    by_cases hjl:j<xs.length
    ·rcases hx with hx|⟨b1,o1,rfl,hb1,hrow1⟩
     ·simp[hx]at hjl
     obtain⟨g3,g4⟩:=hrow1 j hjl;clear hrow1;rw[<-HBi.out.cell (p:=⟨b1,_,none⟩) hb1]at g3 g4;have i2:(j:Int)<(xs.length:Int):=by omega
     obtain⟨ok1,ok2,ok3,ok4⟩:=HK.out xs[j] (List.getElem_mem hjl)
     have HY:Hid (∀x,Dp q xs[j]=some x->m++([x]++((xs.drop (j+1)).filterMap (Dp q)++R))=F):=fun x e=>by
      rw[<-hz.out,LF hjl e,List.append_assoc]
     have HN:Hid (Dp q xs[j]=none->m++((xs.drop (j+1)).filterMap (Dp q)++R)=F):=fun e=>by
      rw[<-hz.out,Oo hjl e]
     clear hz;generalize xs[j]=p at *;have k1:(wr.alloc (.cells #[.int .i64 p.r,.int .i64 p.a] 81)).cell? ⟨wo.heap.size,0,none⟩=some (.int .i64 q.r):=by rw[World.cell?_alloc_lt _ _ _ (by exact hvl)];exact q1
     have k2:(wr.alloc (.cells #[.int .i64 p.r,.int .i64 p.a] 81)).cell? ⟨wo.heap.size,1,none⟩=some (.int .i64 q.a):=by rw[World.cell?_alloc_lt _ _ _ (by exact hvl)];exact q2
     clear q1 q2
     by_cases m1:p.r=q.r
     ·have j1:(p.r == q.r)=true:=by simpa using m1
      by_cases m2:q.a=p.a+1
      ·have j2:(q.a == p.a+1)=true:=by simpa using m2
       have HY2:Hid ((m++[q])++((xs.drop (j+1)).filterMap (Dp q)++R)=F):=by
        show _=_;rw[List.append_assoc];exact HY.out q (by rw[Dp,if_pos ⟨m1,m2⟩])
       clear HY HN m1 m2
       go_wp2_with (at_builtin;refine wpList_append_lies _ rfl _ _ 91 rfl w.heap.size 81 i0 (.agg #[.int .i64 0,.int .i64 0]) 2 16 Tryz.underlying91 hi hz0 hz1 hz2 rfl (by decide) _ _ _ rfl ((HOi.out.alloc _).alloc _) ⟨wr.heap.size+1,0,none⟩ 1 1 (plc [q]) rfl rfl (Uz wr _ q) (I8 q) (by decide) (by simp[maxLen];omega) (by omega) (by simp;omega) _ rfl ?_)
       intro g cap w1 hown' hgrow hg _
       have HG1:Hid (Gr (wo.alloc (.cells #[.int .i64 q.r,.int .i64 q.a] 81)) w1 vo (.slice (some ⟨g,0,none⟩) (m.length+1) cap)):=HG.out.trans (Gr.alloc _ (Gr.alloc _ ⟨hgrow,fun k hk=>by
        have e:g=k:=by simpa [Fl]using hk
        subst e;rcases hg with h|h
        ·exact .inl h
        ·exact .inr (by rw[h];simp)⟩))
       have HO1:Hid (w1.ownsRow w.heap.size 81 2 (.slice (some ⟨g,0,none⟩) (m.length+1) cap) (m++[q]).length (plc (m++[q]))):=Bc hown' (by simp) (by rw[Cc]);clear hown' hgrow hg k1 k2 HOi HG;go_wp2;go_roundw
       case rel=>exact⟨j+1,m++[q],by omega,by go_num,HY2,HO1.out,HG1.out⟩
       case measure=>simp[intOf];omega
      ·have j2:(q.a == p.a+1)=false:=by simpa using m2
       have HN2:Hid _:=HN.out (by rw[Dp,if_neg (fun h=>m2 h.2)]);clear HY HN m1 m2;go_wp2;go_roundw
       case rel=>exact⟨j+1,m,by omega,by go_num,HN2,HOi.out.alloc _,Gr.more HG.out _⟩
       case measure=>simp[intOf];omega
     ·have j1:(p.r == q.r)=false:=by simpa using m1
      have HN2:Hid _:=HN.out (by rw[Dp,if_neg (fun h=>m1 h.1)]);clear HY HN m1;go_wp2;go_roundw
      case rel=>exact⟨j+1,m,by omega,by go_num,HN2,HOi.out.alloc _,Gr.more HG.out _⟩
      case measure=>simp[intOf];omega
    ·have HE:Hid (m++R=F):=by
      show _=_;have h:=hz.out;rw[List.drop_eq_nil_of_le (by omega)]at h;exact h
     clear hz q1 q2;go_wp2;go_roundw
     case rel=>exact⟨k+1,m,by omega,by go_num,by rw[HR.out];exact HE,HOi.out,HBi.out⟩
     case measure=>simp[intOf];omega
  ·have e:l=F:=by
    have h:=hz.out;rw[List.drop_eq_nil_of_le (by omega),Kz,List.append_nil]at h;exact h
   subst e;have HO:Hid (wr.ownsRow w.heap.size 81 2 u5 l.length (plc l)):=hown.out.1;have HB:Hid (Below w.heap.size w wr):=hown.out.2;clear hown hz;go_wp2_with fail;refine(HS.out w.heap.size u5 l _ HO.out HB.out.size (by omega)).mono ?_;rintro _ w6 ⟨v6,T,rfl,ho6,⟨t1,t2,t3⟩,hb6⟩;have HO6:Hid (w6.ownsRow w.heap.size 81 2 v6 T.length (plc T)/\(T.Pairwise LtP/\(∀x,x∈T↔x∈l)/\T.length<=10000)):=⟨ho6,t1,t2,by omega⟩;have HB6:Hid (Below w.heap.size w w6):=HB.out.trans hb6;clear ho6 t1 t2 t3 hb6 HO HB;go_wp2;go_ret;exact⟨_,T,rfl,HO6.out.1,HO6.out.2,HB6.out⟩
end
end Go.Proofs.YtgfldnaahojnlaaGreatDoor
