/- MatchFinds: part 25. -/
import Derived.Test.YtgfldnaahojnlaaGreatDoorF24
set_option maxRecDepth 100000
set_option maxHeartbeats 4000000
namespace Go.Proofs.YtgfldnaahojnlaaGreatDoor
section
open Go.RowKit
theorem LtP.trans {a b c:Pl} (h:LtP a b) (k:LtP b c):LtP a c:=by unfold LtP at *;omega
theorem LtP.irrefl (a:Pl):¬LtP a a:=by unfold LtP;omega
theorem LtP.asymm {a b:Pl} (h:LtP a b):¬LtP b a:=by unfold LtP at *;omega
theorem GA {p q:Pl}:BO p q<0↔LtP p q:=by
 rcases Hj p q with⟨e,l⟩|⟨e,l⟩|⟨e,l⟩
 ·exact⟨fun _=>l,fun _=>by omega⟩
 ·subst l;exact⟨fun h=>by omega,fun h=>absurd h (LtP.irrefl _)⟩
 ·exact⟨fun h=>by omega,fun h=>absurd l h.asymm⟩
theorem Og {p q:Pl}:CT p q=true↔OkP q/\LtP p q:=by
 simp only[CT,okB,Bool.and_eq_true,decide_eq_true_eq,GA,OkP];exact⟨fun⟨⟨⟨⟨a,b⟩,c⟩,d⟩,e⟩=>⟨⟨a,b,c,d⟩,e⟩,fun⟨⟨a,b,c,d⟩,e⟩=>⟨⟨⟨⟨a,b⟩,c⟩,d⟩,e⟩⟩
theorem Hv (l:List Pl):∀p,Al p l=true->(∀q∈l,OkP q/\LtP p q)/\l.Pairwise LtP:=by
 induction l with
 |nil=>intro p _;exact⟨fun q h=>(by cases h),List.Pairwise.nil⟩
 |cons q l ih=>
  intro p h;simp only[Al,Bool.and_eq_true,Og]at h;obtain⟨h1,h2⟩:=ih q h.2;refine⟨fun z hz=> ?_,List.Pairwise.cons (fun z hz=>(h1 z hz).2) h2⟩;rcases List.mem_cons.1 hz with rfl|hz
  ·exact h.1
  ·exact⟨(h1 z hz).1,h.1.2.trans (h1 z hz).2⟩
theorem Mc (l:List Pl):∀p,(∀q∈l,OkP q/\LtP p q)->l.Pairwise LtP->Al p l=true:=by
 induction l with
 |nil=>intro p _ _;rfl
 |cons q l ih=>
  intro p h k;simp only[Al,Bool.and_eq_true,Og];obtain⟨k1,k2⟩:=List.pairwise_cons.1 k;exact⟨h q (by simp),ih q (fun z hz=>⟨(h z (by simp[hz])).1,k1 z hz⟩) k2⟩
theorem Uu {q:Pl} (h:OkP q):LtP ⟨0,0⟩ q:=by unfold OkP at h;unfold LtP;exact .inl (by simp only;omega)
theorem Gz (l:List Pl):DB l=true↔(∀q∈l,OkP q)/\l.Pairwise LtP:=
 ⟨fun h=>⟨fun q hq=>((Hv l _ h).1 q hq).1,(Hv l _ h).2⟩,fun h=>Mc l _ (fun q hq=>⟨h.1 q hq,Uu (h.1 q hq)⟩) h.2⟩
theorem Yr (n:Nat):∀(a b:List Pl),a.length+b.length<=n->∀x,x∈CQ a b↔x∈a\/x∈b:=by
 induction n with
 |zero=>
  intro a b h x;have ha:a=[]:=List.length_eq_zero_iff.1 (by omega);have hb:b=[]:=List.length_eq_zero_iff.1 (by omega);subst ha hb;simp[CQ]
 |succ n ih=>
  intro a b h x
  cases a with
  |nil=>simp[CQ]
  |cons u a=>
   cases b with
   |nil=>simp[CQ]
   |cons v b=>
    simp only[List.length_cons]at h;rcases Hj u v with⟨e,l⟩|⟨e,l⟩|⟨e,l⟩
    ·rw[U6 e,List.mem_cons,ih a (v::b) (by simp only[List.length_cons];omega)]
     simp only[List.mem_cons];exact⟨fun h=>by rcases h with h|h|h|h<;>simp[h],fun h=>by rcases h with(h|h)|h|h<;>simp[h]⟩
    ·subst l
     rw[U8 e,List.mem_cons,ih a b (by omega)];simp only[List.mem_cons];exact⟨fun h=>by rcases h with h|h|h<;>simp[h],fun h=>by rcases h with(h|h)|h|h<;>simp[h]⟩
    ·rw[U7 e,List.mem_cons,ih (u::a) b (by simp only[List.length_cons];omega)]
     simp only[List.mem_cons];exact⟨fun h=>by rcases h with h|(h|h)|h<;>simp[h],fun h=>by rcases h with(h|h)|h|h<;>simp[h]⟩
theorem OW {α:Type} {R:α->α->Prop} (hi:∀a,¬R a a) (hs:∀a b,R a b->¬R b a):∀(a b:List α),a.Pairwise R->b.Pairwise R->(∀x,x∈a↔x∈b)->a=b:=by
 intro a
 induction a with
 |nil=>
  intro b _ _ h
  cases b with
  |nil=>rfl
  |cons y b=>exact absurd ((h y).2 (by simp)) (by simp)
 |cons x a ih=>
  intro b ha hb h
  cases b with
  |nil=>exact absurd ((h x).1 (by simp)) (by simp)
  |cons y b=>
   obtain⟨a1,a2⟩:=List.pairwise_cons.1 ha;obtain⟨b1,b2⟩:=List.pairwise_cons.1 hb
   have hxy:x=y:=by
    rcases List.mem_cons.1 ((h x).1 (by simp))with e|e
    ·exact e
    ·rcases List.mem_cons.1 ((h y).2 (by simp))with e'|e'
     ·exact e'.symm
     ·exact absurd (a1 y e') (hs _ _ (b1 x e))
   subst hxy;rw[ih b a2 b2 (fun z=>⟨fun hz=> ?_,fun hz=> ?_⟩)]
   ·rcases List.mem_cons.1 ((h z).1 (by simp[hz]))with e|e
    ·subst e;exact absurd (a1 z hz) (hi z)
    ·exact e
   ·rcases List.mem_cons.1 ((h z).2 (by simp[hz]))with e|e
    ·subst e;exact absurd (b1 z hz) (hi z)
    ·exact e
theorem OD {l:List Int} {r:Int} (hl:l.Pairwise (·< ·)) (hr:∀x∈l,x<=r):(Bu l r).Pairwise (·< ·)/\(∀x,x∈Bu l r↔x∈l\/x=r):=by
 unfold Bu;split
 ·rename_i h
  have hm:r∈l:=List.mem_of_getLast? h;exact⟨hl,fun x=>⟨fun h=> .inl h,fun h=>by rcases h with h|rfl;exact h;exact hm⟩⟩
 ·rename_i h
  have hlt:∀x∈l,x<r:=by
   intro x hx;rcases Int.lt_or_eq_of_le (hr x hx)with h1|h1
   ·exact h1
   ·subst h1
    exfalso;obtain⟨i,hi,he⟩:=List.getElem_of_mem hx
    by_cases hlast:i=l.length-1
    ·apply h
     rw[List.getLast?_eq_getElem?,<-hlast,List.getElem?_eq_getElem hi,he]
    ·have h2:=List.pairwise_iff_getElem.1 hl i (l.length-1) hi (by omega) (by omega)
     have h3:=hr (l[l.length-1]'(by omega)) (List.getElem_mem _);omega
  refine⟨?_,fun x=>by simp⟩;rw[List.pairwise_append];exact⟨hl,by simp,fun a ha b hb=>by obtain rfl:=List.mem_singleton.1 hb;exact hlt a ha⟩
theorem RZ (far:Int) (n:Nat):∀(acc:List Int) (a b:List Pl),a.length+b.length<=n->acc.Pairwise (·< ·)->a.Pairwise LtP->b.Pairwise LtP->(∀x∈acc,(∀p∈a,x<=p.r)/\(∀p∈b,x<=p.r))->
  (Ag far acc a b).Pairwise (·< ·)/\(∀r,r∈Ag far acc a b↔r∈acc\/∃p∈a,∃q∈b,p.r=r/\q.r=r/\p.a-q.a<=far/\q.a-p.a<=far):=by
 induction n with
 |zero=>
  intro acc a b h hacc _ _ _;have ha:a=[]:=List.length_eq_zero_iff.1 (by omega);subst ha;exact⟨by simpa [Ag]using hacc,fun r=>by simp[Ag]⟩
 |succ n ih=>
  intro acc a b h hacc ha hb hbd
  cases a with
  |nil=>exact⟨by simpa [Ag]using hacc,fun r=>by simp[Ag]⟩
  |cons x a=>
   cases b with
   |nil=>exact⟨by simpa [Ag]using hacc,fun r=>by simp[Ag]⟩
   |cons y b=>
    simp only[List.length_cons]at h;obtain⟨a1,a2⟩:=List.pairwise_cons.1 ha;obtain⟨b1,b2⟩:=List.pairwise_cons.1 hb;obtain⟨acc',hacc'⟩:∃acc',(if x.r=y.r/\max (x.a-y.a) (y.a-x.a)<=far then Bu acc x.r else acc)=acc':=⟨_,rfl⟩
    have hs:acc'.Pairwise (·< ·)/\(∀r,r∈acc'↔r∈acc\/(x.r=r/\y.r=r/\x.a-y.a<=far/\y.a-x.a<=far)):=by
     rw[<-hacc'];split
     ·rename_i hc
      obtain⟨s1,s2⟩:=OD hacc (fun z hz=>(hbd z hz).1 x (by simp));refine⟨s1,fun r=> ?_⟩;rw[s2];exact⟨fun h=>by rcases h with h|h;exact .inl h;exact .inr ⟨by omega,by omega,by omega,by omega⟩,fun h=>by rcases h with h|h;exact .inl h;exact .inr (by omega)⟩
     ·rename_i hc
      refine⟨hacc,fun r=>⟨fun h=> .inl h,fun h=> ?_⟩⟩;rcases h with h|⟨h1,h2,h3,h4⟩
      ·exact h
      ·exact absurd ⟨by omega,by omega⟩ hc
    have hbd':∀z∈acc',(∀p∈x::a,z<=p.r)/\(∀p∈y::b,z<=p.r):=by
     intro z hz;rcases(hs.2 z).1 hz with h1|⟨h1,h2,_⟩
     ·exact hbd z h1
     ·refine⟨fun p hp=> ?_,fun p hp=> ?_⟩
      ·rcases List.mem_cons.1 hp with e|hp
       ·subst e;omega
       ·have:=a1 p hp;unfold LtP at this;omega
      ·rcases List.mem_cons.1 hp with e|hp
       ·subst e;omega
       ·have:=b1 p hp;unfold LtP at this;omega
    rw[Ag,hacc'];split
    ·rename_i hc
     have hlt:=GA.1 hc;obtain⟨t1,t2⟩:=ih acc' a (y::b) (by simp only[List.length_cons];omega) hs.1 a2 hb (fun z hz=>⟨fun p hp=>(hbd' z hz).1 p (by simp[hp]),(hbd' z hz).2⟩);refine⟨t1,fun r=> ?_⟩;rw[t2,hs.2];constructor
     ·rintro((h1|h1)|⟨p,hp,q,hq,h1⟩)
      ·exact .inl h1
      ·exact .inr ⟨x,by simp,y,by simp,h1⟩
      ·exact .inr ⟨p,by simp[hp],q,hq,h1⟩
     ·rintro(h1|⟨p,hp,q,hq,h1,h2,h3,h4⟩)
      ·exact .inl (.inl h1)
      ·rcases List.mem_cons.1 hp with e|hp
       ·subst e
        refine .inl (.inr ?_);rcases List.mem_cons.1 hq with e|hq
        ·subst e;exact⟨h1,h2,h3,h4⟩
        ·have:=b1 q hq
         unfold LtP at this hlt;exact⟨by omega,by omega,by omega,by omega⟩
       ·exact .inr ⟨p,hp,q,hq,h1,h2,h3,h4⟩
    ·rename_i hc
     have hge:¬LtP x y:=fun h=>hc (GA.2 h);obtain⟨t1,t2⟩:=ih acc' (x::a) b (by simp only[List.length_cons];omega) hs.1 ha b2 (fun z hz=>⟨(hbd' z hz).1,fun p hp=>(hbd' z hz).2 p (by simp[hp])⟩);refine⟨t1,fun r=> ?_⟩;rw[t2,hs.2];constructor
     ·rintro((h1|h1)|⟨p,hp,q,hq,h1⟩)
      ·exact .inl h1
      ·exact .inr ⟨x,by simp,y,by simp,h1⟩
      ·exact .inr ⟨p,hp,q,by simp[hq],h1⟩
     ·rintro(h1|⟨p,hp,q,hq,h1,h2,h3,h4⟩)
      ·exact .inl (.inl h1)
      ·rcases List.mem_cons.1 hq with e|hq
       ·subst e
        refine .inl (.inr ?_);rcases List.mem_cons.1 hp with e|hp
        ·subst e;exact⟨h1,h2,h3,h4⟩
        ·have:=a1 p hp
         unfold LtP at this hge;exact⟨by omega,by omega,by omega,by omega⟩
       ·exact .inr ⟨p,hp,q,hq,h1,h2,h3,h4⟩
theorem IB (far:Int) {a b:List Pl} (ha:a.Pairwise LtP) (hb:b.Pairwise LtP):
  (Ag far [] a b).Pairwise (·< ·)/\(∀r,r∈Ag far [] a b↔∃p∈a,∃q∈b,p.r=r/\q.r=r/\p.a-q.a<=far/\q.a-p.a<=far):=by
 obtain⟨h1,h2⟩:=RZ far _ [] a b (Nat.le_refl _) List.Pairwise.nil ha hb (fun x h=>by cases h);exact⟨h1,fun r=>by rw[h2];simp⟩
def inI (n lo hi:Int):Bool:=decide (lo<=n) && decide (n<=hi)
theorem XZ (n lo hi:Int) (w:World):Calls Tryz.prog 62 #[.int .i64 n,.int .i64 lo,.int .i64 hi] w fun e w'=>e= .returned (.bool (inI n lo hi))/\w'=w:=by
 obtain⟨b1,e1⟩:∃b,decide (lo<=n)=b:=⟨_,rfl⟩;have HR:Hid (inI n lo hi=(b1 && decide (n<=hi))):=by show _=_;rw[inI,e1]
 cases b1
 ·go_enter Tryz.func62,Tryz.ntmps62
  go_wp2;go_ret;exact⟨Cs (by rw[HR.out];simp),rfl⟩
 ·go_enter Tryz.func62,Tryz.ntmps62
  go_wp2;go_ret;exact⟨Cs (by rw[HR.out];simp),rfl⟩
theorem Xp (b:Bool) (n lo hi:Int) (h:inI n lo hi=b) (w:World):Calls Tryz.prog 62 #[.int .i64 n,.int .i64 lo,.int .i64 hi] w fun e w'=>e= .returned (.bool b)/\w'=w:=by
 rw[<-h];exact XZ n lo hi w
theorem Vs (p q:Pl):(BO p q<0)↔(p.r<q.r\/(p.r=q.r/\p.a<q.a)):=by
 unfold BO Io
 by_cases h:p.r=q.r
 ·rw[if_pos h]
  by_cases h2:p.a<q.a
  ·rw[if_pos h2];omega
  ·rw[if_neg h2];split<;>omega
 ·rw[if_neg h]
  by_cases h2:p.r<q.r
  ·rw[if_pos h2];omega
  ·rw[if_neg h2];split<;>omega
set_option maxHeartbeats 1000000
theorem Qc (p q:Pl) (w:World):Calls Tryz.prog 105 #[.agg #[.int .i64 p.r,.int .i64 p.a],.agg #[.int .i64 q.r,.int .i64 q.a]] w fun e w'=>e= .returned (.bool (decide (BO p q<0)))/\Below w.heap.size w w':=by
 have HC:Hid (∀b:Bool,(b=true↔(p.r<q.r\/(p.r=q.r/\p.a<q.a)))->b=decide (BO p q<0)):=by
  intro b hb;rw[Bool.eq_iff_iff,hb,decide_eq_true_eq,Vs]
 by_cases h1:p.r<q.r
 ·have j1:decide (p.r<q.r)=true:=by simpa using h1
  go_enter Tryz.func105,Tryz.ntmps105;go_wp2;go_ret;exact⟨Cs (HC.out _ (by simp[h1])),((Below.refl _ _).alloc (Nat.le_refl _) _).alloc (by simp) _⟩
 ·have j1:decide (p.r<q.r)=false:=by simpa using h1
  by_cases h2:p.r=q.r
  ·have j2:(p.r == q.r)=true:=by simpa using h2
   have HE:Hid (p.r=q.r/\¬p.r<q.r):=⟨h2,h1⟩;clear h2 h1;go_enter Tryz.func105,Tryz.ntmps105;go_wp2;go_ret;exact⟨Cs (HC.out _ (by simp[HE.out.1])),((Below.refl _ _).alloc (Nat.le_refl _) _).alloc (by simp) _⟩
  ·have j2:(p.r == q.r)=false:=by simpa using h2
   go_enter Tryz.func105,Tryz.ntmps105;go_wp2;go_ret;exact⟨Cs (HC.out _ (by simp[h1,h2])),((Below.refl _ _).alloc (Nat.le_refl _) _).alloc (by simp) _⟩
theorem Te (b:Bool) (p q:Pl) (h:decide (BO p q<0)=b) (w:World):Calls Tryz.prog 105 #[.agg #[.int .i64 p.r,.int .i64 p.a],.agg #[.int .i64 q.r,.int .i64 q.a]] w fun e w'=>e= .returned (.bool b)/\Below w.heap.size w w':=by
 rw[<-h];exact Qc p q w
end
section
open Go.RowKit Go.Maps
def ndC (d:Nd):List Value:=[.string d.n,.string d.w,.int .i64 (d.r:Nat),.int .i64 (d.a:Nat)]
def ndc (D:List Nd):List Value:=D.flatMap ndC
theorem Ka (a b:List Nd):ndc (a++b)=ndc a++ndc b:=by simp[ndc]
theorem Pu (D:List Nd):(ndc D).length=D.length * 4:=by
 induction D with
 |nil=>rfl
 |cons d D ih=>
  show(ndC d++ndc D).length=_;rw[List.length_append,ih,List.length_cons];show 4+_=_;omega
theorem Wq (D:List Nd):∀u∈ndc D,u.oneCell'=true:=by
 intro u hu;obtain⟨d,_,h⟩:=List.mem_flatMap.1 hu;simp[ndC]at h;rcases h with rfl|rfl|rfl|rfl<;>rfl
theorem Q5:∀(D:List Nd) (i:Nat) (hi:i<D.length),(ndc D)[i * 4]? =some (.string D[i].n)/\(ndc D)[i * 4+1]? =some (.string D[i].w)/\(ndc D)[i * 4+2]? =some (.int .i64 (D[i].r:Nat))/\(ndc D)[i * 4+3]? =some (.int .i64 (D[i].a:Nat))
 |d::D,0,_=>⟨rfl,rfl,rfl,rfl⟩
 |d::D,i+1,hi=>by
  have ih:=Q5 D i (by simpa using hi)
  have e:∀j,(ndc (d::D))[(i+1) * 4+j]? =(ndc D)[i * 4+j]? :=fun j=>by
   show(ndC d++ndc D)[(i+1) * 4+j]? =_;rw[List.getElem?_append_right (by show 4<=_;omega)];congr 1;show(i+1) * 4+j-4=_;omega
  refine⟨?_,?_,?_,?_⟩
  ·exact(e 0).trans ih.1
  ·exact(e 1).trans ih.2.1
  ·exact(e 2).trans ih.2.2.1
  ·exact(e 3).trans ih.2.2.2
theorem XW:(Tryz.prog.info? 83).map (fun i=>(i.zero,i.size,i.bytes))=some (some (.agg #[.string ⟨#[]⟩,.string ⟨#[]⟩,.int .i64 0,.int .i64 0]),4,48):=by kernel_rfl
structure Gs (B0 b:Nat) (D:List Nd) (w:World):Prop where
 le:B0<=b
 row:∃v,Af b v w/\w.ownsRow B0 83 4 v D.length (ndc D)
section
variable {B0 b:Nat} {D:List Nd} {w w':World}
theorem Gs.below (h:Gs B0 b D w) (hb:Below w.heap.size w w'):Gs B0 b D w':=by
 obtain⟨h1,v,h2,h3⟩:=h;exact⟨h1,v,h2.below hb,As h3 hb⟩
theorem Gs.only {S:Nat->Prop} (h:Gs B0 b D w) (ho:Aa S w w') (hS:∀k,S k->k<B0):Gs B0 b D w':=by
 obtain⟨h1,v,h2,h3⟩:=h;refine⟨h1,v,h2.only ho (fun e=>by have:=hS _ e;omega),Be h3 ho (fun k e=>hS k e)⟩
theorem Gs.new (B0:Nat) (w:World) (h:B0<=w.heap.size):Gs B0 w.heap.size [] (w.alloc (.cells #[.slice none 0 0] 38)):=⟨h,_,Af.new w _ _,World.ownsRow_nil _ _ _ _⟩
theorem Q3 {v:Value} (h:w.ownsRow B0 83 4 v D.length (ndc D)) {i:Nat} (hi:i<D.length):∃g cap,v= .slice (some ⟨g,0,none⟩) D.length cap/\B0<=g/\g<w.heap.size/\w.cell? ⟨g,i * 4,none⟩=some (.string D[i].n)/\w.cell? ⟨g,i * 4+1,none⟩=some (.string D[i].w)/\w.cell? ⟨g,i * 4+2,none⟩=some (.int .i64 (D[i].r:Nat))/\w.cell? ⟨g,i * 4+3,none⟩=some (.int .i64 (D[i].a:Nat)):=by
 obtain⟨g,cap,rfl,h1,h2⟩:=World.ownsRow.form h (by omega);obtain⟨c0,c1,c2,c3⟩:=Q5 D i hi;have k0:=World.ownsRow.cells h (g:=g) rfl _ _ c0;have k1:=World.ownsRow.cells h (g:=g) rfl _ _ c1;have k2:=World.ownsRow.cells h (g:=g) rfl _ _ c2;have k3:=World.ownsRow.cells h (g:=g) rfl _ _ c3;rw[AG,Nat.zero_add]at k0 k1 k2 k3;exact⟨g,cap,rfl,h1,World.block_lt_of_cell? _ _ k0,k0,k1,k2,k3⟩
end
theorem U4:Tryz.prog.elem 36=83:=by kernel_rfl
theorem Wr:(sizeOf 83).run Tryz.prog=fun w=> .ok 4 w:=by kernel_rfl
theorem Oc (g n cap i:Nat) (hi:i<n) (wx:World):(Instr.indexAt 36 (.slice (some ⟨g,0,none⟩) n cap) (.int .i64 (i:Nat))).run Tryz.prog wx= .ok (.pointer (some ⟨g,i * 4,none⟩)) wx:=by
 have:=Kq Tryz.underlying36 U4 Wr g n cap i hi wx;rw[Nat.mul_comm]at this;exact this
set_option maxHeartbeats 1000000
theorem L2 (nm:ByteArray) (r:Int) (w:World):Calls Tryz.prog 28 #[.string nm,.int .i64 r] w fun e w'=>e= .returned (.int .i64 (CV nm r))/\w'=w:=by
 obtain⟨b1,e1⟩:∃b,inI (nm.size:Int) 1 16=b:=⟨_,rfl⟩;obtain⟨b2,e2⟩:∃b,inI r 1 1073741824=b:=⟨_,rfl⟩;have HI1:Hid _:=fun wx=>Xp b1 _ _ _ e1 wx;have HI2:Hid _:=fun wx=>Xp b2 _ _ _ e2 wx;have hd:=P8 nm;obtain⟨b3,e3⟩:∃b,decide ((0:UInt8)∈nm.data.toList)=b:=⟨_,rfl⟩;rw[e3]at hd
 have HE:Hid (CV nm r=if b1=true/\b3=false then(if b2=true then 0 else 2)else 1):=by
  show _=_
  have hb:DL nm= !(b1 && !b3):=by
   unfold DL;rw[e3,<-e1,inI]
   by_cases x1:nm.size=0
   ·simp[x1]
   ·by_cases x2:16<nm.size
    ·have y:¬(nm.size:Int)<=16:=by omega
     simp[x1,x2,y]
    ·have y1:(1:Int)<=(nm.size:Int):=by omega
     have y2:(nm.size:Int)<=16:=by omega
     simp[x1,x2,y1,y2]
  have hr:(r<1\/1073741824<r)↔b2=false:=by
   rw[<-e2,inI,Bool.and_eq_false_iff,decide_eq_false_iff_not,decide_eq_false_iff_not];omega
  unfold CV;rw[hb]
  cases b1<;>cases b3<;>cases b2<;>simp[hr]
 clear e1 e2 e3
 cases b1
 ·have hv:CV nm r=1:=by rw[HE.out];simp
  rw[hv];clear hv HE;go_enter Tryz.func28,Tryz.ntmps28;go_wp2_with fail;refine(show Calls _ _ _ _ _ from HI1.out _).mono ?_;rintro _ w9 ⟨rfl,h9⟩;obtain rfl:=h9.symm;clear h9;go_wp2;go_ret;exact⟨rfl,rfl⟩
 ·cases b3
  ·cases b2
   ·have hv:CV nm r=2:=by rw[HE.out];simp
    rw[hv];clear hv HE;go_enter Tryz.func28,Tryz.ntmps28;go_wp2_with fail;refine(show Calls _ _ _ _ _ from HI1.out _).mono ?_;rintro _ w9 ⟨rfl,h9⟩;obtain rfl:=h9.symm;clear h9;go_wp2_with fail;refine(Tryz.strings_Contains_one nm 0 w).mono ?_;rintro _ w9 ⟨rfl,h9⟩;obtain rfl:=h9.symm;rw[hd];clear h9 hd;go_wp2_with fail;refine(show Calls _ _ _ _ _ from HI2.out _).mono ?_;rintro _ w9 ⟨rfl,h9⟩;obtain rfl:=h9.symm;clear h9;go_wp2;go_ret;exact⟨rfl,rfl⟩
   ·have hv:CV nm r=0:=by rw[HE.out];simp
    rw[hv];clear hv HE;go_enter Tryz.func28,Tryz.ntmps28;go_wp2_with fail;refine(show Calls _ _ _ _ _ from HI1.out _).mono ?_;rintro _ w9 ⟨rfl,h9⟩;obtain rfl:=h9.symm;clear h9;go_wp2_with fail;refine(Tryz.strings_Contains_one nm 0 w).mono ?_;rintro _ w9 ⟨rfl,h9⟩;obtain rfl:=h9.symm;rw[hd];clear h9 hd;go_wp2_with fail;refine(show Calls _ _ _ _ _ from HI2.out _).mono ?_;rintro _ w9 ⟨rfl,h9⟩;obtain rfl:=h9.symm;clear h9;go_wp2;go_ret;exact⟨rfl,rfl⟩
  ·have hv:CV nm r=1:=by rw[HE.out];simp
   rw[hv];clear hv HE;go_enter Tryz.func28,Tryz.ntmps28;go_wp2_with fail;refine(show Calls _ _ _ _ _ from HI1.out _).mono ?_;rintro _ w9 ⟨rfl,h9⟩;obtain rfl:=h9.symm;clear h9;go_wp2_with fail;refine(Tryz.strings_Contains_one nm 0 w).mono ?_;rintro _ w9 ⟨rfl,h9⟩;obtain rfl:=h9.symm;rw[hd];clear h9 hd;go_wp2;go_ret;exact⟨rfl,rfl⟩
end
end Go.Proofs.YtgfldnaahojnlaaGreatDoor
