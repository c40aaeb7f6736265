/- StoreFinds: part 19. -/
import Derived.Test.YtihnldkgeelehaaGreatDoorF18
set_option maxRecDepth 100000
set_option maxHeartbeats 4000000
namespace Go.Proofs.YtihnldkgeelehaaGreatDoor
section
open Go.RowKit Go.Maps
theorem SX:(sizeOf 83).run Tryz.prog=fun w=> .ok 4 w:=by funext w;simp[Tryz.sizeOf83]
theorem Ve:Tryz.prog.elem 84=83:=by kernel_rfl
theorem Rg:(sizeOf 92).run Tryz.prog=fun w=> .ok 5 w:=by funext w;simp[Tryz.sizeOf92]
theorem Sk:Tryz.prog.elem 137=92:=by kernel_rfl
def JC (c:Col):List Value:=[.string c.nm,.int .i64 (c.kd:Nat),.bool c.mu,.bool c.wo]
def A8 (B:Nat) (v:Value) (cs:List Col) (w:World):Prop:=w.ownsRow B 83 4 v cs.length (cs.flatMap JC)
def Cp (B:Nat) (v:Value) (l:List ByteArray) (w:World):Prop:=w.ownsRow B 9 1 v l.length (l.map Value.string)
def ixs (cs:List Col):List ByteArray:=(cs.filter (·.ix)).map (·.nm)
structure Ent where
 t:Tb
 is_:List ByteArray
 vc:Value
 vi:Value
def EJ (x:Ent):List Value:=[.int .i64 (x.t.id:Nat),.int .i64 (x.t.nx:Nat),.string x.t.nm,x.vc,x.vi]
def Apt (a b:Value):Prop:=∀k,a.ownBlock=some k->b.ownBlock≠some k
structure AI (B:Nat) (v:Value) (E:List Ent) (w:World):Prop where
 row:w.ownsRow B 92 5 v E.length (E.flatMap EJ)
 cs:∀x∈E,A8 B x.vc x.t.cs w/\Cp B x.vi x.is_ w
 ap:(v::E.flatMap (fun x=>[x.vc,x.vi])).Pairwise Apt
section
variable {B:Nat} {v:Value} {cs:List Col} {l:List ByteArray} {E:List Ent} {w w':World}
theorem A8.below (h:A8 B v cs w) (hb:Below w.heap.size w w'):A8 B v cs w':=Ag h hb
theorem Cp.below (h:Cp B v l w) (hb:Below w.heap.size w w'):Cp B v l w':=Ag h hb
theorem AI.below (h:AI B v E w) (hb:Below w.heap.size w w'):AI B v E w':=⟨Ag h.row hb,fun x hx=>⟨(h.cs x hx).1.below hb,(h.cs x hx).2.below hb⟩,h.ap⟩
theorem JB (c:Col):(JC c).length=4:=rfl
theorem DS (x:Ent):(EJ x).length=5:=rfl
theorem A8.at (h:A8 B v cs w) {i:Nat} (hi:i<cs.length):∃g cap,v= .slice (some ⟨g,0,none⟩) cs.length cap/\B<=g/\g<w.heap.size/\w.cell? ⟨g,4 * i,none⟩=some (.string cs[i].nm)/\w.cell? ⟨g,4 * i+1,none⟩=some (.int .i64 (cs[i].kd:Nat))/\w.cell? ⟨g,4 * i+2,none⟩=some (.bool cs[i].mu)/\w.cell? ⟨g,4 * i+3,none⟩=some (.bool cs[i].wo)/\
  ∀n,i<n->∀wx,(Instr.indexAt 84 (.slice (some ⟨g,0,none⟩) n cap) (.int .i64 (i:Nat))).run Tryz.prog wx= .ok (.pointer (some ⟨g,4 * i,none⟩)) wx:=by
 obtain⟨g,cap,rfl,h1,h2⟩:=World.ownsRow.form h (by omega)
 have hat:∀j,j<4->w.cell? ⟨g,4 * i+j,none⟩=(JC cs[i])[j]? :=fun j hj=>by
  rw[World.ownsRow.cellAt h (4 * i+j) (by omega),Eh JB cs i j hi hj]
 exact⟨g,cap,rfl,h1,h2,hat 0 (by omega),hat 1 (by omega),hat 2 (by omega),hat 3 (by omega),fun n hn wx=>Cd Tryz.underlying84 Ve SX g n cap i hn wx⟩
theorem A8.take (h:A8 B v cs w) {i:Nat} (hi:i<cs.length):∃g cap,v= .slice (some ⟨g,0,none⟩) cs.length cap/\A8 B (.slice (some ⟨g,0,none⟩) i cap) (cs.take i) w:=by
 obtain⟨h0,h1|⟨g,cap,cur,e,h2,h3,h4,h5,h6,h7⟩⟩:=h
 ·have:=h1.2;omega
 ·refine⟨g,cap,e,?_,.inr ⟨g,cap,cur,?_,h2,h3,?_,h5,h6,?_⟩⟩
  ·rw[DR JB]
  ·rw[List.length_take,Nat.min_eq_left (by omega)]
  ·rw[List.length_take];omega
  ·have e1:cs.take i++cs.drop i=cs:=List.take_append_drop i cs
   have e2:(cs.take i).flatMap JC++(cs.drop i).flatMap JC=cs.flatMap JC:=by rw[<-List.flatMap_append,e1]
   have e3:((cs.take i).flatMap JC).length=(cs.take i).length * 4:=DR JB _;have e4:(cs.take i).length<=cs.length:=by rw[List.length_take];omega
   have:cur.toList.take ((cs.take i).length * 4)=(cur.toList.take (cs.length * 4)).take ((cs.take i).length * 4):=by rw[List.take_take,Nat.min_eq_left (by omega)]
   rw[this,h7,<-e2,<-e3,List.take_left]
theorem AI.at (h:AI B v E w) {i:Nat} (hi:i<E.length):∃g cap a1 l1 c1 a2 l2 c2,v= .slice (some ⟨g,0,none⟩) E.length cap/\B<=g/\g<w.heap.size/\E[i].vc= .slice a1 l1 c1/\E[i].vi= .slice a2 l2 c2/\w.cell? ⟨g,5 * i,none⟩=some (.int .i64 (E[i].t.id:Nat))/\w.cell? ⟨g,5 * i+1,none⟩=some (.int .i64 (E[i].t.nx:Nat))/\w.cell? ⟨g,5 * i+2,none⟩=some (.string E[i].t.nm)/\w.cell? ⟨g,5 * i+3,none⟩=some (.slice a1 l1 c1)/\w.cell? ⟨g,5 * i+4,none⟩=some (.slice a2 l2 c2)/\
  ∀wx,(Instr.indexAt 137 (.slice (some ⟨g,0,none⟩) E.length cap) (.int .i64 (i:Nat))).run Tryz.prog wx= .ok (.pointer (some ⟨g,5 * i,none⟩)) wx:=by
 obtain⟨g,cap,rfl,h1,h2⟩:=World.ownsRow.form h.row (by omega)
 have hat:∀j,j<5->w.cell? ⟨g,5 * i+j,none⟩=(EJ E[i])[j]? :=fun j hj=>by
  rw[World.ownsRow.cellAt h.row (5 * i+j) (by omega),Eh DS E i j hi hj]
 obtain⟨hc1,hc2⟩:=h.cs E[i] (List.getElem_mem hi);obtain⟨a1,c1,e1⟩:=Aj hc1;obtain⟨a2,c2,e2⟩:=Aj hc2;refine⟨g,cap,a1,_,c1,a2,_,c2,rfl,h1,h2,e1,e2,hat 0 (by omega),hat 1 (by omega),hat 2 (by omega),?_,?_,fun wx=>Cd Tryz.underlying137 Sk Rg g E.length cap i hi wx⟩
 ·rw[hat 3 (by omega),<-e1];rfl
 ·rw[hat 4 (by omega),<-e2];rfl
end
def Ns {α:Type} (p:α->Bool) (l:List α) (e:Ending):Prop:=(∃i,∃h:i<l.length,p l[i]=true/\(∀j (hj:j<i),p l[j]=false)/\e= .returned (.int .i64 (i:Nat)))\/((∀x∈l,p x=false)/\e= .returned (.int .i64 (-1)))
def EQ (E:List Ent):List Value:=E.flatMap (fun x=>[x.vc,x.vi])
theorem B6 {E:List Ent} {a:Value}:a∈EQ E↔∃x∈E,a=x.vc\/a=x.vi:=by unfold EQ;rw[List.mem_flatMap];simp
section
variable {B g cap:Nat} {v:Value} {E:List Ent} {x:Ent} {w w1:World}
theorem AI.lt (h:AI B v E w) {a:Value} (ha:a=v\/a∈EQ E) {k:Nat} (hk:a.ownBlock=some k):B<=k/\k<w.heap.size:=by
 rcases ha with rfl|ha
 ·exact World.ownsRow.lt h.row k hk
 ·obtain⟨y,hy,rfl|rfl⟩:=B6.1 ha
  ·exact World.ownsRow.lt (h.cs y hy).1 k hk
  ·exact World.ownsRow.lt (h.cs y hy).2 k hk
theorem AI.split (h:AI B v (E++[x]) w):(v::EQ E).Pairwise Apt/\Apt x.vc x.vi/\(∀a,a=v\/a∈EQ E->Apt a x.vc/\Apt a x.vi):=by
 have:=h.ap;rw[List.flatMap_append,<-List.cons_append,List.pairwise_append]at this;obtain⟨h1,h2,h3⟩:=this;refine⟨h1,?_,fun a ha=> ?_⟩
 ·simp at h2;exact h2
 ·have ha':a∈v::List.flatMap (fun x=>[x.vc,x.vi]) E:=by
   rcases ha with rfl|ha
   ·simp
   ·exact List.mem_cons_of_mem _ ha
  exact⟨h3 a ha' _ (by simp),h3 a ha' _ (by simp)⟩
theorem AI.join (h0:w.ownsRow B 92 5 v (E++[x]).length ((E++[x]).flatMap EJ)) (h1:∀y∈E++[x],A8 B y.vc y.t.cs w/\Cp B y.vi y.is_ w) (h2:(v::EQ E).Pairwise Apt) (h3:Apt x.vc x.vi) (h4:∀a,a=v\/a∈EQ E->Apt a x.vc/\Apt a x.vi):AI B v (E++[x]) w:=by
 refine⟨h0,h1,?_⟩;rw[List.flatMap_append,<-List.cons_append,List.pairwise_append];refine⟨h2,by simpa using h3,fun a ha b hb=> ?_⟩;have ha':a=v\/a∈EQ E:=List.mem_cons.1 ha;simp at hb;rcases hb with rfl|rfl
 ·exact(h4 a ha').1
 ·exact(h4 a ha').2
def I5 (v v':Value) (w:World):Prop:=∀k,v'.ownBlock=some k->v.ownBlock=some k\/w.heap.size<=k
theorem KT {e:TypeId} {size n:Nat} {xs:List Value} {a u:Value} {r:Option Nat} {o:Nat} (h:w.ownsRow B e size a n xs) (hG:w.grownBy w1 r) (h1:∀k,a.ownBlock=some k->r≠some k) (hg:w1.ownsRow B 92 5 (.slice (some ⟨g,0,none⟩) (E.length+1) cap) (E.length+1) ((E++[x]).flatMap EJ)) (h2:a.ownBlock≠some g):(w1.setCell ⟨g,o,none⟩ u).ownsRow B e size a n xs:=by
 have k1:w1.ownsRow B e size a n xs:=World.ownsRow.kept h hG (by
  cases ha:a.ownBlock with
  |none=>exact .inl rfl
  |some k=>exact .inr (fun e=>h1 k ha e.symm))
 exact World.ownsRow.kept k1 (World.ownsRow.stored hg o u).2 (.inr h2)
theorem AI.cols (h:AI B (.slice (some ⟨g,0,none⟩) (E.length+1) cap) (E++[x]) w) {vc':Value} {c:Col} (hG:w.grownBy w1 x.vc.ownBlock) (hO:A8 B vc' (x.t.cs++[c]) w1) (hL:I5 x.vc vc' w):
  AI B (.slice (some ⟨g,0,none⟩) (E.length+1) cap) (E++[⟨⟨x.t.id,x.t.nm,x.t.cs++[c],x.t.nx⟩,x.is_,vc',x.vi⟩]) (w1.setCell ⟨g,5 * E.length+3,none⟩ vc'):=by
 obtain⟨h2,h3,h4⟩:=h.split;have hlen:(E++[x]).length=E.length+1:=by simp
 have hrow:=h.row;rw[hlen]at hrow;have hvc:∀k,(Value.slice (some ⟨g,0,none⟩) (E.length+1) cap).ownBlock=some k->k=g:=fun k hk=>by simp[Value.ownBlock]at hk;exact hk.symm
 have hgl:g<w.heap.size:=(h.lt (.inl rfl) (k:=g) rfl).2;have hxg:x.vc.ownBlock≠some g:=fun e=>((h4 _ (.inl rfl)).1) g rfl e;have hig:x.vi.ownBlock≠some g:=fun e=>((h4 _ (.inl rfl)).2) g rfl e;have hrow1:w1.ownsRow B 92 5 (.slice (some ⟨g,0,none⟩) (E.length+1) cap) (E.length+1) ((E++[x]).flatMap EJ):=World.ownsRow.kept hrow hG (.inr (fun e=>hxg e.symm));have hx:x∈E++[x]:=by simp
 refine AI.join ?_ ?_ h2 ?_ ?_
 ·have k2:=(World.ownsRow.stored hrow1 (5 * E.length+3) vc').1
  rw[List.length_append,List.length_singleton]
  have e:((E++[x]).flatMap EJ).set (5 * E.length+3) vc'=(E++[(⟨⟨x.t.id,x.t.nm,x.t.cs++[c],x.t.nx⟩,x.is_,vc',x.vi⟩:Ent)]).flatMap EJ:=by
   rw[List.flatMap_append,List.flatMap_append,List.set_append_right _ _ (by rw[DR DS];omega),DR DS,show 5 * E.length+3-E.length * 5=3 by omega];simp[EJ]
  rw[<-e];exact k2
 ·intro y hy
  rcases List.mem_append.1 hy with hy|hy
  ·have hy':y∈E++[x]:=by simp[hy]
   obtain⟨c1,c2⟩:=h.cs y hy';have m1:y.vc∈EQ E:=B6.2 ⟨y,hy,.inl rfl⟩;have m2:y.vi∈EQ E:=B6.2 ⟨y,hy,.inr rfl⟩;rw[List.pairwise_cons]at h2;exact⟨KT c1 hG (fun k hk e=>(h4 _ (.inr m1)).1 k hk e) hrow1 (fun e=>h2.1 _ m1 g rfl e),KT c2 hG (fun k hk e=>(h4 _ (.inr m2)).1 k hk e) hrow1 (fun e=>h2.1 _ m2 g rfl e)⟩
  ·obtain rfl:=List.mem_singleton.1 hy
   refine⟨World.ownsRow.kept hO (World.ownsRow.stored hrow1 _ _).2 (.inr (fun e=> ?_)),KT (h.cs x hx).2 hG (fun k hk e=>h3 k e hk) hrow1 hig⟩;rcases hL g e with e2|e2
   ·exact hxg e2
   ·omega
 ·intro k hk e
  rcases hL k hk with e2|e2
  ·exact h3 k e2 e
  ·have:=(World.ownsRow.lt (h.cs x hx).2 k e).2;omega
 ·intro a ha
  have hal:∀k,a.ownBlock=some k->k<w.heap.size:=fun k hk=>by
   refine(h.lt (a:=a) ?_ hk).2;rcases ha with ha|ha
   ·exact .inl ha
   ·obtain⟨y,hy,e⟩:=B6.1 ha
    exact .inr (B6.2 ⟨y,by simp[hy],e⟩)
  refine⟨fun k hk e=> ?_,(h4 a ha).2⟩;rcases hL k e with e2|e2
  ·exact(h4 a ha).1 k hk e2
  ·have:=hal k hk;omega
theorem AI.idxs (h:AI B (.slice (some ⟨g,0,none⟩) (E.length+1) cap) (E++[x]) w) {vi':Value} {l:List ByteArray} (hG:w.grownBy w1 x.vi.ownBlock) (hO:Cp B vi' l w1) (hL:I5 x.vi vi' w):
  AI B (.slice (some ⟨g,0,none⟩) (E.length+1) cap) (E++[⟨x.t,l,x.vc,vi'⟩]) (w1.setCell ⟨g,5 * E.length+4,none⟩ vi'):=by
 obtain⟨h2,h3,h4⟩:=h.split;have hlen:(E++[x]).length=E.length+1:=by simp
 have hrow:=h.row;rw[hlen]at hrow;have hgl:g<w.heap.size:=(h.lt (.inl rfl) (k:=g) rfl).2;have hxg:x.vc.ownBlock≠some g:=fun e=>((h4 _ (.inl rfl)).1) g rfl e;have hig:x.vi.ownBlock≠some g:=fun e=>((h4 _ (.inl rfl)).2) g rfl e;have hrow1:w1.ownsRow B 92 5 (.slice (some ⟨g,0,none⟩) (E.length+1) cap) (E.length+1) ((E++[x]).flatMap EJ):=World.ownsRow.kept hrow hG (.inr (fun e=>hig e.symm));have hx:x∈E++[x]:=by simp
 refine AI.join ?_ ?_ h2 ?_ ?_
 ·have k2:=(World.ownsRow.stored hrow1 (5 * E.length+4) vi').1
  rw[List.length_append,List.length_singleton]
  have e:((E++[x]).flatMap EJ).set (5 * E.length+4) vi'=(E++[(⟨x.t,l,x.vc,vi'⟩:Ent)]).flatMap EJ:=by
   rw[List.flatMap_append,List.flatMap_append,List.set_append_right _ _ (by rw[DR DS];omega),DR DS,show 5 * E.length+4-E.length * 5=4 by omega];simp[EJ]
  rw[<-e];exact k2
 ·intro y hy
  rcases List.mem_append.1 hy with hy|hy
  ·have hy':y∈E++[x]:=by simp[hy]
   obtain⟨c1,c2⟩:=h.cs y hy';have m1:y.vc∈EQ E:=B6.2 ⟨y,hy,.inl rfl⟩;have m2:y.vi∈EQ E:=B6.2 ⟨y,hy,.inr rfl⟩;rw[List.pairwise_cons]at h2;exact⟨KT c1 hG (fun k hk e=>(h4 _ (.inr m1)).2 k hk e) hrow1 (fun e=>h2.1 _ m1 g rfl e),KT c2 hG (fun k hk e=>(h4 _ (.inr m2)).2 k hk e) hrow1 (fun e=>h2.1 _ m2 g rfl e)⟩
  ·obtain rfl:=List.mem_singleton.1 hy
   refine⟨KT (h.cs x hx).1 hG (fun k hk e=>h3 k hk e) hrow1 hxg,World.ownsRow.kept hO (World.ownsRow.stored hrow1 _ _).2 (.inr (fun e=> ?_))⟩;rcases hL g e with e2|e2
   ·exact hig e2
   ·omega
 ·intro k hk e
  rcases hL k e with e2|e2
  ·exact h3 k hk e2
  ·have:=(World.ownsRow.lt (h.cs x hx).1 k hk).2;omega
 ·intro a ha
  have hal:∀k,a.ownBlock=some k->k<w.heap.size:=fun k hk=>by
   refine(h.lt (a:=a) ?_ hk).2;rcases ha with ha|ha
   ·exact .inl ha
   ·obtain⟨y,hy,e⟩:=B6.1 ha
    exact .inr (B6.2 ⟨y,by simp[hy],e⟩)
  refine⟨(h4 a ha).1,fun k hk e=> ?_⟩;rcases hL k e with e2|e2
  ·exact(h4 a ha).2 k hk e2
  ·have:=hal k hk;omega
theorem AI.more (h:AI B v E w) {v':Value} {t:Tb} (ht:t.cs=[]) (hG:w.grownBy w1 v.ownBlock) (hO:w1.ownsRow B 92 5 v' (E.length+1) (E.flatMap EJ++EJ ⟨t,[],.slice none 0 0,.slice none 0 0⟩)) (hL:I5 v v' w):
  AI B v' (E++[⟨t,[],.slice none 0 0,.slice none 0 0⟩]) w1:=by
 have hp:=h.ap;rw[List.pairwise_cons]at hp
 have hv':∀a∈EQ E,Apt v' a:=fun a ha k hk e=>by
  rcases hL k hk with e2|e2
  ·exact hp.1 a ha k e2 e
  ·have:=(h.lt (.inr ha) e).2;omega
 refine AI.join ?_ ?_ (List.pairwise_cons.2 ⟨hv',hp.2⟩) (fun k hk=>by simp[Value.ownBlock]at hk) (fun a _=>⟨fun k _ e=>by simp[Value.ownBlock]at e,fun k _ e=>by simp[Value.ownBlock]at e⟩)
 ·rw[List.length_append,List.flatMap_append,List.flatMap_singleton];exact hO
 ·intro y hy
  rcases List.mem_append.1 hy with hy|hy
  ·obtain⟨c1,c2⟩:=h.cs y hy
   have m1:y.vc∈EQ E:=B6.2 ⟨y,hy,.inl rfl⟩;have m2:y.vi∈EQ E:=B6.2 ⟨y,hy,.inr rfl⟩;refine⟨World.ownsRow.kept c1 hG ?_,World.ownsRow.kept c2 hG ?_⟩
   ·cases e:y.vc.ownBlock with
    |none=>exact .inl rfl
    |some k=>exact .inr (fun e2=>hp.1 _ m1 k e2.symm e)
   ·cases e:y.vi.ownBlock with
    |none=>exact .inl rfl
    |some k=>exact .inr (fun e2=>hp.1 _ m2 k e2.symm e)
  ·obtain rfl:=List.mem_singleton.1 hy
   refine⟨?_,World.ownsRow_nil _ _ _ _⟩;show World.ownsRow _ _ _ _ _ _ _;rw[ht];exact World.ownsRow_nil _ _ _ _
end
set_option maxHeartbeats 1000000
theorem Oe {B fw Bc:Nat} {u v:Value} {E:List Ent} {p:Ent->Bool} (w:World) (h:AI B v E w) (hu:w.cell? ⟨Bc,0,none⟩=some u) (eg:∀args w,(callFunc fw args).run Tryz.prog w= .ok (.enter fw args) w)
  (hc:∀x∈E,∀a1 l1 c1 a2 l2 c2 wx,wx.cell? ⟨Bc,0,none⟩=some u->Calls Tryz.prog fw #[.agg #[.int .i64 (x.t.id:Nat),.int .i64 (x.t.nx:Nat),.string x.t.nm,.slice a1 l1 c1,.slice a2 l2 c2],.pointer (some ⟨Bc,0,none⟩)] wx fun e w'=>e= .returned (.bool (p x))/\Below wx.heap.size wx w'):
  Calls Tryz.prog 112 #[v,.func (.func fw) #[] #[.pointer (some ⟨Bc,0,none⟩)]] w fun e w'=>Ns p E e/\Below w.heap.size w w':=by
 obtain⟨a9,c9,hv9⟩:=Aj h.row;have hmx:=Lt h.row;obtain⟨n,hn⟩:∃n,E.length=n:=⟨_,rfl⟩;rw[hn]at hv9 hmx;subst hv9;have HN:Hid (E.length=n):=hn;have HE:Hid _:=h;have HU:Hid _:=hu;have HC:Hid _:=hc;have hult:=World.block_lt_of_cell? _ _ hu;clear h hu hc hn;go_enter Tryz.func112,Tryz.ntmps112;go_wp2_with fail;go_loopw [8] (fun i wr=>∃k:Nat,k<=n/\i= .int .i64 (k:Nat)/\Hid (AI B (.slice a9 n c9) E wr)/\Hid (wr.cell? ⟨Bc,0,none⟩=some u)/\Hid (Below w.heap.size w wr)/\Hid (∀j (hj:j<k) (hl:j<E.length),p E[j]=false)) (fun i _=>n+1-(intOf i).toNat)
 case atStart=>exact⟨0,Nat.zero_le _,rfl,HE,HU,Below.refl _ _,fun j hj=>absurd hj (by omega)⟩
 case round=>
  clear HE HU;obtain⟨k,hk,rfl,HE,HU,HB,HP⟩:=hrel
  by_cases hlt:k<n
  ·have h1:(k:Int)<(n:Int):=by omega
   have hkl:k<E.length:=by rw[HN.out];exact hlt
   obtain⟨g,cap,a1,l1,c1,a2,l2,c2,ev,hg1,hg2,e1,e2,k0,k1,k2,k3,k4,hix⟩:=HE.out.at hkl;rw[HN.out]at ev hix
   cases ev
   have HCC:Hid _:=HC.out E[k] (List.getElem_mem hkl) a1 l1 c1 a2 l2 c2 wr HU.out;obtain⟨x,hx⟩:∃x,E[k]=x:=⟨_,rfl⟩;rw[hx]at k0 k2 HCC;clear e1 e2;go_wp2_with fail;refine(show Calls _ _ _ _ _ from HCC.out).mono ?_;rintro _ w2 ⟨rfl,hb2⟩;have HE2:Hid (AI B (.slice (some ⟨g,0,none⟩) n c9) E w2):=HE.out.below hb2;have HU2:Hid (w2.cell? ⟨Bc,0,none⟩=some u):=(hb2.cell (World.block_lt_of_cell? _ _ HU.out)).trans HU.out;have HB2:Hid (Below w.heap.size w w2):=HB.out.trans (hb2.mono HB.out.size);clear hb2 k0 k1 k2 k3 k4 HCC
   cases hp:p x
   ·go_wp2_with fail
    go_roundw
    case rel=>exact⟨k+1,by omega,by go_num,HE2,HU2,HB2,fun j hj hl=>by
      by_cases e:j=k
      ·subst e;rw[hx];exact hp
      ·exact HP.out j (by omega) hl⟩
    case measure=>simp[intOf];omega
   ·go_wp2
    go_ret;exact⟨.inl ⟨k,hkl,by rw[hx];exact hp,fun j hj=>HP.out j hj _,rfl⟩,HB2.out⟩
  ·have h1:¬(k:Int)<(n:Int):=by omega
   obtain rfl:n=k:=by omega
   go_wp2;go_ret
   exact⟨.inr ⟨fun x hx=>by
    obtain⟨j,hj,rfl⟩:=List.getElem_of_mem hx;exact HP.out j (by have:=HN.out;omega) hj,rfl⟩,HB.out⟩
theorem MV {B fw Bc:Nat} {u v:Value} {E:List Ent} {p:Ent->Bool} (w:World) (h:AI B v E w) (hu:w.cell? ⟨Bc,0,none⟩=some u) (eg:∀args w,(callFunc fw args).run Tryz.prog w= .ok (.enter fw args) w)
  (hc:∀x∈E,∀a1 l1 c1 a2 l2 c2 wx,wx.cell? ⟨Bc,0,none⟩=some u->Calls Tryz.prog fw #[.agg #[.int .i64 (x.t.id:Nat),.int .i64 (x.t.nx:Nat),.string x.t.nm,.slice a1 l1 c1,.slice a2 l2 c2],.pointer (some ⟨Bc,0,none⟩)] wx fun e w'=>e= .returned (.bool (p x))/\Below wx.heap.size wx w'):
  Calls Tryz.prog 55 #[v,.func (.func fw) #[] #[.pointer (some ⟨Bc,0,none⟩)]] w fun e w'=>e= .returned (.bool (E.any p))/\Below w.heap.size w w':=by
 have HI:Hid (Calls Tryz.prog 112 #[v,.func (.func fw) #[] #[.pointer (some ⟨Bc,0,none⟩)]] w fun e w'=>Ns p E e/\Below w.heap.size w w'):=Oe w h hu eg hc;clear h hu hc eg;go_enter Tryz.func55,Tryz.ntmps55;go_wp2_with fail;refine(show Calls _ _ _ _ _ from HI.out).mono ?_;rintro _ w2 ⟨hI,hb2⟩;have HB:Hid _:=hb2;clear hb2 HI;rcases hI with⟨i,hi,hp,_,rfl⟩|⟨hno,rfl⟩
 ·have HA:Hid (E.any p=true):=List.any_eq_true.2 ⟨_,List.getElem_mem hi,hp⟩
  clear hp;go_wp2;go_ret;exact⟨Cb (by rw[HA.out]),HB.out⟩
 ·have HA:Hid (E.any p=false):=List.any_eq_false.2 (fun x hx=>by rw[hno x hx];decide)
  clear hno;go_wp2;go_ret;exact⟨Cb (by rw[HA.out]),HB.out⟩
section
variable {B C o:Nat} {l:List Value} {u:Value} {w w':World}
theorem Ac.c5 {a b c d e:Value} (h:Ac B [a,b,c,d,e] w):w.cell? ⟨B,0,none⟩=some a/\w.cell? ⟨B,1,none⟩=some b/\w.cell? ⟨B,2,none⟩=some c/\w.cell? ⟨B,3,none⟩=some d/\w.cell? ⟨B,4,none⟩=some e:=⟨h.cell 0 (by simp),h.cell 1 (by simp),h.cell 2 (by simp),h.cell 3 (by simp),h.cell 4 (by simp)⟩
theorem G6 {a b c d e:Value} (h:Ac B [a,b,c,d,e] w):(loadVar 92 ⟨B,0,none⟩).run Tryz.prog w= .ok (.agg #[a,b,c,d,e]) w:=
 run_loadVar_mid (P:=Tryz.prog) w B 0 92 [a,b,c,d,e] _ (fun j v hv=>h.get hv) Tryz.underlying92 rfl (by kernel_rfl)
theorem LD {a b:Value} (h:Ac B [a,b] w):(loadVar 126 ⟨B,0,none⟩).run Tryz.prog w= .ok (.agg #[a,b]) w:=
 run_loadVar_mid (P:=Tryz.prog) w B 0 126 [a,b] _ (fun j v hv=>h.get hv) Tryz.underlying126 rfl (by kernel_rfl)
end
end
end Go.Proofs.YtihnldkgeelehaaGreatDoor
