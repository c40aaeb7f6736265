/- MatchFinds: part 6. -/
import Derived.Test.YtgfldnaahojnlaaGreatDoorF05
set_option maxRecDepth 100000
set_option maxHeartbeats 4000000
namespace Go.Proofs.YtgfldnaahojnlaaGreatDoor
section
def Dv (l:List (List Pr)) (s:List Pr):List (List Pr):=match l.getLast? with
 |none=>l++[s]
 |some x=>if szL x+szL s<=1024 then l.dropLast++[x++s]else l++[s]
def Br (M:List (List Pr)):List (List Pr):=M.foldl Dv []
theorem G7 (s:List Pr):Dv [] s=[s]:=rfl
theorem Ce (l:List (List Pr)) (x s:List Pr):Dv (l++[x]) s=if szL x+szL s<=1024 then l++[x++s]else l++[x]++[s]:=by
 unfold Dv;rw[List.getLast?_append];simp
theorem Kb (M:List (List Pr)) (s:List Pr):Br (M++[s])=Dv (Br M) s:=by
 unfold Br;rw[List.foldl_append];rfl
def Adj:List (List Pr)->Prop
 | []=>True
 | [_]=>True
 |a::b::r=>1024<szL a+szL b/\Adj (b::r)
theorem Is:∀(Ls:List (List Pr)),Adj Ls↔∀i (hi:i+1<Ls.length),1024<szL (Ls[i]'(by omega))+szL Ls[i+1]
 | []=>⟨fun _ i hi=>absurd hi (by simp),fun _=>trivial⟩
 | [a]=>⟨fun _ i hi=>absurd hi (by simp),fun _=>trivial⟩
 |a::b::r=>by
  unfold Adj;rw[Is (b::r)];constructor
  ·rintro⟨h1,h2⟩ i hi
   cases i with
   |zero=>exact h1
   |succ i=>exact h2 i (by simp at hi ⊢;omega)
  ·intro h
   exact⟨h 0 (by simp),fun i hi=>h (i+1) (by simp at hi ⊢;omega)⟩
theorem Dj:∀(A B:List (List Pr)),Adj (A++B)↔Adj A/\Adj B/\∀x y,A.getLast? =some x->B.head? =some y->1024<szL x+szL y
 | [],B=>by simp[Adj]
 | [a],B=>by
   cases B with
   |nil=>simp[Adj]
   |cons b r=>simp[Adj,and_comm]
 |a::b::r,B=>by
  have ih:=Dj (b::r) B;show(1024<szL a+szL b/\Adj (b::r++B))↔_;rw[ih,List.getLast?_cons_cons];show _↔(1024<szL a+szL b/\Adj (b::r))/\_;constructor
  ·rintro⟨h1,h2,h3,h4⟩;exact⟨⟨h1,h2⟩,h3,h4⟩
  ·rintro⟨⟨h1,h2⟩,h3,h4⟩;exact⟨h1,h2,h3,h4⟩
theorem Cb (l:List (List Pr)):l=[]\/∃l' x,l=l'++[x]:=by
 rcases List.eq_nil_or_concat l with h|⟨l',x,h⟩
 ·exact .inl h
 ·exact .inr ⟨l',x,by rw[h,List.concat_eq_append]⟩
theorem Se {l:List (List Pr)} (s:List Pr) (h:Adj l):Adj (Dv l s):=by
 rcases Cb l with rfl|⟨l',x,rfl⟩
 ·exact trivial
 ·rw[Ce]
  split
  ·rw[Dj]at h ⊢
   refine⟨h.1,trivial,fun u v hu hv=> ?_⟩;have:=h.2.2 u x hu rfl;simp at hv;subst hv;rw[Am];omega
  ·rename_i hn
   rw[Dj];refine⟨h,trivial,fun u v hu hv=> ?_⟩;rw[List.getLast?_append]at hu;simp at hu hv;subst hu hv;omega
theorem Mx {P:List (List Pr)->Prop} (h0:P []) (hs:∀l s,P l->P (Dv l s)) (M:List (List Pr)):P (Br M):=by
 unfold Br
 have:∀(M l:List (List Pr)),P l->P (M.foldl Dv l):=by
  intro M
  induction M with
  |nil=>exact fun l h=>h
  |cons a r ih=>exact fun l h=>ih _ (hs l a h)
 exact this M [] h0
theorem L5 (M:List (List Pr)):Adj (Br M):=Mx trivial (fun _ s h=>Se s h) M
theorem KT (l:List (List Pr)) (s:List Pr):(Dv l s).flatten=l.flatten++s:=by
 rcases Cb l with rfl|⟨l',x,rfl⟩
 ·simp[G7]
 ·rw[Ce]
  split<;>simp
theorem Cu (M:List (List Pr)):(Br M).flatten=M.flatten:=by
 have:∀(M l:List (List Pr)),(M.foldl Dv l).flatten=l.flatten++M.flatten:=by
  intro M
  induction M with
  |nil=>intro l;simp
  |cons a r ih=>intro l;rw[List.foldl_cons,ih,KT];simp
 unfold Br;rw[this];simp
theorem L4 {M:List (List Pr)} (h:∀L∈M,szL L<=1024):∀L∈Br M,szL L<=1024:=by
 have:∀(M l:List (List Pr)),(∀L∈M,szL L<=1024)->(∀L∈l,szL L<=1024)->∀L∈M.foldl Dv l,szL L<=1024:=by
  intro M
  induction M with
  |nil=>exact fun l _ h=>h
  |cons a r ih=>
   intro l h1 h2;refine ih _ (fun L hL=>h1 L (List.mem_cons_of_mem _ hL)) ?_;rcases Cb l with rfl|⟨l',x,rfl⟩
   ·intro L hL
    rw[G7]at hL;simp at hL;subst hL;exact h1 _ List.mem_cons_self
   ·rw[Ce]
    split
    ·intro L hL
     rcases List.mem_append.1 hL with hL|hL
     ·exact h2 L (List.mem_append_left _ hL)
     ·simp at hL
      subst hL;rw[Am];assumption
    ·intro L hL
     rcases List.mem_append.1 hL with hL|hL
     ·exact h2 L hL
     ·simp at hL
      subst hL;exact h1 _ List.mem_cons_self
 exact this M [] h (fun L hL=>absurd hL (by simp))
theorem Px (L:List Pr) (R:List (List Pr)):∃y r,Br (L::R)=y::r/\szL L<=szL y:=by
 have:∀(R l:List (List Pr)) (x:List Pr),∃y r,R.foldl Dv (x::l)=y::r/\szL x<=szL y:=by
  intro R
  induction R with
  |nil=>exact fun l x=>⟨x,l,rfl,Nat.le_refl _⟩
  |cons a R ih=>
   intro l x;rw[List.foldl_cons];rcases Cb l with rfl|⟨l',z,rfl⟩
   ·have e:Dv [x] a=if szL x+szL a<=1024 then [x++a]else [x,a]:=Ce [] x a
    rw[e];split
    ·obtain⟨y,r,h1,h2⟩:=ih [] (x++a)
     exact⟨y,r,h1,by rw[Am]at h2;omega⟩
    ·exact ih [a] x
   ·have e:Dv (x::(l'++[z])) a=if szL z+szL a<=1024 then x::(l'++[z++a])else x::(l'++[z]++[a]):=Ce (x::l') z a
    rw[e];split
    ·exact ih _ x
    ·exact ih _ x
 exact this R [] L
theorem Pw (M:List (List Pr)) (s:List Pr):∃r y,Br (M++[s])=r++[y]/\szL s<=szL y:=by
 rw[Kb];rcases Cb (Br M)with h|⟨l',x,h⟩
 ·rw[h];exact⟨[],s,rfl,Nat.le_refl _⟩
 ·rw[h,Ce]
  split
  ·exact⟨l',x++s,rfl,by rw[Am];omega⟩
  ·exact⟨l'++[x],s,rfl,Nat.le_refl _⟩
theorem VD {Ls:List (List Pr)} (ha:Adj Ls) (hf:∀L∈Ls,szL L<=1024) (hn:Ls.flatten≠[]):∀L∈Ls,L≠[]:=by
 intro L hL e;subst e;obtain⟨i,hi,hi2⟩:=List.getElem_of_mem hL;rw[Is]at ha;have z:szL ([]:List Pr)=0:=rfl;rcases Nat.eq_zero_or_pos i with h0|h0
 ·by_cases h1:i+1<Ls.length
  ·have:=ha i h1
   have h2:=hf _ (List.getElem_mem h1);rw[hi2,z]at this;omega
  ·have hl:Ls.length=1:=by omega
   obtain⟨a,rfl⟩:=List.length_eq_one_iff.1 hl;simp at hL hn;exact hn hL
 ·have:=ha (i-1) (by omega)
  have e:i-1+1=i:=by omega
  simp only[e]at this;have h2:=hf _ (List.getElem_mem (show i-1<Ls.length by omega));rw[hi2,z]at this;omega
theorem BW.window {A B C M:List (List Pr)} (h:BW (A++B++C)) (hfit:∀L∈M,szL L<=1024) (hok:∀L∈M,∀x∈L,x.Ok)
  (hA:A≠[]->∃L R S,B=L::R/\M=L::S) (hC:C≠[]->∃L R S,B=R++[L]/\M=S++[L])
  (hs:(A++M++C).flatten.Pairwise (fun a b=>bl a.k b.k=true)) (hsum:szL (A++M++C).flatten<=30000) (hne:M.flatten≠[]):BW (A++Br M++C):=by
 have ef:(A++Br M++C).flatten=(A++M++C).flatten:=by
  rw[List.flatten_append,List.flatten_append,Cu,List.flatten_append,List.flatten_append]
 have h1:=(Is _).2 h.adj;rw[Dj,Dj]at h1;obtain⟨⟨a1,a2,a3⟩,a4,a5⟩:=h1;have hfm:=L4 hfit;have fitA:∀L∈A,szL L<=1024:=fun L hL=>h.fit L (List.mem_append_left _ (List.mem_append_left _ hL));have fitC:∀L∈C,szL L<=1024:=fun L hL=>h.fit L (List.mem_append_right _ hL)
 have hfa:∀L∈A++Br M++C,szL L<=1024:=by
  intro L hL;rcases List.mem_append.1 hL with hL|hL
  ·rcases List.mem_append.1 hL with hL|hL
   ·exact fitA L hL
   ·exact hfm L hL
  ·exact fitC L hL
 have hmn:Br M≠[]:=by
  intro e;have:=Cu M;rw[e]at this;exact hne this.symm
 have adj:Adj (A++Br M++C):=by
  rw[Dj,Dj];refine⟨⟨a1,L5 M,fun x y hx hy=> ?_⟩,a4,fun x y hx hy=> ?_⟩
  ·obtain⟨L,R,S,rfl,rfl⟩:=hA (by rintro rfl;simp at hx)
   obtain⟨z,r,e1,e2⟩:=Px L S;rw[e1]at hy;simp at hy;subst hy;have:=a3 x L hx rfl;omega
  ·obtain⟨L,R,S,rfl,rfl⟩:=hC (by rintro rfl;simp at hy)
   obtain⟨r,z,e1,e2⟩:=Pw S L;rw[e1,<-List.append_assoc,List.getLast?_append]at hx;simp at hx;subst hx;have:=a5 L y (by rw[<-List.append_assoc,List.getLast?_append];simp) hy;omega
 have hfl:(A++Br M++C).flatten≠[]:=by
  rw[ef,List.flatten_append,List.flatten_append];intro e;have:=(List.append_eq_nil_iff.1 e).1;exact hne (List.append_eq_nil_iff.1 this).2
 refine⟨VD adj hfa hfl,hfa,?_,(Is _).1 adj,by rw[ef];exact hsum,by rw[ef];exact hs⟩;intro L hL x hx;rcases List.mem_append.1 hL with hL|hL
 ·rcases List.mem_append.1 hL with hL|hL
  ·exact h.ok L (List.mem_append_left _ (List.mem_append_left _ hL)) x hx
  ·have:x∈M.flatten:=by rw[<-Cu];exact List.mem_flatten.2 ⟨L,hL,hx⟩
   obtain⟨L',h1,h2⟩:=List.mem_flatten.1 this;exact hok L' h1 x h2
 ·exact h.ok L (List.mem_append_right _ hL) x hx
theorem FC (a b:List Pr):Aj (a++b)=Aj a++Aj b:=by
 apply ByteArray.ext;rw[ByteArray.data_append];unfold Aj;rw[DV];simp
theorem M5 (l:List (List Pr)) (s:List Pr):BU (l.map Aj) (Aj s)=(Dv l s).map Aj:=by
 rcases Cb l with rfl|⟨l',x,rfl⟩
 ·rfl
 ·rw[Ce]
  unfold BU;rw[List.map_append,List.map_singleton,List.getLast?_append];simp only[List.getLast?_singleton,Option.some_or,AY];split
  ·rw[List.dropLast_concat,List.map_append,List.map_singleton,FC]
  ·simp
theorem So (M:List (List Pr)):E8 (M.map Aj)=(Br M).map Aj:=by
 have:∀(M l:List (List Pr)),(M.map Aj).foldl BU (l.map Aj)=(M.foldl Dv l).map Aj:=by
  intro M
  induction M with
  |nil=>exact fun _=>rfl
  |cons a r ih=>intro l;rw[List.map_cons,List.foldl_cons,List.foldl_cons,M5,ih]
 exact this M []
structure Cut (T:Tr) (key:ByteArray) (l a b:Nat) (L:List Pr) (j k:Nat):Prop where
 at_:T.Ls[l]? =some L
 jk:(k=j/\b=a)\/(k=j+1/\a<b)
 le:k<=L.length
 from_:a=szL (L.take j)
 to_:b=szL (L.take k)
 less:∀x∈(T.Ls.take l).flatten++L.take j,bl x.k key=true
 more:∀x∈L.drop k++(T.Ls.drop (l+1)).flatten,bl key x.k=true
theorem EJ.cut {T:Tr} {key txt:ByteArray} {l a b:Nat} (h:EJ T key l txt a b) (ok:BW T.Ls):∃L j k,txt=Aj L/\Cut T key l a b L j k:=by
 obtain⟨j,hf⟩:=h.find;have hlt:=h.lt;have hrow:=ok.row (List.getElem_mem hlt)
 have less:∀x∈(T.Ls.take l).flatten++T.Ls[l].take j,bl x.k key=true:=by
  intro x hx;rcases List.mem_append.1 hx with hx|hx
  ·obtain⟨L,hL,hxL⟩:=List.mem_flatten.1 hx
   obtain⟨i,hi,rfl⟩:=List.mem_take_iff_getElem.1 hL;obtain⟨y,hy,hyk⟩:=ok.first_mem hlt;have h1:=ok.apart (show i<l by omega) hlt hxL hy;have h2:=h.left l (by omega) (Nat.le_refl _) hlt;rw[hyk]at h1;rcases Gn (Cw T.Ls[l]) key with e|e|e
   ·exact Dx h1 e
   ·rw[<-e];exact h1
   ·rw[e]at h2;cases h2
  ·obtain⟨i,hi,rfl⟩:=List.mem_take_iff_getElem.1 hx
   exact hf.less i (by omega)
 have far:∀x∈(T.Ls.drop (l+1)).flatten,bl key x.k=true:=by
  intro x hx;obtain⟨L,hL,hxL⟩:=List.mem_flatten.1 hx;obtain⟨i,hi,rfl⟩:=List.getElem_of_mem hL;rw[List.length_drop]at hi;rw[List.getElem_drop]at hxL;have h2:=h.right (l+1+i) (by omega) (by omega);rcases Oh (ok.row (List.getElem_mem (show l+1+i<T.Ls.length by omega))) hxL with e|e
  ·rw[<-e];exact h2
  ·exact Dx h2 e
 rcases hf.to_ with⟨hb,hn⟩|⟨hj,he,_,hb⟩
 ·refine⟨T.Ls[l],j,j,h.txt,List.getElem?_eq_getElem hlt,.inl ⟨rfl,hb⟩,hf.le,hf.from_,by rw[hb];exact hf.from_,less,fun x hx=> ?_⟩
  rcases List.mem_append.1 hx with hx|hx
  ·obtain⟨i,hi,rfl⟩:=List.getElem_of_mem hx
   rw[List.length_drop]at hi;rw[List.getElem_drop];obtain⟨n1,n2⟩:=hn (by omega)
   have h3:bl key (T.Ls[l][j]'(by omega)).k=true:=by
    rcases Gn (T.Ls[l][j]'(by omega)).k key with e|e|e
    ·rw[e]at n1;cases n1
    ·rw[e]at n2;simp at n2
    ·exact e
   rcases Nat.eq_zero_or_pos i with rfl|hi0
   ·exact h3
   ·exact Dx h3 (List.pairwise_iff_getElem.1 hrow j (j+i) (by omega) (by omega) (by omega))
  ·exact far x hx
 ·have hk:=Dw he
  have e2:=Bj hj;unfold Pr.sz at e2;have e3:=hf.from_;refine⟨T.Ls[l],j,j+1,h.txt,List.getElem?_eq_getElem hlt,.inr ⟨rfl,by omega⟩,hj,hf.from_,hb,less,fun x hx=> ?_⟩;rcases List.mem_append.1 hx with hx|hx
  ·obtain⟨i,hi,rfl⟩:=List.getElem_of_mem hx
   rw[List.length_drop]at hi;rw[List.getElem_drop];have:=List.pairwise_iff_getElem.1 hrow j (j+1+i) hj (by omega) (by omega);rw[hk]at this;exact this
  ·exact far x hx
theorem BW.changed {A P C S parts:List (List Pr)} {L L':List Pr} (h:BW (A++(P++[L]++S)++C)) (hP:(P=[]/\A=[])\/∃p,P=[p]) (hS:(S=[]/\C=[])\/∃q,S=[q])
  (hp:parts.flatten=L') (hfit:∀X∈parts,szL X<=1024) (hok:∀x∈L',x.Ok) (hs:((A++P).flatten++L'++(S++C).flatten).Pairwise (fun a b=>bl a.k b.k=true))
  (hsum:szL ((A++P).flatten++L'++(S++C).flatten)<=30000) (hne:(A++P).flatten++L'++(S++C).flatten≠[]):
  BW (A++Br (P++parts++S)++C)/\(A++Br (P++parts++S)++C).flatten=(A++P).flatten++L'++(S++C).flatten:=by
 have ef:(A++(P++parts++S)++C).flatten=(A++P).flatten++L'++(S++C).flatten:=by
  simp only[List.flatten_append,hp,List.append_assoc]
 refine⟨BW.window (B:=P++[L]++S) h ?_ ?_ ?_ ?_ (by rw[ef];exact hs) (by rw[ef];exact hsum) ?_,?_⟩
 ·intro X hX
  rcases List.mem_append.1 hX with hX|hX
  ·rcases List.mem_append.1 hX with hX|hX
   ·exact h.fit X (by simp[hX])
   ·exact hfit X hX
  ·exact h.fit X (by simp[hX])
 ·intro X hX x hx
  rcases List.mem_append.1 hX with hX|hX
  ·rcases List.mem_append.1 hX with hX|hX
   ·exact h.ok X (by simp[hX]) x hx
   ·exact hok x (by rw[<-hp];exact List.mem_flatten.2 ⟨X,hX,hx⟩)
  ·exact h.ok X (by simp[hX]) x hx
 ·intro hA
  rcases hP with⟨_,e⟩|⟨p,rfl⟩
  ·exact absurd e hA
  ·exact⟨p,[L]++S,parts++S,by simp,by simp⟩
 ·intro hC
  rcases hS with⟨_,e⟩|⟨q,rfl⟩
  ·exact absurd e hC
  ·exact⟨q,P++[L],P++parts,rfl,rfl⟩
 ·intro e
  rw[List.flatten_append,List.flatten_append]at e;have e1:=List.append_eq_nil_iff.1 e;have e2:=List.append_eq_nil_iff.1 e1.1
  have hP0:P=[]/\A=[]:=by
   rcases hP with hP|⟨p,rfl⟩
   ·exact hP
   ·exact absurd (by simpa using e2.1) (h.ne p (by simp))
  have hS0:S=[]/\C=[]:=by
   rcases hS with hS|⟨q,rfl⟩
   ·exact hS
   ·exact absurd (by simpa using e1.2) (h.ne q (by simp))
  apply hne;rw[hP0.1,hP0.2,hS0.1,hS0.2,<-hp,e2.2];rfl
 ·rw[<-ef]
  simp only[List.flatten_append,Cu]
theorem Cut.sorted {T:Tr} {key:ByteArray} {l a b j k:Nat} {L:List Pr} (h:Cut T key l a b L j k) (ok:BW T.Ls) {nw:List Pr} (hn:nw=[]\/∃x,nw=[x]/\x.k=key):
  ((T.Ls.take l).flatten++(L.take j++nw++L.drop k)++(T.Ls.drop (l+1)).flatten).Pairwise (fun a b=>bl a.k b.k=true):=by
 obtain⟨hlt,hL⟩:=List.getElem?_eq_some_iff.1 h.at_
 have e:T.Ls=T.Ls.take l++(L::T.Ls.drop (l+1)):=by
  rw[<-hL,<-List.drop_eq_getElem_cons hlt,List.take_append_drop]
 have hjk:j<=k:=by rcases h.jk with h|h<;>omega
 have e2:L=L.take j++(L.drop j).take (k-j)++L.drop k:=by
  rw[List.append_assoc]
  have:(L.drop j).take (k-j)++L.drop k=L.drop j:=by
   have h2:L.drop k=(L.drop j).drop (k-j):=by rw[List.drop_drop];congr 1;omega
   rw[h2,List.take_append_drop]
  rw[this,List.take_append_drop]
 have hs:=ok.sorted;rw[e,List.flatten_append,List.flatten_cons]at hs
 have sub:List.Sublist ((T.Ls.take l).flatten++(L.take j++L.drop k)++(T.Ls.drop (l+1)).flatten) ((T.Ls.take l).flatten++(L++(T.Ls.drop (l+1)).flatten)):=by
  rw[List.append_assoc];refine List.Sublist.append (List.Sublist.refl _) (List.Sublist.append ?_ (List.Sublist.refl _))
  conv=>rhs;rw[e2]
  exact List.Sublist.append (List.sublist_append_left _ _) (List.Sublist.refl _)
 have hs2:=hs.sublist sub;rcases hn with rfl|⟨x,rfl,rfl⟩
 ·rw[List.append_nil]
  exact hs2
 ·have e3:(T.Ls.take l).flatten++(L.take j++L.drop k)++(T.Ls.drop (l+1)).flatten=((T.Ls.take l).flatten++L.take j)++(L.drop k++(T.Ls.drop (l+1)).flatten):=by simp only[List.append_assoc]
  have e4:(T.Ls.take l).flatten++(L.take j++[x]++L.drop k)++(T.Ls.drop (l+1)).flatten=((T.Ls.take l).flatten++L.take j)++(x::(L.drop k++(T.Ls.drop (l+1)).flatten)):=by simp only[List.append_assoc,List.cons_append,List.nil_append]
  rw[e3,List.pairwise_append]at hs2;rw[e4,List.pairwise_append,List.pairwise_cons];refine⟨hs2.1,⟨h.more,hs2.2.1⟩,fun u hu v hv=> ?_⟩;rcases List.mem_cons.1 hv with rfl|hv
  ·exact h.less u hu
  ·exact hs2.2.2 u hu v hv
def ahead (Ls:List (List Pr)) (l:Nat):List (List Pr):=(Ls.take l).drop (l-1)
def CG (Ls:List (List Pr)) (l:Nat):List (List Pr):=(Ls.drop (l+1)).take 1
theorem LM (Ls:List (List Pr)) (l:Nat):Ls.take (l-1)++ahead Ls l=Ls.take l:=by
 unfold ahead;have:Ls.take (l-1)=(Ls.take l).take (l-1):=by rw[List.take_take,Nat.min_eq_left (by omega)]
 rw[this,List.take_append_drop]
theorem KD (Ls:List (List Pr)) (l:Nat):CG Ls l++Ls.drop (l+2)=Ls.drop (l+1):=by
 unfold CG;have:Ls.drop (l+2)=(Ls.drop (l+1)).drop 1:=by rw[List.drop_drop]
 rw[this,List.take_append_drop]
theorem Qf {Ls:List (List Pr)} {l:Nat} (hl:l<Ls.length):(ahead Ls l=[]/\Ls.take (l-1)=[])\/∃p,ahead Ls l=[p]:=by
 rcases Nat.eq_zero_or_pos l with rfl|h
 ·exact .inl ⟨rfl,rfl⟩
 ·refine .inr (List.length_eq_one_iff.1 ?_)
  unfold ahead;rw[List.length_drop,List.length_take];omega
theorem O4 (Ls:List (List Pr)) (l:Nat):(CG Ls l=[]/\Ls.drop (l+2)=[])\/∃q,CG Ls l=[q]:=by
 unfold CG;rcases Nat.lt_or_ge (l+1) Ls.length with h|h
 ·refine .inr (List.length_eq_one_iff.1 ?_)
  rw[List.length_take,List.length_drop];omega
 ·rw[List.drop_eq_nil_of_le h,List.drop_eq_nil_of_le (by omega)]
  exact .inl ⟨rfl,rfl⟩
theorem J1 {Ls:List (List Pr)} {l:Nat} (hl:l<Ls.length):Ls=Ls.take (l-1)++(ahead Ls l++[Ls[l]]++CG Ls l)++Ls.drop (l+2):=by
 have e:Ls.take (l-1)++(ahead Ls l++[Ls[l]]++CG Ls l)++Ls.drop (l+2)=(Ls.take (l-1)++ahead Ls l)++([Ls[l]]++(CG Ls l++Ls.drop (l+2))):=by simp only[List.append_assoc]
 rw[e,LM,KD,List.singleton_append,<-List.drop_eq_getElem_cons hl,List.take_append_drop]
theorem OI {Ls:List (List Pr)} {l:Nat} (hl:l<Ls.length):(ahead Ls l++[Ls[l]]++CG Ls l).length=min (l+2) Ls.length-(l-1):=by
 unfold ahead CG;simp only[List.length_append,List.length_drop,List.length_take,List.length_singleton];omega
def chg (T:Tr) (l j k:Nat) (L nw:List Pr):List Pr:=(T.Ls.take l).flatten++(L.take j++nw++L.drop k)++(T.Ls.drop (l+1)).flatten
def Xr (T:Tr) (l:Nat) (parts:List (List Pr)):List (List Pr):=T.Ls.take (l-1)++Br (ahead T.Ls l++parts++CG T.Ls l)++T.Ls.drop (l+2)
theorem Cut.changed {T:Tr} {key:ByteArray} {l a b j k:Nat} {L:List Pr} (h:Cut T key l a b L j k) (ok:BW T.Ls) {nw:List Pr} (hn:nw=[]\/∃x,nw=[x]/\x.k=key) (hnok:∀x∈nw,x.Ok)
  {parts:List (List Pr)} (hp:parts.flatten=L.take j++nw++L.drop k) (hfit:∀X∈parts,szL X<=1024) (hsum:szL (chg T l j k L nw)<=30000) (hne:chg T l j k L nw≠[]):
  BW (Xr T l parts)/\(Xr T l parts).flatten=chg T l j k L nw:=by
 obtain⟨hlt,hL⟩:=List.getElem?_eq_some_iff.1 h.at_;have hs:=h.sorted ok hn;have e0:=J1 hlt;rw[hL]at e0;have okw:BW (T.Ls.take (l-1)++(ahead T.Ls l++[L]++CG T.Ls l)++T.Ls.drop (l+2)):=e0▸ok;have e1:=LM T.Ls l;have e2:=KD T.Ls l;have hLm:L∈T.Ls:=by rw[<-hL];exact List.getElem_mem hlt
 have hok:∀x∈L.take j++nw++L.drop k,x.Ok:=by
  intro x hx;rcases List.mem_append.1 hx with hx|hx
  ·rcases List.mem_append.1 hx with hx|hx
   ·exact ok.ok L hLm x (List.mem_of_mem_take hx)
   ·exact hnok x hx
  ·exact ok.ok L hLm x (List.mem_of_mem_drop hx)
 have:=BW.changed okw (Qf hlt) (O4 T.Ls l) hp hfit hok (by rw[e1,e2];exact hs) (by rw[e1,e2];exact hsum) (by rw[e1,e2];exact hne);rw[e1,e2]at this;exact this
theorem Db (L:List Pr):(Aj L).data.toList=Dg L:=by unfold Aj;simp
theorem IZ (L:List Pr) (j:Nat):(Aj L).extract 0 (szL (L.take j))=Aj (L.take j):=by
 apply ByteArray.ext;apply Array.ext';rw[ByteArray.data_extract,Array.toList_extract,Db,Db,List.extract_eq_take_drop];have e:Dg L=Dg (L.take j)++Dg (L.drop j):=by rw[<-DV,List.take_append_drop]
 have hl:(Dg (L.take j)).length=szL (L.take j):=by rw[<-Db,Array.length_toList];exact AY _
 rw[e,List.drop_zero,Nat.sub_zero,<-hl,List.take_left]
theorem Kj (L:List Pr) (k:Nat):(Aj L).extract (szL (L.take k)) (Aj L).size=Aj (L.drop k):=by
 apply ByteArray.ext;apply Array.ext';have e:Dg L=Dg (L.take k)++Dg (L.drop k):=by rw[<-DV,List.take_append_drop]
 have hl:(Dg (L.take k)).length=szL (L.take k):=by rw[<-Db,Array.length_toList];exact AY _
 have hl2:(Aj L).size=(Dg L).length:=by rw[<-Db,Array.length_toList];rfl
 rw[ByteArray.data_extract,Array.toList_extract,Db,Db,List.extract_eq_take_drop,hl2,e,<-hl,List.drop_left,List.length_append,Nat.add_sub_cancel_left,List.take_length]
theorem Sm (L nw:List Pr) (j k:Nat):(Aj L).extract 0 (szL (L.take j))++Aj nw++(Aj L).extract (szL (L.take k)) (Aj L).size=Aj (L.take j++nw++L.drop k):=by
 rw[IZ,Kj,FC,FC]
end
section
open Go.RowKit
theorem RK {L:List Pr} (hok:∀x∈L,x.Ok) (hs:szL L<=1186) (w:World):
  Calls Tryz.prog 141 #[.string (Aj L)] w fun e w'=>∃(v:Value) (parts:List (List Pr)),e= .returned v/\CH w.heap.size v (parts.map Aj) w'/\parts.flatten=L/\(∀X∈parts,szL X<=1024)/\1<=parts.length/\parts.length<=2/\Below w.heap.size w w':=by
 by_cases h:szL L<=1024
 ·refine(PA (Aj L) (by rw[AY];exact h) w).mono ?_
  rintro e w' ⟨v,rfl,h1,h2⟩;exact⟨v,[L],rfl,h1,by simp,fun X hX=>by simp at hX;subst hX;exact h,Nat.le_refl _,by simp,h2⟩
 ·refine(P9 (FB hok (by omega)) (by rw[AY];omega) (by rw[AY];exact hs) w).mono ?_
  rintro e w' ⟨v,j,rfl,hj,h1,h2⟩;rw[IZ,Kj]at h1;refine⟨v,[L.take j,L.drop j],rfl,h1,by simp,fun X hX=> ?_,by simp,by simp,h2⟩;simp at hX;rcases hX with rfl|rfl
  ·exact hj.left
  ·exact hj.right
end
section
structure Hn (V:Pst) (P:List Nat) (V':Pst) (P':List Nat):Prop where
 used:∀k,V'.used k=true↔(V.used k=true/\k∉P)\/k∈P'
 new:∀k∈P',k∈P\/V.used k=false
 low:∀k∈P',0<k/\k<2000
 nodup:P'.Nodup
 tx:∀k,V.used k=true->V'.tx k=V.tx k
 rp:V'.rp=V.rp
 rn:V'.rn=V.rn
 pre:P'.take P.length=P.take P'.length
section
variable {V V' V'':Pst} {P P':List Nat}
theorem Hn.refl (hl:∀k∈P,0<k/\k<2000/\V.used k=true) (hn:P.Nodup):Hn V P V P:=by
 refine⟨fun k=> ?_,fun k hk=> .inl hk,fun k hk=>⟨(hl k hk).1,(hl k hk).2.1⟩,hn,fun _ _=>rfl,rfl,rfl,rfl⟩
 by_cases h:k∈P
 ·simp[h,(hl k h).2.2]
 ·simp[h]
theorem Hn.alloc (h:Hn V P V' P') (hle:P.length<=P'.length) {k:Nat} (h0:0<k) (hk:k<2000) (hu:V'.used k=false):Hn V P (V'.alloc k) (P'++[k]):=by
 have hn:k∉P':=fun e=>by
  have:=(h.used k).2 (.inr e);rw[hu]at this;cases this
 have hf:k∈P\/V.used k=false:=by
  by_cases e:k∈P
  ·exact .inl e
  ·refine .inr ?_
   cases hq:V.used k
   ·rfl
   ·have:=(h.used k).2 (.inl ⟨hq,e⟩)
    rw[hu]at this;cases this
 have hpk:k∉P:=by
  intro e;have hp:=h.pre;rw[List.take_of_length_le hle]at hp;exact hn (List.mem_of_mem_take (by rw[hp];exact e))
 refine⟨fun j=> ?_,fun j hj=> ?_,fun j hj=> ?_,?_,fun j hj=> ?_,h.rp,h.rn,?_⟩
 ·show(if j=k then true else V'.used j)=true↔_
  by_cases e:j=k
  ·subst e;simp
  ·rw[if_neg e,h.used j];simp[e]
 ·rcases List.mem_append.1 hj with hj|hj
  ·exact h.new j hj
  ·obtain rfl:=List.mem_singleton.1 hj;exact hf
 ·rcases List.mem_append.1 hj with hj|hj
  ·exact h.low j hj
  ·obtain rfl:=List.mem_singleton.1 hj;exact⟨h0,hk⟩
 ·rw[List.nodup_append]
  exact⟨h.nodup,by simp,fun a ha b hb=>by obtain rfl:=List.mem_singleton.1 hb;exact fun e=>hn (e▸ha)⟩
 ·show(if j=k then D5 else V'.tx j)=_
  by_cases e:j=k
  ·subst e
   rcases hf with hf|hf
   ·exact absurd hf hpk
   ·rw[hj]at hf;cases hf
  ·rw[if_neg e];exact h.tx j hj
 ·have hp:=h.pre
  rw[List.take_append_of_le_length hle,hp,List.take_of_length_le hle,List.take_of_length_le (by simp;omega)]
theorem Hn.cut (h:Hn V P V' P') (n:Nat) (hu:∀k,V''.used k=true↔V'.used k=true/\k∉P'.drop n) (ht:V''.tx=V'.tx) (hrp:V''.rp=V'.rp) (hrn:V''.rn=V'.rn):Hn V P V'' (P'.take n):=by
 have hs:∀k,k∈P'↔k∈P'.take n\/k∈P'.drop n:=fun k=>by
  conv=>lhs;rw[<-List.take_append_drop n P']
  exact List.mem_append
 have hd:∀k,k∈P'.take n->k∉P'.drop n:=fun k h1 h2=>by
  have:=h.nodup;rw[<-List.take_append_drop n P',List.nodup_append]at this;exact this.2.2 k h1 k h2 rfl
 refine⟨fun k=> ?_,fun k hk=>h.new k (List.mem_of_mem_take hk),fun k hk=>h.low k (List.mem_of_mem_take hk),h.nodup.sublist (List.take_sublist _ _),fun k hk=>by rw[ht];exact h.tx k hk,hrp.trans h.rp,hrn.trans h.rn,?_⟩
 ·rw[hu k,h.used k]
  constructor
  ·rintro⟨h1|h1,h2⟩
   ·exact .inl h1
   ·rcases(hs k).1 h1 with h3|h3
    ·exact .inr h3
    ·exact absurd h3 h2
  ·rintro(h1|h1)
   ·refine⟨.inl h1,fun e=> ?_⟩
    rcases h.new k ((hs k).2 (.inr e))with h3|h3
    ·exact h1.2 h3
    ·rw[h1.1]at h3;cases h3
   ·exact⟨.inr ((hs k).2 (.inl h1)),hd k h1⟩
 ·have hp:=h.pre
  rw[List.take_take,Nat.min_comm,<-List.take_take,hp,List.length_take,List.take_take]
end
theorem S6 {f:Nat->Bool}:∀n,AB f (n+1)<n->∃k,0<k/\k<n+1/\f k=false/\∀j,0<j->j<k->f j=true:=by
 intro n hn
 have:∃k,0<k/\k<n+1/\f k=false:=by
  apply Classical.byContradiction;intro hne
  have hall:∀k,0<k->k<n+1->f k=true:=fun k h0 hk=>by
   cases e:f k
   ·exact absurd ⟨k,h0,hk,e⟩ hne
   ·rfl
  have hc:∀m,m<=n->m<=AB f (m+1):=by
   intro m
   induction m with
   |zero=>intro _;exact Nat.zero_le _
   |succ m ih=>
    intro hm;have h1:=ih (by omega);rw[AB,hall (m+1) (by omega) (by omega)];simp only[if_true];omega
  have:=hc n (Nat.le_refl _);omega
 obtain⟨k,hk⟩:=this
 have hind:∀k,(0<k/\k<n+1/\f k=false)->∃k,0<k/\k<n+1/\f k=false/\∀j,0<j->j<k->f j=true:=by
  intro k
  induction k using Nat.strongRecOn with
  |ind k ih=>
   intro hk
   by_cases hj:∃j,0<j/\j<k/\f j=false
   ·obtain⟨j,h0,h1,h2⟩:=hj
    exact ih j h1 ⟨h0,by omega,h2⟩
   ·refine⟨k,hk.1,hk.2.1,hk.2.2,fun j h0 h1=> ?_⟩
    cases e:f j
    ·exact absurd ⟨j,h0,h1,e⟩ hj
    ·rfl
 exact hind k hk
theorem K2 (f:Nat->Bool) (k:Nat):∀n,AB (fun i=>if i=k then true else f i) n<=AB f n+1
 |0=>Nat.zero_le _
 |n+1=>by
  have ih:=K2 f k n;rw[AB,AB]
  by_cases e:n=k
  ·subst e
   have:AB (fun i=>if i=n then true else f i) n=AB f n:=Gk n (fun j hj=>if_neg (by omega));rw[this];simp only[if_true];omega
  ·simp only[if_neg e]
   omega
theorem K3:∀n,AB (fun _=>false) n=0
 |0=>rfl
 |n+1=>by rw[AB,K3 n];rfl
theorem Ot {f:Nat->Bool} {n:Nat}:∀ {S:List Nat},S.Nodup->(∀k∈S,k<n)->(∀k,k<n->(f k=true↔k∈S))->AB f n=S.length:=by
 intro S
 induction S generalizing f with
 |nil=>
  intro _ _ h;rw[Gk (g:=fun _=>false) n (fun k hk=>by cases e:f k;rfl;exact absurd ((h k hk).1 e) (by simp)),K3];rfl
 |cons x S ih=>
  intro hn hl h;have hx:x<n:=hl x (by simp);have hxs:x∉S:=(List.nodup_cons.1 hn).1
  have e1:=ih (f:=fun k=>if k=x then false else f k) (List.nodup_cons.1 hn).2 (fun k hk=>hl k (by simp[hk])) (fun k hk=>by
   show(if k=x then false else f k)=true↔_
   by_cases e:k=x
   ·subst e;simp[hxs]
   ·rw[if_neg e,h k hk];simp[e])
  have hc:∀m,AB f m=AB (fun k=>if k=x then false else f k) m+(if x<m then 1 else 0):=by
   intro m
   induction m with
   |zero=>rfl
   |succ m ihm=>
    rw[AB,AB,ihm]
    by_cases e:m=x
    ·subst e
     have:f m=true:=(h m hx).2 (by simp);rw[this];simp
    ·simp only[if_neg e]
     by_cases e2:x<m
     ·rw[show(if x<m then 1 else 0)=(1:Nat)from if_pos e2,show(if x<m+1 then 1 else 0)=(1:Nat)from if_pos (by omega)];omega
     ·rw[show(if x<m then 1 else 0)=(0:Nat)from if_neg e2,show(if x<m+1 then 1 else 0)=(0:Nat)from if_neg (by omega)];omega
  rw[hc n,e1,if_pos hx,List.length_cons]
def Tr.pgL (T:Tr):List Nat:=(if T.top=0 then []else [T.top])++T.ks
structure WrR (V1:Pst) (P:List Nat) (txs:List ByteArray) (i:Nat) (V2:Pst):Prop where
 used:V2.used=V1.used
 rp:V2.rp=V1.rp
 rn:V2.rn=V1.rn
 tx:∀j,j<i->∀(h1:j<P.length) (h2:j<txs.length),V2.tx P[j]=pad txs[j]
 keep:∀k,(∀j,j<i->∀h:j<P.length,P[j]≠k)->V2.tx k=V1.tx k
theorem WrR.refl (V1:Pst) (P:List Nat) (txs:List ByteArray):WrR V1 P txs 0 V1:=⟨rfl,rfl,rfl,fun _ hj=>absurd hj (Nat.not_lt_zero _),fun _ _=>rfl⟩
theorem WrR.step {V1 V2:Pst} {P:List Nat} {txs:List ByteArray} {i:Nat} (h:WrR V1 P txs i V2) (hn:P.Nodup) (h1:i<P.length) (h2:i<txs.length):WrR V1 P txs (i+1) (V2.write P[i] (pad txs[i])):=by
 refine⟨h.used,h.rp,h.rn,fun j hj a b=> ?_,fun k hk=> ?_⟩
 ·show(if P[j]=P[i]then pad txs[i]else V2.tx P[j])=_
  by_cases e:j=i
  ·subst e;rw[if_pos rfl]
  ·have:P[j]≠P[i]:=fun e2=>e ((List.getElem_inj hn).1 e2)
   rw[if_neg this];exact h.tx j (by omega) a b
 ·show(if k=P[i]then pad txs[i]else V2.tx k)=_
  rw[if_neg (fun e=>hk i (by omega) h1 e.symm)];exact h.keep k (fun j hj hl=>hk j (by omega) hl)
structure VF (V V':Pst) (r:Nat) (T T':Tr):Prop where
 at_:D4 V' r T'
 used:∀k,V'.used k=true↔(V.used k=true/\k∉T.pgL)\/k∈T'.pgL
 new:∀k∈T'.pgL,k∈T.pgL\/V.used k=false
 tx:∀k,V.used k=true->k∉T.pgL->V'.tx k=V.tx k
 rp:∀i,i≠r->V'.rp i=V.rp i
 rn:∀i,i≠r->V'.rn i=V.rn i
theorem D4.lay {V V1 V2:Pst} {r f t:Nat} {T:Tr} {M:List (List Pr)} {P':List Nat} (hA:D4 V r T) (hft:f<=t) (ht:t<=T.ks.length) (hok:BW (T.Ls.take f++M++T.Ls.drop t)) (hm:M≠[]\/(f=0/\t=T.ks.length))
  {tops:Nat} (htops:tops=if 1<T.ks.length-(t-f)+M.length then 1 else 0)
  (hF:Hn V ((if T.top=0 then []else [T.top])++(T.ks.drop f).take (t-f)) V1 P') (hlen:P'.length=tops+M.length)
  (hW:WrR V1 P' ((if tops=1 then [GF (T.ks.take f++P'.drop tops++T.ks.drop t)]else [])++M.map Aj) P'.length V2):
  VF V (V2.setRoot r (P'.headD 0:Nat) (szL (T.Ls.take f++M++T.Ls.drop t).flatten:Nat)) r T ⟨if tops=1 then P'.headD 0 else 0,T.ks.take f++P'.drop tops++T.ks.drop t,T.Ls.take f++M++T.Ls.drop t⟩:=by
 have hl:=hA.len
 have hsplit:T.ks=T.ks.take f++((T.ks.drop f).take (t-f)++T.ks.drop t):=by
  have e:T.ks.drop t=(T.ks.drop f).drop (t-f):=by rw[List.drop_drop];congr 1;omega
  rw[e,List.take_append_drop,List.take_append_drop]
 have hnd:=hA.nodup;rw[hsplit,List.nodup_append]at hnd;obtain⟨nd1,nd2,nd3⟩:=hnd;rw[List.nodup_append]at nd2;obtain⟨nd4,nd5,nd6⟩:=nd2
 have hap:∀k∈P',k∉T.ks.take f/\k∉T.ks.drop t:=by
  intro k hk;rcases hF.new k hk with h|h
  ·rcases List.mem_append.1 h with h|h
   ·by_cases h0:T.top=0
    ·rw[if_pos h0]at h;simp at h
    ·rw[if_neg h0]at h
     obtain rfl:=List.mem_singleton.1 h;have:=(hA.ltop h0).2.2.2;exact⟨fun e=>this (List.mem_of_mem_take e),fun e=>this (List.mem_of_mem_drop e)⟩
   ·exact⟨fun e=>nd3 k e k (List.mem_append.2 (.inl h)) rfl,fun e=>nd6 k h k e rfl⟩
  ·refine⟨fun e=> ?_,fun e=> ?_⟩
   ·have:=(hA.low k (List.mem_of_mem_take e)).2.2;rw[h]at this;cases this
   ·have:=(hA.low k (List.mem_of_mem_drop e)).2.2;rw[h]at this;cases this
 have hPnot:∀k,k∈T.ks.take f\/k∈T.ks.drop t->k∉(if T.top=0 then []else [T.top])++(T.ks.drop f).take (t-f):=by
  intro k hk h;rcases List.mem_append.1 h with h|h
  ·by_cases h0:T.top=0
   ·rw[if_pos h0]at h;simp at h
   ·rw[if_neg h0]at h
    obtain rfl:=List.mem_singleton.1 h;have:=(hA.ltop h0).2.2.2;rcases hk with e|e
    ·exact this (List.mem_of_mem_take e)
    ·exact this (List.mem_of_mem_drop e)
  ·rcases hk with e|e
   ·exact nd3 k e k (List.mem_append.2 (.inl h)) rfl
   ·exact nd6 k h k e rfl
 have hmem:∀k,k∈T.ks.take f\/k∈T.ks.drop t->k∈T.ks:=fun k hk=>by
  rcases hk with e|e
  ·exact List.mem_of_mem_take e
  ·exact List.mem_of_mem_drop e
 have hkeep:∀k,k∉P'->V.used k=true->V2.tx k=V.tx k:=fun k hk hu=>by
  rw[hW.keep k (fun j _ h e=>hk (e▸List.getElem_mem h)),hF.tx k hu]
 have hus:∀k,V2.used k=true↔(V.used k=true/\k∉(if T.top=0 then []else [T.top])++(T.ks.drop f).take (t-f))\/k∈P':=fun k=>by rw[hW.used];exact hF.used k
 have hP'pos:∀k∈P',0<k/\k<2000:=hF.low;have ht01:tops=0\/tops=1:=by rw[htops];split<;>simp
 have hdl:(P'.drop tops).length=M.length:=by rw[List.length_drop];omega
 have hLlen:(T.Ls.take f++M++T.Ls.drop t).length=f+M.length+(T.ks.length-t):=by
  rw[List.length_append,List.length_append,List.length_take,List.length_drop];omega
 have htopne:tops=1->P'≠[]:=fun e h=>by rw[h]at hlen;simp at hlen;omega
 have hhead:∀h:P'≠[],P'.headD 0=P'[0]'(List.length_pos_iff.2 h):=fun h=>by
  cases P' with
  |nil=>exact absurd rfl h
  |cons a b=>rfl
 have hdropm:∀k,k∈P'.drop tops->k∈P':=fun k h=>List.mem_of_mem_drop h;refine⟨⟨?_,hok,?_,?_,?_,?_,?_,?_,?_⟩,?_,?_,?_,?_,?_⟩
 ·
  show(T.ks.take f++P'.drop tops++T.ks.drop t).length=_;rw[hLlen,List.length_append,List.length_append,hdl,List.length_take,List.length_drop];omega
 ·
  show(if r=r then _ else _)=_;rw[if_pos rfl];rfl
 ·
  show(if r=r then _ else _)=_;rw[if_pos rfl];rcases ht01 with e|e
  ·simp only[e,Nat.zero_ne_one,if_false,if_true,List.drop_zero]
   have hsmall:¬1<T.ks.length-(t-f)+M.length:=fun h=>by rw[if_pos h]at htops;omega
   rw[e]at hlen;rcases hm with h|⟨rfl,rfl⟩
   ·have hmp:=List.length_pos_iff.2 h
    have hf0:f=0:=by omega
    have htl:t=T.ks.length:=by omega
    subst hf0 htl;simp
   ·simp
  ·have h1:=htopne e
   simp only[e,if_true];have:=hP'pos (P'.headD 0) (by rw[hhead h1];exact List.getElem_mem _);rw[if_neg (by omega)]
 ·
  show(if tops=1 then P'.headD 0 else 0)=0↔_;rw[hLlen];rcases ht01 with e|e
  ·rw[if_neg (by omega)]
   have hsmall:¬1<T.ks.length-(t-f)+M.length:=fun h=>by rw[if_pos h]at htops;omega
   exact⟨fun _=>by omega,fun _=>rfl⟩
  ·have h1:=htopne e
   have:=hP'pos (P'.headD 0) (by rw[hhead h1];exact List.getElem_mem _)
   have hbig:1<T.ks.length-(t-f)+M.length:=by
    apply Classical.byContradiction;intro h;rw[if_neg h]at htops;omega
   rw[if_pos e];exact⟨fun h=>by omega,fun h=>by omega⟩
 ·
  show(if tops=1 then P'.headD 0 else 0)≠0->_;intro h
  have e:tops=1:=by
   rcases ht01 with e|e
   ·rw[if_neg (by omega)]at h;exact absurd rfl h
   ·exact e
  have h1:=htopne e;have hin:P'.headD 0∈P':=by rw[hhead h1];exact List.getElem_mem _
  simp only[if_pos e];refine⟨(hP'pos _ hin).2,(hus _).2 (.inr hin),?_,?_⟩
  ·show V2.tx (P'.headD 0)=_
   rw[hhead h1];have:=hW.tx 0 (List.length_pos_iff.2 h1) (List.length_pos_iff.2 h1) (by rw[if_pos e];simp);rw[this];congr 1;simp only[if_pos e,List.singleton_append,List.getElem_cons_zero]
  ·have hx:=hap _ hin
   simp only[List.mem_append,not_or];refine⟨⟨hx.1,fun h2=> ?_⟩,hx.2⟩;rw[hhead h1,e]at h2;obtain⟨j,hj,he⟩:=List.getElem_of_mem h2;rw[List.getElem_drop]at he;have:=(List.getElem_inj hF.nodup).1 he;omega
 ·
  show ∀k∈T.ks.take f++P'.drop tops++T.ks.drop t,_;intro k hk;simp only[List.mem_append]at hk;rcases hk with(hk|hk)|hk
  ·have h1:=hA.low k (hmem k (.inl hk))
   exact⟨h1.1,h1.2.1,(hus k).2 (.inl ⟨h1.2.2,hPnot k (.inl hk)⟩)⟩
  ·have h1:=hP'pos k (hdropm k hk)
   exact⟨h1.1,h1.2,(hus k).2 (.inr (hdropm k hk))⟩
  ·have h1:=hA.low k (hmem k (.inr hk))
   exact⟨h1.1,h1.2.1,(hus k).2 (.inl ⟨h1.2.2,hPnot k (.inr hk)⟩)⟩
 ·
  show ∀i (hi:i<(T.ks.take f++P'.drop tops++T.ks.drop t).length) (hl:i<(T.Ls.take f++M++T.Ls.drop t).length),V2.tx (T.ks.take f++P'.drop tops++T.ks.drop t)[i]=pad (Aj (T.Ls.take f++M++T.Ls.drop t)[i]);intro i hi hl2;have lf:(T.ks.take f).length=f:=by rw[List.length_take];omega
  have lf2:(T.Ls.take f).length=f:=by rw[List.length_take];omega
  rcases Nat.lt_or_ge i f with h1|h1
  ·rw[List.getElem_append_left (by rw[List.length_append,lf];omega),List.getElem_append_left (by rw[lf];exact h1),List.getElem_append_left (by rw[List.length_append,lf2];omega),List.getElem_append_left (by rw[lf2];exact h1)]
   have hk:(T.ks.take f)[i]'(by rw[lf];exact h1)∈T.ks.take f:=List.getElem_mem _;rw[hkeep _ (fun e=>(hap _ e).1 hk) (hA.low _ (hmem _ (.inl hk))).2.2];rw[List.getElem_take,List.getElem_take];exact hA.page i (by omega) (by omega)
  ·rcases Nat.lt_or_ge i (f+M.length)with h2|h2
   ·rw[List.getElem_append_left (by rw[List.length_append,lf,hdl];exact h2),List.getElem_append_right (by rw[lf];exact h1),List.getElem_append_left (by rw[List.length_append,lf2];exact h2),List.getElem_append_right (by rw[lf2];exact h1)]
    simp only[lf,lf2,List.getElem_drop];have hj:tops+(i-f)<P'.length:=by omega
    have hj2:tops+(i-f)<((if tops=1 then [GF (T.ks.take f++P'.drop tops++T.ks.drop t)]else [])++M.map Aj).length:=by
     rw[List.length_append,List.length_map];rcases ht01 with e|e
     ·rw[if_neg (by omega)];simp;omega
     ·rw[if_pos e];simp;omega
    rw[hW.tx _ hj hj hj2];congr 1;rcases ht01 with e|e
    ·simp[e]
    ·simp only[e,if_true]
     rw[List.getElem_append_right (by simp)];simp
   ·rw[List.getElem_append_right (by rw[List.length_append,lf,hdl];exact h2),List.getElem_append_right (by rw[List.length_append,lf2];exact h2)]
    have hk:(T.ks.drop t)[i-(T.ks.take f++P'.drop tops).length]'(by rw[List.length_append,lf,hdl,List.length_drop];rw[List.length_append,List.length_append,lf,hdl,List.length_drop]at hi;omega)∈T.ks.drop t:=List.getElem_mem _;rw[hkeep _ (fun e=>(hap _ e).2 hk) (hA.low _ (hmem _ (.inr hk))).2.2];simp only[List.getElem_drop,List.length_append,lf,lf2,hdl];exact hA.page _ (by rw[List.length_append,List.length_append,lf,hdl,List.length_drop]at hi;omega) (by rw[List.length_append,List.length_append,lf,hdl,List.length_drop]at hi;omega)
 ·
  show(T.ks.take f++P'.drop tops++T.ks.drop t).Nodup;rw[List.nodup_append,List.nodup_append];refine⟨⟨nd1,hF.nodup.sublist (List.drop_sublist _ _),fun a ha b hb e=>(hap b (hdropm b hb)).1 (e▸ha)⟩,nd5,fun a ha b hb e=> ?_⟩;subst e;rcases List.mem_append.1 ha with ha|ha
  ·exact nd3 a ha a (List.mem_append.2 (.inr hb)) rfl
  ·exact(hap a (hdropm a ha)).2 hb
 ·
  intro k;show V2.used k=true↔_;rw[hus k]
  have hT:k∈T.pgL↔(k∈(if T.top=0 then []else [T.top])++(T.ks.drop f).take (t-f))\/k∈T.ks.take f\/k∈T.ks.drop t:=by
   unfold Tr.pgL
   conv=>lhs;rw[hsplit]
   simp only[List.mem_append];constructor
   ·rintro(h|h|h|h)
    ·exact .inl (.inl h)
    ·exact .inr (.inl h)
    ·exact .inl (.inr h)
    ·exact .inr (.inr h)
   ·rintro((h|h)|h|h)
    ·exact .inl h
    ·exact .inr (.inr (.inl h))
    ·exact .inr (.inl h)
    ·exact .inr (.inr (.inr h))
  have hT':k∈Tr.pgL ⟨if tops=1 then P'.headD 0 else 0,T.ks.take f++P'.drop tops++T.ks.drop t,T.Ls.take f++M++T.Ls.drop t⟩↔k∈P'\/k∈T.ks.take f\/k∈T.ks.drop t:=by
   unfold Tr.pgL;rcases ht01 with e|e
   ·simp only[e,Nat.zero_ne_one,if_false,if_true,List.nil_append,List.drop_zero,List.mem_append]
    constructor
    ·rintro((h|h)|h)
     ·exact .inr (.inl h)
     ·exact .inl h
     ·exact .inr (.inr h)
    ·rintro(h|h|h)
     ·exact .inl (.inr h)
     ·exact .inl (.inl h)
     ·exact .inr h
   ·have h1:=htopne e
    have hin:P'.headD 0∈P':=by rw[hhead h1];exact List.getElem_mem _
    have hpos:=(hP'pos _ hin).1;simp only[e,if_true];rw[if_neg (by omega)]
    have hc:k∈P'↔k=P'.headD 0\/k∈P'.drop 1:=by
     cases P' with
     |nil=>exact absurd rfl h1
     |cons a b=>simp
    rw[hc];simp only[List.mem_append,List.mem_singleton];constructor
    ·rintro(h|(h|h)|h)
     ·exact .inl (.inl h)
     ·exact .inr (.inl h)
     ·exact .inl (.inr h)
     ·exact .inr (.inr h)
    ·rintro((h|h)|h|h)
     ·exact .inl h
     ·exact .inr (.inl (.inr h))
     ·exact .inr (.inl (.inl h))
     ·exact .inr (.inr h)
  rw[hT,hT'];constructor
  ·rintro(⟨h1,h2⟩|h)
   ·by_cases h3:k∈T.ks.take f\/k∈T.ks.drop t
    ·exact .inr (.inr h3)
    ·exact .inl ⟨h1,fun h=>h.elim h2 h3⟩
   ·exact .inr (.inl h)
  ·rintro(⟨h1,h2⟩|h|h)
   ·exact .inl ⟨h1,fun h=>h2 (.inl h)⟩
   ·exact .inr h
   ·exact .inl ⟨(hA.low k (hmem k h)).2.2,hPnot k h⟩
 ·
  intro k hk
  have hk2:k∈P'\/k∈T.ks.take f\/k∈T.ks.drop t:=by
   unfold Tr.pgL at hk;rcases ht01 with e|e
   ·simp only[e,Nat.zero_ne_one,if_false,if_true,List.nil_append,List.drop_zero,List.mem_append]at hk
    rcases hk with(h|h)|h
    ·exact .inr (.inl h)
    ·exact .inl h
    ·exact .inr (.inr h)
   ·have h1:=htopne e
    have hin:P'.headD 0∈P':=by rw[hhead h1];exact List.getElem_mem _
    have hpos:=(hP'pos _ hin).1;simp only[e,if_true]at hk;rw[if_neg (by omega)]at hk;simp only[List.mem_append,List.mem_singleton]at hk;rcases hk with h|(h|h)|h
    ·exact .inl (h▸hin)
    ·exact .inr (.inl h)
    ·exact .inl (List.mem_of_mem_drop h)
    ·exact .inr (.inr h)
  rcases hk2 with h|h
  ·rcases hF.new k h with h|h
   ·refine .inl ?_
    unfold Tr.pgL;rcases List.mem_append.1 h with h|h
    ·exact List.mem_append.2 (.inl h)
    ·exact List.mem_append.2 (.inr (List.mem_of_mem_drop (List.mem_of_mem_take h)))
   ·exact .inr h
  ·exact .inl (List.mem_append.2 (.inr (hmem k h)))
 ·
  intro k hu hk;show V2.tx k=V.tx k;refine hkeep k (fun e=> ?_) hu;rcases hF.new k e with h|h
  ·refine hk ?_
   unfold Tr.pgL;rcases List.mem_append.1 h with h|h
   ·exact List.mem_append.2 (.inl h)
   ·exact List.mem_append.2 (.inr (List.mem_of_mem_drop (List.mem_of_mem_take h)))
  ·rw[hu]at h;cases h
 ·intro i hi
  show(if i=r then _ else V2.rp i)=_;rw[if_neg hi,hW.rp,hF.rp]
 ·intro i hi
  show(if i=r then _ else V2.rn i)=_;rw[if_neg hi,hW.rn,hF.rn]
end
section
open Go.RowKit Go.Maps
def Ym (B:Nat) (ts:List ByteArray) (w:World):Prop:=∃v,Af B v w/\CH (B+1) v ts w
theorem Jn {w:World} {base C o size n:Nat} {e:TypeId} {v u:Value} {xs:List Value} (h:w.ownsRow base e size v n xs) (hC:C<base):(w.setCell ⟨C,o,none⟩ u).ownsRow base e size v n xs:=by
 refine⟨h.1,?_⟩;rcases h.2 with h2|⟨g,cap,cur,h1,h2,h3,h4⟩
 ·exact .inl h2
 ·have hg:g<w.heap.size:=by
   rcases Nat.lt_or_ge g w.heap.size with hh|hh
   ·exact hh
   ·rw[Array.getElem?_eq_none hh]at h3;cases h3
  exact .inr ⟨g,cap,cur,h1,h2,by rw[(Aa.set C o u w).block g hg (by omega)];exact h3,h4⟩
set_option maxHeartbeats 1000000
theorem ST {B:Nat} {ts:List ByteArray} (w:World) (h:Ym B ts w) (hn:ts.length<=1000) (t:ByteArray):
  Calls Tryz.prog 140 #[.string t,.pointer (some ⟨B,0,none⟩)] w fun e w'=>e= .returned (.bool true)/\Ym B (ts++[t]) w'/\Below B w w':=by
 obtain⟨v,h1,h2⟩:=h;have HR:Hid _:=h2;have HN:Hid (ts.length<=1000):=hn;have HO:Hid (Af B v w):=h1;have c0:=h1.cell;have hlt:=h1.lt;have hvb:∀k,v.ownBlock=some k->B+1<=k:=fun k e=>(World.ownsRow.lt h2 k e).1;have HVB:Hid _:=hvb;have HB:Hid (Below B w (w.alloc (.cells #[.string t] 9))):=(Below.refl B w).alloc (by omega) _;have HO2:Hid _:=World.ownsRow.alloc h2 (.cells #[.string t] 9);obtain⟨i0,hi,hz0,hz1,hz2⟩:=Ja;clear h1 h2 hn hvb;go_enter Tryz.func140,Tryz.ntmps140
 go_wp2_with (at_builtin;refine wpList_append_own _ rfl _ _ 22 rfl (B+1) 9 i0 (.string ⟨#[]⟩) 1 16 Tryz.underlying22 hi hz0 hz1 hz2 rfl (by decide) _ _ _ rfl HO2.out ⟨w.heap.size,0,none⟩ 1 1 [.string t] rfl rfl (JW w t 9) (by intro u hu;simp at hu;subst hu;rfl) (by have:=HN.out;simp only[maxLen];omega) (by have:=HN.out;omega) (by simp;omega) ?_;intro v' w' hO hG hN;have hne:some B≠v.ownBlock:=(fun e=>absurd (HVB.out B e.symm) (by omega));have o1:Af B v w':=(HO.out.below ((Below.refl _ w).alloc (Nat.le_refl _) _)).block (hG.block B (by simp;omega) hne);obtain⟨g,cap,hv',hg1,hg2⟩:=World.ownsRow.form hO (by omega);subst hv';have c1:=o1.cell;have c2:=o1.free)
 go_ret;refine⟨rfl,⟨_,o1.set _,?_⟩,?_⟩
 ·show World.ownsRow _ _ _ _ _ _ _
  rw[List.map_append,List.length_append];exact Jn hO (by omega)
 ·exact(HB.out.grown hG (by simp;omega) (fun k e=>by have:=HVB.out k e;omega)).setCell (Nat.le_refl _) _
end
section
open Go.RowKit Go.Maps
end
end Go.Proofs.YtgfldnaahojnlaaGreatDoor
