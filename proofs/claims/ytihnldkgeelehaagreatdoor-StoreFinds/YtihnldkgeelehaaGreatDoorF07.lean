/- StoreFinds: part 7. -/
import Derived.Test.YtihnldkgeelehaaGreatDoorF06
set_option maxRecDepth 100000
set_option maxHeartbeats 4000000
namespace Go.Proofs.YtihnldkgeelehaaGreatDoor
section
open Go.RowKit Go.Maps
theorem Ih {x y:ByteArray} (h:bl x y=true):x≠y:=fun e=>by subst e;rw[Ar]at h;cases h
theorem MZ {L:List Pr} (hs:L.Pairwise (fun a b=>bl a.k b.k=true)) {x:Pr} (hx:x∈L):BT L=x.k\/bl (BT L) x.k=true:=by
 cases L with
 |nil=>simp at hx
 |cons y r=>
  show y.k=x.k\/bl y.k x.k=true;rcases List.mem_cons.1 hx with rfl|h
  ·exact .inl rfl
  ·exact .inr ((List.pairwise_cons.1 hs).1 x h)
theorem BC.row {Ls:List (List Pr)} (h:BC Ls) {L:List Pr} (hL:L∈Ls):L.Pairwise (fun a b=>bl a.k b.k=true):=by
 have:=h.sorted;rw[List.pairwise_flatten]at this;exact this.1 L hL
theorem BC.apart {Ls:List (List Pr)} (h:BC Ls) {i j:Nat} (hij:i<j) (hj:j<Ls.length) {x y:Pr} (hx:x∈Ls[i]'(by omega)) (hy:y∈Ls[j]):bl x.k y.k=true:=by
 have:=h.sorted;rw[List.pairwise_flatten]at this;exact List.pairwise_iff_getElem.1 this.2 i j (by omega) hj hij x hx y hy
theorem BC.first_mem {Ls:List (List Pr)} (h:BC Ls) {i:Nat} (hi:i<Ls.length):∃x∈Ls[i],x.k=BT Ls[i]:=by
 obtain⟨x,r,hx⟩:=List.exists_cons_of_ne_nil (h.ne _ (List.getElem_mem hi));exact⟨x,by rw[hx];simp,by rw[hx];rfl⟩
theorem DX.only {T:Tr} {key txt:ByteArray} {l a b:Nat} (h:DX T key l txt a b) (ok:BC T.Ls) {x:Pr} {i:Nat} (hi:i<T.Ls.length) (hx:x∈T.Ls[i]) (hk:x.k=key):i=l:=by
 rcases Nat.lt_trichotomy i l with hlt|e|hgt
 ·exfalso
  obtain⟨y,hy,hyk⟩:=ok.first_mem h.lt;have h1:=ok.apart hlt h.lt hx hy;have h2:=h.left l (by omega) (Nat.le_refl _) h.lt;rw[hk,hyk]at h1;rw[h1]at h2;cases h2
 ·exact e
 ·exfalso
  have h2:=h.right i hgt hi;rcases MZ (ok.row (List.getElem_mem hi)) hx with e|e
  ·rw[e,hk,Ar]at h2;cases h2
  ·rw[hk]at e
   have:=Cw h2 e;rw[Ar]at this;cases this
theorem DX.none {T:Tr} {key txt:ByteArray} {l a b:Nat} (h:DX T key l txt a b) (ok:BC T.Ls) (hab:¬a<b):∀x∈T.Ls.flatten,x.k≠key:=by
 intro x hx hk;obtain⟨L,hL,hxL⟩:=List.mem_flatten.1 hx;obtain⟨i,hi,rfl⟩:=List.getElem_of_mem hL;obtain rfl:=h.only ok hi hxL hk;obtain⟨j,hf⟩:=h.find;obtain⟨p,hp,rfl⟩:=List.getElem_of_mem hxL;have hs:=ok.row (List.getElem_mem hi);rcases Nat.lt_or_ge p j with hpj|hpj
 ·have:=hf.less p hpj
  exact Ih this hk
 ·rcases hf.to_ with⟨_,hn⟩|⟨hj,_,_,hb⟩
  ·have hj:j<T.Ls[i].length:=by omega
   obtain⟨n1,n2⟩:=hn hj;rcases Nat.eq_or_lt_of_le hpj with rfl|hlt
   ·rw[hk]at n2;simp at n2
   ·have h3:=List.pairwise_iff_getElem.1 hs j p hj hp hlt
    rw[hk]at h3;rw[h3]at n1;cases n1
  ·have e1:=hf.from_
   have e2:=AO hj;unfold Pr.sz at e2;omega
theorem DX.some {T:Tr} {key txt:ByteArray} {l a b:Nat} (h:DX T key l txt a b) (hab:a<b):∃L,L∈T.Ls/\txt=Al L/\∃j,∃hj:j<L.length,L[j].k=key/\a=szL (L.take j)/\b=szL (L.take (j+1)):=by
 obtain⟨j,hf⟩:=h.find;refine⟨_,List.getElem_mem h.lt,h.txt,?_⟩;rcases hf.to_ with⟨e,_⟩|⟨hj,e,_,hb⟩
 ·omega
 ·exact⟨j,hj,BM e,hf.from_,hb⟩
theorem Cj.new6 (w:World) (a b c d e f:Value) (t:TypeId):Cj w.heap.size [a,b,c,d,e,f] (w.alloc (.cells #[a,b,c,d,e,f] t)):=by
 have hn:(w.alloc (.cells #[a,b,c,d,e,f] t)).heap[w.heap.size]? =Option.some (.cells #[a,b,c,d,e,f] t):=heap_alloc_new w _;refine⟨fun i hi=> ?_,fun i=>by simp only[World.frozen?,hn];simp,rfl⟩;simp only[World.cell?,hn];simp only[List.length_cons,List.length_nil]at hi;rcases i with _|_|_|_|_|_|i<;>first|rfl|omega
def VQ (T:Tr) (key:ByteArray) (e:Ending):Prop:=(∃x∈T.all,x.k=key/\e= .returned (.tuple #[.string x.i,.nilIface]))\/((∀x∈T.all,x.k≠key)/\e= .returned (.tuple #[.string ⟨#[]⟩,.iface 101 (.int .i64 7)]))
section
variable {bt bp bd bm N r:Nat} {s:St} {up:Nat->Bool} {cm:Int} {V:Pst} {w:World}
set_option maxHeartbeats 1000000
theorem LN (hT:Tt bt bp r w) (h:Tw bp bd bm N s up cm V w) {T:Tr} (hA:Ck V r T) (key:ByteArray):
  Calls Tryz.prog 77 #[.pointer (some ⟨bt,0,none⟩),.string key] w fun e w'=>VQ T key e/\Below w.heap.size w w':=by
 have HA:Hid _:=hA;have HT:Hid _:=hT;have HW:Hid _:=h;clear hA hT h;go_enter Tryz.func77,Tryz.ntmps77;go_wp2_with fail;refine(Gq HT.out HW.out HA.out key).mono ?_;rintro _ w1 ⟨v,l,txt,a,b,rfl,hs,hv1,hb1⟩;have HS:Hid _:=hs;have HB:Hid (Below w.heap.size w w1):=hb1;obtain⟨a9,cap9,hv9,_⟩:=hv1.is;generalize (At T.ks).length=n9 at hv9;subst hv9;clear hs hv1 hb1;have HB2:Hid (Below w.heap.size w (w1.alloc (.cells #[.int .i64 (T.top:Nat),.slice a9 n9 cap9,.int .i64 (l:Nat),.string txt,.int .i64 (a:Nat),.int .i64 (b:Nat)] 204))):=HB.out.alloc HB.out.size _;go_wp2_with fail;refine(Kn _ _ _ _ _ _ _).mono ?_;rintro _ w2 ⟨rfl,hb2⟩;have HV6:Hid _:=(Cj.new6 w1 (.int .i64 (T.top:Nat)) (.slice a9 n9 cap9) (.int .i64 (l:Nat)) (.string txt) (.int .i64 (a:Nat)) (.int .i64 (b:Nat)) 204).below hb2;have HB3:Hid (Below w.heap.size w w2):=HB2.out.trans (hb2.mono HB2.out.size);clear hb2 HB2 HB
 by_cases hab:a<b
 ·have hin:DX T key l txt a b:=by
   rcases HS.out with⟨_,_,_,h1,h2⟩|h1
   ·omega
   ·exact h1
  obtain⟨L,hLm,htx,j,hj,hk,h1,h2⟩:=hin.some hab;have hft:=HA.out.ok.fit _ hLm
  have hL:CJ txt L 0:=by
   rw[htx];exact EG (HA.out.ok.ok _ hLm) (by omega)
  have hr:=hL.room hj;have hi:=hL.item hj;have hok:=hL.ok _ (List.getElem_mem hj);rw[AO hj]at h2;have HM:Hid (L[j]∈T.all):=List.mem_flatten.2 ⟨_,hLm,List.getElem_mem hj⟩;rw[hk,<-h1]at hi;unfold Pr.sz at hr h2;rw[hk,<-h1]at hr;rw[hk,<-h1]at h2;unfold Pr.Ok at hok;have HK:Hid _:=hk;generalize L[j]=x at *;obtain⟨ok1,ok2,ok3⟩:=hok;rw[hk]at ok2;have e1:(decide ((a:Int)<(b:Int)))=true:=decide_eq_true (by omega);rw[e1];have c3:=HV6.out.cell 3 (by simp);have c4:=HV6.out.cell 4 (by simp);have c5:=HV6.out.cell 5 (by simp);have hbt:a+2+key.size+x.i.size=b:=by omega
  rw[hbt]at hi;have s0:=Fw txt (a+2+key.size) b (by omega) (by omega) ((a:Int)+2+(key.size:Int)) (b:Int) (by omega) rfl x.i hi;have hsz:txt.size<=1024:=by rw[hL.size];omega
  have hw1:IntKind.i64.wrap ((a:Int)+2)=(a:Int)+2:=by simp[IntKind.wrap,IntKind.signed,IntKind.bits];omega
  have hw2:IntKind.i64.wrap ((a:Int)+2+(key.size:Int))=(a:Int)+2+(key.size:Int):=by simp[IntKind.wrap,IntKind.signed,IntKind.bits];omega
  clear hin h1 h2 hL hr hi e1 hbt hab hj hk hLm htx hft;go_wp2_with fail;refine(Db x.i _ (by omega)).mono ?_;rintro _ w3 ⟨rfl,hb3⟩;go_wp2;go_ret2;exact⟨.inl ⟨x,HM.out,HK.out,rfl⟩,HB3.out.trans (hb3.mono HB3.out.size)⟩
 ·have HN:Hid (∀x∈T.all,x.k≠key):=by
   rcases HS.out with⟨h1,_⟩|h1
   ·intro x hx
    unfold Tr.all at hx;rw[h1]at hx;simp at hx
   ·exact h1.none HA.out.ok hab
  have e1:(decide ((a:Int)<(b:Int)))=false:=decide_eq_false (by omega);rw[e1];clear e1 hab;go_wp2;go_ret2;exact⟨.inr ⟨HN.out,rfl⟩,HB3.out⟩
end
end
section
def CK (l:List (List Pr)) (s:List Pr):List (List Pr):=match l.getLast? with
 |none=>l++[s]
 |some x=>if szL x+szL s<=1024 then l.dropLast++[x++s]else l++[s]
def AR (M:List (List Pr)):List (List Pr):=M.foldl CK []
theorem F1 (s:List Pr):CK [] s=[s]:=rfl
theorem BJ (l:List (List Pr)) (x s:List Pr):CK (l++[x]) s=if szL x+szL s<=1024 then l++[x++s]else l++[x]++[s]:=by
 unfold CK;rw[List.getLast?_append];simp
theorem Jl (M:List (List Pr)) (s:List Pr):AR (M++[s])=CK (AR M) s:=by
 unfold AR;rw[List.foldl_append];rfl
def Adj:List (List Pr)->Prop
 | []=>True
 | [_]=>True
 |a::b::r=>1024<szL a+szL b/\Adj (b::r)
theorem GJ:∀(Ls:List (List Pr)),Adj Ls↔∀i (hi:i+1<Ls.length),1024<szL (Ls[i]'(by omega))+szL Ls[i+1]
 | []=>⟨fun _ i hi=>absurd hi (by simp),fun _=>trivial⟩
 | [a]=>⟨fun _ i hi=>absurd hi (by simp),fun _=>trivial⟩
 |a::b::r=>by
  unfold Adj;rw[GJ (b::r)];constructor
  ·rintro⟨h1,h2⟩ i hi
   cases i with
   |zero=>exact h1
   |succ i=>exact h2 i (by simp at hi ⊢;omega)
  ·intro h
   exact⟨h 0 (by simp),fun i hi=>h (i+1) (by simp at hi ⊢;omega)⟩
theorem C7:∀(A B:List (List Pr)),Adj (A++B)↔Adj A/\Adj B/\∀x y,A.getLast? =some x->B.head? =some y->1024<szL x+szL y
 | [],B=>by simp[Adj]
 | [a],B=>by
   cases B with
   |nil=>simp[Adj]
   |cons b r=>simp[Adj,and_comm]
 |a::b::r,B=>by
  have ih:=C7 (b::r) B;show(1024<szL a+szL b/\Adj (b::r++B))↔_;rw[ih,List.getLast?_cons_cons];show _↔(1024<szL a+szL b/\Adj (b::r))/\_;constructor
  ·rintro⟨h1,h2,h3,h4⟩;exact⟨⟨h1,h2⟩,h3,h4⟩
  ·rintro⟨⟨h1,h2⟩,h3,h4⟩;exact⟨h1,h2,h3,h4⟩
theorem BH (l:List (List Pr)):l=[]\/∃l' x,l=l'++[x]:=by
 rcases List.eq_nil_or_concat l with h|⟨l',x,h⟩
 ·exact .inl h
 ·exact .inr ⟨l',x,by rw[h,List.concat_eq_append]⟩
theorem PW {l:List (List Pr)} (s:List Pr) (h:Adj l):Adj (CK l s):=by
 rcases BH l with rfl|⟨l',x,rfl⟩
 ·exact trivial
 ·rw[BJ]
  split
  ·rw[C7]at h ⊢
   refine⟨h.1,trivial,fun u v hu hv=> ?_⟩;have:=h.2.2 u x hu rfl;simp at hv;subst hv;rw[Af];omega
  ·rename_i hn
   rw[C7];refine⟨h,trivial,fun u v hu hv=> ?_⟩;rw[List.getLast?_append]at hu;simp at hu hv;subst hu hv;omega
theorem LB {P:List (List Pr)->Prop} (h0:P []) (hs:∀l s,P l->P (CK l s)) (M:List (List Pr)):P (AR M):=by
 unfold AR
 have:∀(M l:List (List Pr)),P l->P (M.foldl CK l):=by
  intro M
  induction M with
  |nil=>exact fun l h=>h
  |cons a r ih=>exact fun l h=>ih _ (hs l a h)
 exact this M [] h0
theorem KN (M:List (List Pr)):Adj (AR M):=LB trivial (fun _ s h=>PW s h) M
theorem JT (l:List (List Pr)) (s:List Pr):(CK l s).flatten=l.flatten++s:=by
 rcases BH l with rfl|⟨l',x,rfl⟩
 ·simp[F1]
 ·rw[BJ]
  split<;>simp
theorem BP (M:List (List Pr)):(AR M).flatten=M.flatten:=by
 have:∀(M l:List (List Pr)),(M.foldl CK l).flatten=l.flatten++M.flatten:=by
  intro M
  induction M with
  |nil=>intro l;simp
  |cons a r ih=>intro l;rw[List.foldl_cons,ih,JT];simp
 unfold AR;rw[this];simp
theorem KM {M:List (List Pr)} (h:∀L∈M,szL L<=1024):∀L∈AR M,szL L<=1024:=by
 have:∀(M l:List (List Pr)),(∀L∈M,szL L<=1024)->(∀L∈l,szL L<=1024)->∀L∈M.foldl CK l,szL L<=1024:=by
  intro M
  induction M with
  |nil=>exact fun l _ h=>h
  |cons a r ih=>
   intro l h1 h2;refine ih _ (fun L hL=>h1 L (List.mem_cons_of_mem _ hL)) ?_;rcases BH l with rfl|⟨l',x,rfl⟩
   ·intro L hL
    rw[F1]at hL;simp at hL;subst hL;exact h1 _ List.mem_cons_self
   ·rw[BJ]
    split
    ·intro L hL
     rcases List.mem_append.1 hL with hL|hL
     ·exact h2 L (List.mem_append_left _ hL)
     ·simp at hL
      subst hL;rw[Af];assumption
    ·intro L hL
     rcases List.mem_append.1 hL with hL|hL
     ·exact h2 L hL
     ·simp at hL
      subst hL;exact h1 _ List.mem_cons_self
 exact this M [] h (fun L hL=>absurd hL (by simp))
theorem NS (L:List Pr) (R:List (List Pr)):∃y r,AR (L::R)=y::r/\szL L<=szL y:=by
 have:∀(R l:List (List Pr)) (x:List Pr),∃y r,R.foldl CK (x::l)=y::r/\szL x<=szL y:=by
  intro R
  induction R with
  |nil=>exact fun l x=>⟨x,l,rfl,Nat.le_refl _⟩
  |cons a R ih=>
   intro l x;rw[List.foldl_cons];rcases BH l with rfl|⟨l',z,rfl⟩
   ·have e:CK [x] a=if szL x+szL a<=1024 then [x++a]else [x,a]:=BJ [] x a
    rw[e];split
    ·obtain⟨y,r,h1,h2⟩:=ih [] (x++a)
     exact⟨y,r,h1,by rw[Af]at h2;omega⟩
    ·exact ih [a] x
   ·have e:CK (x::(l'++[z])) a=if szL z+szL a<=1024 then x::(l'++[z++a])else x::(l'++[z]++[a]):=BJ (x::l') z a
    rw[e];split
    ·exact ih _ x
    ·exact ih _ x
 exact this R [] L
theorem NR (M:List (List Pr)) (s:List Pr):∃r y,AR (M++[s])=r++[y]/\szL s<=szL y:=by
 rw[Jl];rcases BH (AR M)with h|⟨l',x,h⟩
 ·rw[h];exact⟨[],s,rfl,Nat.le_refl _⟩
 ·rw[h,BJ]
  split
  ·exact⟨l',x++s,rfl,by rw[Af];omega⟩
  ·exact⟨l'++[x],s,rfl,Nat.le_refl _⟩
theorem SG {Ls:List (List Pr)} (ha:Adj Ls) (hf:∀L∈Ls,szL L<=1024) (hn:Ls.flatten≠[]):∀L∈Ls,L≠[]:=by
 intro L hL e;subst e;obtain⟨i,hi,hi2⟩:=List.getElem_of_mem hL;rw[GJ]at ha;have z:szL ([]:List Pr)=0:=rfl;rcases Nat.eq_zero_or_pos i with h0|h0
 ·by_cases h1:i+1<Ls.length
  ·have:=ha i h1
   have h2:=hf _ (List.getElem_mem h1);rw[hi2,z]at this;omega
  ·have hl:Ls.length=1:=by omega
   obtain⟨a,rfl⟩:=List.length_eq_one_iff.1 hl;simp at hL hn;exact hn hL
 ·have:=ha (i-1) (by omega)
  have e:i-1+1=i:=by omega
  simp only[e]at this;have h2:=hf _ (List.getElem_mem (show i-1<Ls.length by omega));rw[hi2,z]at this;omega
theorem BC.window {A B C M:List (List Pr)} (h:BC (A++B++C)) (hfit:∀L∈M,szL L<=1024) (hok:∀L∈M,∀x∈L,x.Ok)
  (hA:A≠[]->∃L R S,B=L::R/\M=L::S) (hC:C≠[]->∃L R S,B=R++[L]/\M=S++[L])
  (hs:(A++M++C).flatten.Pairwise (fun a b=>bl a.k b.k=true)) (hsum:szL (A++M++C).flatten<=30000) (hne:M.flatten≠[]):BC (A++AR M++C):=by
 have ef:(A++AR M++C).flatten=(A++M++C).flatten:=by
  rw[List.flatten_append,List.flatten_append,BP,List.flatten_append,List.flatten_append]
 have h1:=(GJ _).2 h.adj;rw[C7,C7]at h1;obtain⟨⟨a1,a2,a3⟩,a4,a5⟩:=h1;have hfm:=KM hfit;have fitA:∀L∈A,szL L<=1024:=fun L hL=>h.fit L (List.mem_append_left _ (List.mem_append_left _ hL));have fitC:∀L∈C,szL L<=1024:=fun L hL=>h.fit L (List.mem_append_right _ hL)
 have hfa:∀L∈A++AR M++C,szL L<=1024:=by
  intro L hL;rcases List.mem_append.1 hL with hL|hL
  ·rcases List.mem_append.1 hL with hL|hL
   ·exact fitA L hL
   ·exact hfm L hL
  ·exact fitC L hL
 have hmn:AR M≠[]:=by
  intro e;have:=BP M;rw[e]at this;exact hne this.symm
 have adj:Adj (A++AR M++C):=by
  rw[C7,C7];refine⟨⟨a1,KN M,fun x y hx hy=> ?_⟩,a4,fun x y hx hy=> ?_⟩
  ·obtain⟨L,R,S,rfl,rfl⟩:=hA (by rintro rfl;simp at hx)
   obtain⟨z,r,e1,e2⟩:=NS L S;rw[e1]at hy;simp at hy;subst hy;have:=a3 x L hx rfl;omega
  ·obtain⟨L,R,S,rfl,rfl⟩:=hC (by rintro rfl;simp at hy)
   obtain⟨r,z,e1,e2⟩:=NR S L;rw[e1,<-List.append_assoc,List.getLast?_append]at hx;simp at hx;subst hx;have:=a5 L y (by rw[<-List.append_assoc,List.getLast?_append];simp) hy;omega
 have hfl:(A++AR M++C).flatten≠[]:=by
  rw[ef,List.flatten_append,List.flatten_append];intro e;have:=(List.append_eq_nil_iff.1 e).1;exact hne (List.append_eq_nil_iff.1 this).2
 refine⟨SG adj hfa hfl,hfa,?_,(GJ _).1 adj,by rw[ef];exact hsum,by rw[ef];exact hs⟩;intro L hL x hx;rcases List.mem_append.1 hL with hL|hL
 ·rcases List.mem_append.1 hL with hL|hL
  ·exact h.ok L (List.mem_append_left _ (List.mem_append_left _ hL)) x hx
  ·have:x∈M.flatten:=by rw[<-BP];exact List.mem_flatten.2 ⟨L,hL,hx⟩
   obtain⟨L',h1,h2⟩:=List.mem_flatten.1 this;exact hok L' h1 x h2
 ·exact h.ok L (List.mem_append_right _ hL) x hx
theorem EH (a b:List Pr):Al (a++b)=Al a++Al b:=by
 apply ByteArray.ext;rw[ByteArray.data_append];unfold Al;rw[Dp];simp
theorem LI (l:List (List Pr)) (s:List Pr):BA (l.map Al) (Al s)=(CK l s).map Al:=by
 rcases BH l with rfl|⟨l',x,rfl⟩
 ·rfl
 ·rw[BJ]
  unfold BA;rw[List.map_append,List.map_singleton,List.getLast?_append];simp only[List.getLast?_singleton,Option.some_or,AF];split
  ·rw[List.dropLast_concat,List.map_append,List.map_singleton,EH]
  ·simp
theorem Qi (M:List (List Pr)):DM (M.map Al)=(AR M).map Al:=by
 have:∀(M l:List (List Pr)),(M.map Al).foldl BA (l.map Al)=(M.foldl CK l).map Al:=by
  intro M
  induction M with
  |nil=>exact fun _=>rfl
  |cons a r ih=>intro l;rw[List.map_cons,List.foldl_cons,List.foldl_cons,LI,ih]
 exact this M []
structure Cut (T:Tr) (key:ByteArray) (l a b:Nat) (L:List Pr) (j k:Nat):Prop where
 at_:T.Ls[l]? =some L
 jk:(k=j/\b=a)\/(k=j+1/\a<b)
 le:k<=L.length
 from_:a=szL (L.take j)
 to_:b=szL (L.take k)
 less:∀x∈(T.Ls.take l).flatten++L.take j,bl x.k key=true
 more:∀x∈L.drop k++(T.Ls.drop (l+1)).flatten,bl key x.k=true
theorem DX.cut {T:Tr} {key txt:ByteArray} {l a b:Nat} (h:DX T key l txt a b) (ok:BC T.Ls):∃L j k,txt=Al L/\Cut T key l a b L j k:=by
 obtain⟨j,hf⟩:=h.find;have hlt:=h.lt;have hrow:=ok.row (List.getElem_mem hlt)
 have less:∀x∈(T.Ls.take l).flatten++T.Ls[l].take j,bl x.k key=true:=by
  intro x hx;rcases List.mem_append.1 hx with hx|hx
  ·obtain⟨L,hL,hxL⟩:=List.mem_flatten.1 hx
   obtain⟨i,hi,rfl⟩:=List.mem_take_iff_getElem.1 hL;obtain⟨y,hy,hyk⟩:=ok.first_mem hlt;have h1:=ok.apart (show i<l by omega) hlt hxL hy;have h2:=h.left l (by omega) (Nat.le_refl _) hlt;rw[hyk]at h1;rcases DW (BT T.Ls[l]) key with e|e|e
   ·exact Cw h1 e
   ·rw[<-e];exact h1
   ·rw[e]at h2;cases h2
  ·obtain⟨i,hi,rfl⟩:=List.mem_take_iff_getElem.1 hx
   exact hf.less i (by omega)
 have far:∀x∈(T.Ls.drop (l+1)).flatten,bl key x.k=true:=by
  intro x hx;obtain⟨L,hL,hxL⟩:=List.mem_flatten.1 hx;obtain⟨i,hi,rfl⟩:=List.getElem_of_mem hL;rw[List.length_drop]at hi;rw[List.getElem_drop]at hxL;have h2:=h.right (l+1+i) (by omega) (by omega);rcases MZ (ok.row (List.getElem_mem (show l+1+i<T.Ls.length by omega))) hxL with e|e
  ·rw[<-e];exact h2
  ·exact Cw h2 e
 rcases hf.to_ with⟨hb,hn⟩|⟨hj,he,_,hb⟩
 ·refine⟨T.Ls[l],j,j,h.txt,List.getElem?_eq_getElem hlt,.inl ⟨rfl,hb⟩,hf.le,hf.from_,by rw[hb];exact hf.from_,less,fun x hx=> ?_⟩
  rcases List.mem_append.1 hx with hx|hx
  ·obtain⟨i,hi,rfl⟩:=List.getElem_of_mem hx
   rw[List.length_drop]at hi;rw[List.getElem_drop];obtain⟨n1,n2⟩:=hn (by omega)
   have h3:bl key (T.Ls[l][j]'(by omega)).k=true:=by
    rcases DW (T.Ls[l][j]'(by omega)).k key with e|e|e
    ·rw[e]at n1;cases n1
    ·rw[e]at n2;simp at n2
    ·exact e
   rcases Nat.eq_zero_or_pos i with rfl|hi0
   ·exact h3
   ·exact Cw h3 (List.pairwise_iff_getElem.1 hrow j (j+i) (by omega) (by omega) (by omega))
  ·exact far x hx
 ·have hk:=BM he
  have e2:=AO hj;unfold Pr.sz at e2;have e3:=hf.from_;refine⟨T.Ls[l],j,j+1,h.txt,List.getElem?_eq_getElem hlt,.inr ⟨rfl,by omega⟩,hj,hf.from_,hb,less,fun x hx=> ?_⟩;rcases List.mem_append.1 hx with hx|hx
  ·obtain⟨i,hi,rfl⟩:=List.getElem_of_mem hx
   rw[List.length_drop]at hi;rw[List.getElem_drop];have:=List.pairwise_iff_getElem.1 hrow j (j+1+i) hj (by omega) (by omega);rw[hk]at this;exact this
  ·exact far x hx
theorem BC.changed {A P C S parts:List (List Pr)} {L L':List Pr} (h:BC (A++(P++[L]++S)++C)) (hP:(P=[]/\A=[])\/∃p,P=[p]) (hS:(S=[]/\C=[])\/∃q,S=[q])
  (hp:parts.flatten=L') (hfit:∀X∈parts,szL X<=1024) (hok:∀x∈L',x.Ok) (hs:((A++P).flatten++L'++(S++C).flatten).Pairwise (fun a b=>bl a.k b.k=true))
  (hsum:szL ((A++P).flatten++L'++(S++C).flatten)<=30000) (hne:(A++P).flatten++L'++(S++C).flatten≠[]):
  BC (A++AR (P++parts++S)++C)/\(A++AR (P++parts++S)++C).flatten=(A++P).flatten++L'++(S++C).flatten:=by
 have ef:(A++(P++parts++S)++C).flatten=(A++P).flatten++L'++(S++C).flatten:=by
  simp only[List.flatten_append,hp,List.append_assoc]
 refine⟨BC.window (B:=P++[L]++S) h ?_ ?_ ?_ ?_ (by rw[ef];exact hs) (by rw[ef];exact hsum) ?_,?_⟩
 ·intro X hX
  rcases List.mem_append.1 hX with hX|hX
  ·rcases List.mem_append.1 hX with hX|hX
   ·exact h.fit X (by simp[hX])
   ·exact hfit X hX
  ·exact h.fit X (by simp[hX])
 ·intro X hX x hx
  rcases List.mem_append.1 hX with hX|hX
  ·rcases List.mem_append.1 hX with hX|hX
   ·exact h.ok X (by simp[hX]) x hx
   ·exact hok x (by rw[<-hp];exact List.mem_flatten.2 ⟨X,hX,hx⟩)
  ·exact h.ok X (by simp[hX]) x hx
 ·intro hA
  rcases hP with⟨_,e⟩|⟨p,rfl⟩
  ·exact absurd e hA
  ·exact⟨p,[L]++S,parts++S,by simp,by simp⟩
 ·intro hC
  rcases hS with⟨_,e⟩|⟨q,rfl⟩
  ·exact absurd e hC
  ·exact⟨q,P++[L],P++parts,rfl,rfl⟩
 ·intro e
  rw[List.flatten_append,List.flatten_append]at e;have e1:=List.append_eq_nil_iff.1 e;have e2:=List.append_eq_nil_iff.1 e1.1
  have hP0:P=[]/\A=[]:=by
   rcases hP with hP|⟨p,rfl⟩
   ·exact hP
   ·exact absurd (by simpa using e2.1) (h.ne p (by simp))
  have hS0:S=[]/\C=[]:=by
   rcases hS with hS|⟨q,rfl⟩
   ·exact hS
   ·exact absurd (by simpa using e1.2) (h.ne q (by simp))
  apply hne;rw[hP0.1,hP0.2,hS0.1,hS0.2,<-hp,e2.2];rfl
 ·rw[<-ef]
  simp only[List.flatten_append,BP]
theorem Cut.sorted {T:Tr} {key:ByteArray} {l a b j k:Nat} {L:List Pr} (h:Cut T key l a b L j k) (ok:BC T.Ls) {nw:List Pr} (hn:nw=[]\/∃x,nw=[x]/\x.k=key):
  ((T.Ls.take l).flatten++(L.take j++nw++L.drop k)++(T.Ls.drop (l+1)).flatten).Pairwise (fun a b=>bl a.k b.k=true):=by
 obtain⟨hlt,hL⟩:=List.getElem?_eq_some_iff.1 h.at_
 have e:T.Ls=T.Ls.take l++(L::T.Ls.drop (l+1)):=by
  rw[<-hL,<-List.drop_eq_getElem_cons hlt,List.take_append_drop]
 have hjk:j<=k:=by rcases h.jk with h|h<;>omega
 have e2:L=L.take j++(L.drop j).take (k-j)++L.drop k:=by
  rw[List.append_assoc]
  have:(L.drop j).take (k-j)++L.drop k=L.drop j:=by
   have h2:L.drop k=(L.drop j).drop (k-j):=by rw[List.drop_drop];congr 1;omega
   rw[h2,List.take_append_drop]
  rw[this,List.take_append_drop]
 have hs:=ok.sorted;rw[e,List.flatten_append,List.flatten_cons]at hs
 have sub:List.Sublist ((T.Ls.take l).flatten++(L.take j++L.drop k)++(T.Ls.drop (l+1)).flatten) ((T.Ls.take l).flatten++(L++(T.Ls.drop (l+1)).flatten)):=by
  rw[List.append_assoc];refine List.Sublist.append (List.Sublist.refl _) (List.Sublist.append ?_ (List.Sublist.refl _))
  conv=>rhs;rw[e2]
  exact List.Sublist.append (List.sublist_append_left _ _) (List.Sublist.refl _)
 have hs2:=hs.sublist sub;rcases hn with rfl|⟨x,rfl,rfl⟩
 ·rw[List.append_nil]
  exact hs2
 ·have e3:(T.Ls.take l).flatten++(L.take j++L.drop k)++(T.Ls.drop (l+1)).flatten=((T.Ls.take l).flatten++L.take j)++(L.drop k++(T.Ls.drop (l+1)).flatten):=by simp only[List.append_assoc]
  have e4:(T.Ls.take l).flatten++(L.take j++[x]++L.drop k)++(T.Ls.drop (l+1)).flatten=((T.Ls.take l).flatten++L.take j)++(x::(L.drop k++(T.Ls.drop (l+1)).flatten)):=by simp only[List.append_assoc,List.cons_append,List.nil_append]
  rw[e3,List.pairwise_append]at hs2;rw[e4,List.pairwise_append,List.pairwise_cons];refine⟨hs2.1,⟨h.more,hs2.2.1⟩,fun u hu v hv=> ?_⟩;rcases List.mem_cons.1 hv with rfl|hv
  ·exact h.less u hu
  ·exact hs2.2.2 u hu v hv
def ahead (Ls:List (List Pr)) (l:Nat):List (List Pr):=(Ls.take l).drop (l-1)
def Ci (Ls:List (List Pr)) (l:Nat):List (List Pr):=(Ls.drop (l+1)).take 1
theorem La (Ls:List (List Pr)) (l:Nat):Ls.take (l-1)++ahead Ls l=Ls.take l:=by
 unfold ahead;have:Ls.take (l-1)=(Ls.take l).take (l-1):=by rw[List.take_take,Nat.min_eq_left (by omega)]
 rw[this,List.take_append_drop]
theorem JG (Ls:List (List Pr)) (l:Nat):Ci Ls l++Ls.drop (l+2)=Ls.drop (l+1):=by
 unfold Ci;have:Ls.drop (l+2)=(Ls.drop (l+1)).drop 1:=by rw[List.drop_drop]
 rw[this,List.take_append_drop]
theorem O4 {Ls:List (List Pr)} {l:Nat} (hl:l<Ls.length):(ahead Ls l=[]/\Ls.take (l-1)=[])\/∃p,ahead Ls l=[p]:=by
 rcases Nat.eq_zero_or_pos l with rfl|h
 ·exact .inl ⟨rfl,rfl⟩
 ·refine .inr (List.length_eq_one_iff.1 ?_)
  unfold ahead;rw[List.length_drop,List.length_take];omega
theorem Nq (Ls:List (List Pr)) (l:Nat):(Ci Ls l=[]/\Ls.drop (l+2)=[])\/∃q,Ci Ls l=[q]:=by
 unfold Ci;rcases Nat.lt_or_ge (l+1) Ls.length with h|h
 ·refine .inr (List.length_eq_one_iff.1 ?_)
  rw[List.length_take,List.length_drop];omega
 ·rw[List.drop_eq_nil_of_le h,List.drop_eq_nil_of_le (by omega)]
  exact .inl ⟨rfl,rfl⟩
theorem IA {Ls:List (List Pr)} {l:Nat} (hl:l<Ls.length):Ls=Ls.take (l-1)++(ahead Ls l++[Ls[l]]++Ci Ls l)++Ls.drop (l+2):=by
 have e:Ls.take (l-1)++(ahead Ls l++[Ls[l]]++Ci Ls l)++Ls.drop (l+2)=(Ls.take (l-1)++ahead Ls l)++([Ls[l]]++(Ci Ls l++Ls.drop (l+2))):=by simp only[List.append_assoc]
 rw[e,La,JG,List.singleton_append,<-List.drop_eq_getElem_cons hl,List.take_append_drop]
theorem Nx {Ls:List (List Pr)} {l:Nat} (hl:l<Ls.length):(ahead Ls l++[Ls[l]]++Ci Ls l).length=min (l+2) Ls.length-(l-1):=by
 unfold ahead Ci;simp only[List.length_append,List.length_drop,List.length_take,List.length_singleton];omega
def chg (T:Tr) (l j k:Nat) (L nw:List Pr):List Pr:=(T.Ls.take l).flatten++(L.take j++nw++L.drop k)++(T.Ls.drop (l+1)).flatten
def Ul (T:Tr) (l:Nat) (parts:List (List Pr)):List (List Pr):=T.Ls.take (l-1)++AR (ahead T.Ls l++parts++Ci T.Ls l)++T.Ls.drop (l+2)
theorem Cut.changed {T:Tr} {key:ByteArray} {l a b j k:Nat} {L:List Pr} (h:Cut T key l a b L j k) (ok:BC T.Ls) {nw:List Pr} (hn:nw=[]\/∃x,nw=[x]/\x.k=key) (hnok:∀x∈nw,x.Ok)
  {parts:List (List Pr)} (hp:parts.flatten=L.take j++nw++L.drop k) (hfit:∀X∈parts,szL X<=1024) (hsum:szL (chg T l j k L nw)<=30000) (hne:chg T l j k L nw≠[]):
  BC (Ul T l parts)/\(Ul T l parts).flatten=chg T l j k L nw:=by
 obtain⟨hlt,hL⟩:=List.getElem?_eq_some_iff.1 h.at_;have hs:=h.sorted ok hn;have e0:=IA hlt;rw[hL]at e0;have okw:BC (T.Ls.take (l-1)++(ahead T.Ls l++[L]++Ci T.Ls l)++T.Ls.drop (l+2)):=e0▸ok;have e1:=La T.Ls l;have e2:=JG T.Ls l;have hLm:L∈T.Ls:=by rw[<-hL];exact List.getElem_mem hlt
 have hok:∀x∈L.take j++nw++L.drop k,x.Ok:=by
  intro x hx;rcases List.mem_append.1 hx with hx|hx
  ·rcases List.mem_append.1 hx with hx|hx
   ·exact ok.ok L hLm x (List.mem_of_mem_take hx)
   ·exact hnok x hx
  ·exact ok.ok L hLm x (List.mem_of_mem_drop hx)
 have:=BC.changed okw (O4 hlt) (Nq T.Ls l) hp hfit hok (by rw[e1,e2];exact hs) (by rw[e1,e2];exact hsum) (by rw[e1,e2];exact hne);rw[e1,e2]at this;exact this
theorem Cz (L:List Pr):(Al L).data.toList=C5 L:=by unfold Al;simp
theorem Hx (L:List Pr) (j:Nat):(Al L).extract 0 (szL (L.take j))=Al (L.take j):=by
 apply ByteArray.ext;apply Array.ext';rw[ByteArray.data_extract,Array.toList_extract,Cz,Cz,List.extract_eq_take_drop];have e:C5 L=C5 (L.take j)++C5 (L.drop j):=by rw[<-Dp,List.take_append_drop]
 have hl:(C5 (L.take j)).length=szL (L.take j):=by rw[<-Cz,Array.length_toList];exact AF _
 rw[e,List.drop_zero,Nat.sub_zero,<-hl,List.take_left]
theorem Jr (L:List Pr) (k:Nat):(Al L).extract (szL (L.take k)) (Al L).size=Al (L.drop k):=by
 apply ByteArray.ext;apply Array.ext';have e:C5 L=C5 (L.take k)++C5 (L.drop k):=by rw[<-Dp,List.take_append_drop]
 have hl:(C5 (L.take k)).length=szL (L.take k):=by rw[<-Cz,Array.length_toList];exact AF _
 have hl2:(Al L).size=(C5 L).length:=by rw[<-Cz,Array.length_toList];rfl
 rw[ByteArray.data_extract,Array.toList_extract,Cz,Cz,List.extract_eq_take_drop,hl2,e,<-hl,List.drop_left,List.length_append,Nat.add_sub_cancel_left,List.take_length]
theorem Qf (L nw:List Pr) (j k:Nat):(Al L).extract 0 (szL (L.take j))++Al nw++(Al L).extract (szL (L.take k)) (Al L).size=Al (L.take j++nw++L.drop k):=by
 rw[Hx,Jr,EH,EH]
end
section
open Go.RowKit
theorem PM {L:List Pr} (hok:∀x∈L,x.Ok) (hs:szL L<=1186) (w:World):
  Calls Tryz.prog 175 #[.string (Al L)] w fun e w'=>∃(v:Value) (parts:List (List Pr)),e= .returned v/\Cl w.heap.size v (parts.map Al) w'/\parts.flatten=L/\(∀X∈parts,szL X<=1024)/\1<=parts.length/\parts.length<=2/\Below w.heap.size w w':=by
 by_cases h:szL L<=1024
 ·refine(Oh (Al L) (by rw[AF];exact h) w).mono ?_
  rintro e w' ⟨v,rfl,h1,h2⟩;exact⟨v,[L],rfl,h1,by simp,fun X hX=>by simp at hX;subst hX;exact h,Nat.le_refl _,by simp,h2⟩
 ·refine(Og (EG hok (by omega)) (by rw[AF];omega) (by rw[AF];exact hs) w).mono ?_
  rintro e w' ⟨v,j,rfl,hj,h1,h2⟩;rw[Hx,Jr]at h1;refine⟨v,[L.take j,L.drop j],rfl,h1,by simp,fun X hX=> ?_,by simp,by simp,h2⟩;simp at hX;rcases hX with rfl|rfl
  ·exact hj.left
  ·exact hj.right
end
section
structure Gf (V:Pst) (P:List Nat) (V':Pst) (P':List Nat):Prop where
 used:∀k,V'.used k=true↔(V.used k=true/\k∉P)\/k∈P'
 new:∀k∈P',k∈P\/V.used k=false
 low:∀k∈P',0<k/\k<2000
 nodup:P'.Nodup
 tx:∀k,V.used k=true->V'.tx k=V.tx k
 rp:V'.rp=V.rp
 rn:V'.rn=V.rn
 pre:P'.take P.length=P.take P'.length
section
variable {V V' V'':Pst} {P P':List Nat}
theorem Gf.refl (hl:∀k∈P,0<k/\k<2000/\V.used k=true) (hn:P.Nodup):Gf V P V P:=by
 refine⟨fun k=> ?_,fun k hk=> .inl hk,fun k hk=>⟨(hl k hk).1,(hl k hk).2.1⟩,hn,fun _ _=>rfl,rfl,rfl,rfl⟩
 by_cases h:k∈P
 ·simp[h,(hl k h).2.2]
 ·simp[h]
theorem Gf.alloc (h:Gf V P V' P') (hle:P.length<=P'.length) {k:Nat} (h0:0<k) (hk:k<2000) (hu:V'.used k=false):Gf V P (V'.alloc k) (P'++[k]):=by
 have hn:k∉P':=fun e=>by
  have:=(h.used k).2 (.inr e);rw[hu]at this;cases this
 have hf:k∈P\/V.used k=false:=by
  by_cases e:k∈P
  ·exact .inl e
  ·refine .inr ?_
   cases hq:V.used k
   ·rfl
   ·have:=(h.used k).2 (.inl ⟨hq,e⟩)
    rw[hu]at this;cases this
 have hpk:k∉P:=by
  intro e;have hp:=h.pre;rw[List.take_of_length_le hle]at hp;exact hn (List.mem_of_mem_take (by rw[hp];exact e))
 refine⟨fun j=> ?_,fun j hj=> ?_,fun j hj=> ?_,?_,fun j hj=> ?_,h.rp,h.rn,?_⟩
 ·show(if j=k then true else V'.used j)=true↔_
  by_cases e:j=k
  ·subst e;simp
  ·rw[if_neg e,h.used j];simp[e]
 ·rcases List.mem_append.1 hj with hj|hj
  ·exact h.new j hj
  ·obtain rfl:=List.mem_singleton.1 hj;exact hf
 ·rcases List.mem_append.1 hj with hj|hj
  ·exact h.low j hj
  ·obtain rfl:=List.mem_singleton.1 hj;exact⟨h0,hk⟩
 ·rw[List.nodup_append]
  exact⟨h.nodup,by simp,fun a ha b hb=>by obtain rfl:=List.mem_singleton.1 hb;exact fun e=>hn (e▸ha)⟩
 ·show(if j=k then CR else V'.tx j)=_
  by_cases e:j=k
  ·subst e
   rcases hf with hf|hf
   ·exact absurd hf hpk
   ·rw[hj]at hf;cases hf
  ·rw[if_neg e];exact h.tx j hj
 ·have hp:=h.pre
  rw[List.take_append_of_le_length hle,hp,List.take_of_length_le hle,List.take_of_length_le (by simp;omega)]
theorem Gf.cut (h:Gf V P V' P') (n:Nat) (hu:∀k,V''.used k=true↔V'.used k=true/\k∉P'.drop n) (ht:V''.tx=V'.tx) (hrp:V''.rp=V'.rp) (hrn:V''.rn=V'.rn):Gf V P V'' (P'.take n):=by
 have hs:∀k,k∈P'↔k∈P'.take n\/k∈P'.drop n:=fun k=>by
  conv=>lhs;rw[<-List.take_append_drop n P']
  exact List.mem_append
 have hd:∀k,k∈P'.take n->k∉P'.drop n:=fun k h1 h2=>by
  have:=h.nodup;rw[<-List.take_append_drop n P',List.nodup_append]at this;exact this.2.2 k h1 k h2 rfl
 refine⟨fun k=> ?_,fun k hk=>h.new k (List.mem_of_mem_take hk),fun k hk=>h.low k (List.mem_of_mem_take hk),h.nodup.sublist (List.take_sublist _ _),fun k hk=>by rw[ht];exact h.tx k hk,hrp.trans h.rp,hrn.trans h.rn,?_⟩
 ·rw[hu k,h.used k]
  constructor
  ·rintro⟨h1|h1,h2⟩
   ·exact .inl h1
   ·rcases(hs k).1 h1 with h3|h3
    ·exact .inr h3
    ·exact absurd h3 h2
  ·rintro(h1|h1)
   ·refine⟨.inl h1,fun e=> ?_⟩
    rcases h.new k ((hs k).2 (.inr e))with h3|h3
    ·exact h1.2 h3
    ·rw[h1.1]at h3;cases h3
   ·exact⟨.inr ((hs k).2 (.inl h1)),hd k h1⟩
 ·have hp:=h.pre
  rw[List.take_take,Nat.min_comm,<-List.take_take,hp,List.length_take,List.take_take]
end
theorem Qs {f:Nat->Bool}:∀n,A1 f (n+1)<n->∃k,0<k/\k<n+1/\f k=false/\∀j,0<j->j<k->f j=true:=by
 intro n hn
 have:∃k,0<k/\k<n+1/\f k=false:=by
  apply Classical.byContradiction;intro hne
  have hall:∀k,0<k->k<n+1->f k=true:=fun k h0 hk=>by
   cases e:f k
   ·exact absurd ⟨k,h0,hk,e⟩ hne
   ·rfl
  have hc:∀m,m<=n->m<=A1 f (m+1):=by
   intro m
   induction m with
   |zero=>intro _;exact Nat.zero_le _
   |succ m ih=>
    intro hm;have h1:=ih (by omega);rw[A1,hall (m+1) (by omega) (by omega)];simp only[if_true];omega
  have:=hc n (Nat.le_refl _);omega
 obtain⟨k,hk⟩:=this
 have hind:∀k,(0<k/\k<n+1/\f k=false)->∃k,0<k/\k<n+1/\f k=false/\∀j,0<j->j<k->f j=true:=by
  intro k
  induction k using Nat.strongRecOn with
  |ind k ih=>
   intro hk
   by_cases hj:∃j,0<j/\j<k/\f j=false
   ·obtain⟨j,h0,h1,h2⟩:=hj
    exact ih j h1 ⟨h0,by omega,h2⟩
   ·refine⟨k,hk.1,hk.2.1,hk.2.2,fun j h0 h1=> ?_⟩
    cases e:f j
    ·exact absurd ⟨j,h0,h1,e⟩ hj
    ·rfl
 exact hind k hk
theorem Gb (f:Nat->Bool) (k:Nat):∀n,A1 (fun i=>if i=k then true else f i) n<=A1 f n+1
 |0=>Nat.zero_le _
 |n+1=>by
  have ih:=Gb f k n;rw[A1,A1]
  by_cases e:n=k
  ·subst e
   have:A1 (fun i=>if i=n then true else f i) n=A1 f n:=Ie n (fun j hj=>if_neg (by omega));rw[this];simp only[if_true];omega
  ·simp only[if_neg e]
   omega
theorem J9:∀n,A1 (fun _=>false) n=0
 |0=>rfl
 |n+1=>by rw[A1,J9 n];rfl
end
end Go.Proofs.YtihnldkgeelehaaGreatDoor
