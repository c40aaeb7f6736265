/- StoreFinds: part 13. -/
import Derived.Test.YtihnldkgeelehaaGreatDoorF12
set_option maxRecDepth 100000
set_option maxHeartbeats 4000000
namespace Go.Proofs.YtihnldkgeelehaaGreatDoor
section
open Go.RowKit Go.Maps
section
variable {bt bp bd bm N r:Nat} {s:St} {up:Nat->Bool} {cm:Int} {V:Pst} {w:World}
theorem BC.nil:BC []:=⟨by simp,by simp,by simp,fun i hi=>absurd hi (by simp),Nat.zero_le _,List.Pairwise.nil⟩
set_option maxHeartbeats 1000000
theorem QE (hT:Tt bt bp r w) (h:Tw bp bd bm N s up cm V w) (hne:bt≠bp/\bt≠bm) {T:Tr} (hA:Ck V r T) (hcnt:A1 V.used 2000+30<1999) (hN:N+60<1000000):
  Calls Tryz.prog 173 #[.pointer (some ⟨bt,0,none⟩)] w fun e w'=>Pk bp bd bm N r s up cm V T [] (fun b=>b=bp\/b=bm) w e w':=by
 have HA:Hid _:=hA;have HT:Hid _:=hT;have HW:Hid _:=h;have hlt:=h.lt;have hltt:=hT.lt;clear hA hT h;go_enter Tryz.func173,Tryz.ntmps173;go_wp2_with fail;refine(JF HT.out HW.out HA.out).mono ?_;rintro _ w1 ⟨v,rfl,hv1,hb1⟩;obtain⟨a9,cap9,hv9,_⟩:=hv1.is;rw[Ak]at hv9;obtain⟨n9,hn9⟩:∃n,T.ks.length=n:=⟨_,rfl⟩;rw[hn9]at hv9;subst hv9;have HN9:Hid _:=hn9;obtain⟨W2,hW2⟩:∃W2,w1.alloc (.cells #[.int .i64 (T.top:Nat),.slice a9 n9 cap9] 202)=W2:=⟨_,rfl⟩;have hb2:Below w1.heap.size w1 W2:=by rw[<-hW2];exact(Below.refl _ w1).alloc (Nat.le_refl _) _
 have HX:Hid (CO w1.heap.size (.int .i64 (T.top:Nat)) (.slice a9 n9 cap9) W2):=by rw[<-hW2];exact CO.new w1 _ _ _
 have HB2:Hid (Below w.heap.size w W2):=hb1.trans (hb2.mono hb1.size);have HT2:Hid (Tt bt bp r W2):=HT.out.below HB2.out;have HW2:Hid (Tw bp bd bm N s up cm V W2):=HW.out.below HB2.out;have HV2:Hid (Ao (w.heap.size+1) (.slice a9 n9 cap9) (At T.ks) W2):=hv1.below hb2;have c0:=HX.out.c0;have c1:=HX.out.c1;have hsz2:=HB2.out.size
 have hl:=OR (bd:=bd) (M:=[]) (Bt:=w.heap.size) (vt:= .slice none 0 0) (f:=0) (t:=n9) HT2.out HW2.out hne HA.out HV2.out ⟨by omega,by omega⟩ (Nat.zero_le _) (by rw[hn9];exact Nat.le_refl _) (World.ownsRow_nil _ _ _ _) ⟨by omega,by omega,by omega,by omega,by omega⟩ (by simp) (by
   have e:T.Ls.drop n9=[]:=List.drop_of_length_le (by rw[<-HA.out.len,hn9];exact Nat.le_refl _);rw[e];exact BC.nil) (.inr ⟨rfl,hn9.symm⟩) hcnt hN
 have e:T.Ls.drop n9=[]:=List.drop_of_length_le (by rw[<-HA.out.len,hn9];exact Nat.le_refl _);rw[e]at hl;have HL:Hid (Calls Tryz.prog 177 #[.pointer (some ⟨bt,0,none⟩),.agg #[.int .i64 (T.top:Nat),.slice a9 n9 cap9],.int .i64 0,.int .i64 (n9:Nat),.slice none 0 0,.int .i64 0] W2 fun e w'=>Pk bp bd bm N r s up cm V T [] (fun b=>b=bp\/b=bm\/some b=(Value.slice none 0 0).ownBlock) W2 e w'):=hl;clear hl e hv1 hb1 hb2 hn9;go_wp2_with fail;refine(show Calls _ _ _ _ _ from HL.out).mono ?_;rintro _ w3 ⟨rfl,V',N',T',h1,h2,h3,h4,h5⟩;have HR:Hid (Pk bp bd bm N r s up cm V T [] (fun b=>b=bp\/b=bm) w (.returned .nilIface) w3):=⟨rfl,V',N',T',h1,h2,h3,h4,(Ab HB2.out _).trans h5 (fun i hi=> .inl (by rcases hi with hi|hi|hi;exact .inl hi;exact .inr hi;cases hi))⟩;clear h1 h2 h3 h4 h5;go_wp2;go_ret;exact HR.out
end
end
section
structure VS (T:Tr) (key:ByteArray) (A mid C:List Pr):Prop where
 all:T.all=A++mid++C
 mid_:mid=[]\/∃y,mid=[y]/\y.k=key
 less:∀x∈A,bl x.k key=true
 more:∀x∈C,bl key x.k=true
theorem PV (l:List (List Pr)) (s:List Pr):(CK l s).length<=l.length+1:=by
 rcases BH l with rfl|⟨l',x,rfl⟩
 ·rw[F1];simp
 ·rw[BJ]
  split<;>simp
theorem PX (M:List (List Pr)):(AR M).length<=M.length:=by
 have:∀(M l:List (List Pr)),(M.foldl CK l).length<=l.length+M.length:=by
  intro M
  induction M with
  |nil=>exact fun _=>Nat.le_refl _
  |cons a r ih=>
   intro l;rw[List.foldl_cons,List.length_cons];have:=ih (CK l a);have:=PV l a;omega
 have:=this M [];simpa [AR]using this
theorem BC.fresh {parts:List (List Pr)} (hfit:∀X∈parts,szL X<=1024) (hne:parts.flatten≠[]) (hok:∀x∈parts.flatten,x.Ok) (hsum:szL parts.flatten<=30000) (hs:parts.flatten.Pairwise (fun a b=>bl a.k b.k=true)):BC (AR parts):=by
 have hf:=KM hfit;have ha:=KN parts;have hfl:=BP parts;refine⟨SG ha hf (by rw[hfl];exact hne),hf,fun L hL x hx=>hok x (by rw[<-hfl];exact List.mem_flatten.2 ⟨L,hL,hx⟩),(GJ _).1 ha,by rw[hfl];exact hsum,by rw[hfl];exact hs⟩
structure Un (T:Tr) (key txt:ByteArray) (l a b:Nat) (A mid C:List Pr):Prop where
 chg:VS T key A mid C
 ab:b=a+szL mid
 ts:b<=txt.size
 sz:txt.size<=1024
 mem:∀nw:List Pr,(nw=[]\/∃x,nw=[x]/\x.k=key)->(∀x∈nw,x.Ok)->A++nw++C≠[]->szL (A++nw++C)<=30000->
  ∃L':List Pr,txt.extract 0 a++Al nw++txt.extract b txt.size=Al L'/\(∀x∈L',x.Ok)/\szL L'<=1186/\
   ∀parts:List (List Pr),parts.flatten=L'->(∀X∈parts,szL X<=1024)->parts.length<=2->
    BC (T.Ls.take (l-1)++AR (((T.Ls.drop (l-1)).take (min (l+2) T.Ls.length-(l-1))).take (l-(l-1))++parts++((T.Ls.drop (l-1)).take (min (l+2) T.Ls.length-(l-1))).drop (l-(l-1)+1))++T.Ls.drop (min (l+2) T.Ls.length))/\
    (T.Ls.take (l-1)++AR (((T.Ls.drop (l-1)).take (min (l+2) T.Ls.length-(l-1))).take (l-(l-1))++parts++((T.Ls.drop (l-1)).take (min (l+2) T.Ls.length-(l-1))).drop (l-(l-1)+1))++T.Ls.drop (min (l+2) T.Ls.length)).flatten=A++nw++C
theorem Lm {nw:List Pr} {key:ByteArray} (h:nw=[]\/∃x,nw=[x]/\x.k=key) (hok:∀x∈nw,x.Ok):szL nw<=162:=by
 rcases h with rfl|⟨x,rfl,_⟩
 ·exact Nat.zero_le _
 ·have:=hok x (by simp)
  obtain⟨h1,h2,h3⟩:=this;show x.sz+0<=162;unfold Pr.sz;omega
theorem Ll {l:List Pr} {i:Nat}:∀d,i+d+1<=l.length->szL (l.take i)<szL (l.take (i+d+1))
 |0,h=>by
  have:=AO (l:=l) (j:=i) (by omega);rw[Nat.add_zero,this];unfold Pr.sz;omega
 |d+1,h=>by
  have h1:=Ll (l:=l) (i:=i) d (by omega);have:=AO (l:=l) (j:=i+d+1) (by omega);rw[show i+(d+1)+1=i+d+1+1 by omega,this];omega
theorem Rb {l:List Pr} {i j:Nat} (hi:i<=l.length) (hj:j<=l.length) (h:szL (l.take i)=szL (l.take j)):i=j:=by
 rcases Nat.lt_trichotomy i j with e|e|e
 ·have:=Ll (l:=l) (i:=i) (j-i-1) (by omega)
  rw[show i+(j-i-1)+1=j by omega]at this;omega
 ·exact e
 ·have:=Ll (l:=l) (i:=j) (i-j-1) (by omega)
  rw[show j+(i-j-1)+1=i by omega]at this;omega
theorem El.all {T:Tr} {key txt:ByteArray} {l a b:Nat} (h:El T key l txt a b) (ok:BC T.Ls):∃A mid C,Un T key txt l a b A mid C:=by
 rcases h with⟨h1,rfl,rfl,rfl,rfl⟩|h
 ·refine⟨[],[],[],⟨⟨by unfold Tr.all;rw[h1];rfl,.inl rfl,by simp,by simp⟩,rfl,Nat.le_refl _,by decide,?_⟩⟩
  intro nw hnw hok hne hsum;refine⟨nw,?_,hok,by have:=Lm hnw hok;omega,fun parts hp hfit _=> ?_⟩
  ·apply ByteArray.ext
   apply Array.ext';simp[ByteArray.data_append]
  ·rw[h1]
   simp only[List.take_nil,List.drop_nil,List.nil_append,List.append_nil]at hne hsum ⊢;refine⟨BC.fresh hfit (by rw[hp];exact hne) (by rw[hp];exact hok) (by rw[hp];exact hsum) ?_,by rw[BP,hp]⟩;rw[hp];rcases hnw with rfl|⟨x,rfl,_⟩
   ·exact List.Pairwise.nil
   ·simp
 ·obtain⟨L,j,k,rfl,hc⟩:=h.cut ok
  obtain⟨hlt,hL⟩:=List.getElem?_eq_some_iff.1 hc.at_;have hLm:L∈T.Ls:=by rw[<-hL];exact List.getElem_mem hlt
  have hjk:j<=k:=by rcases hc.jk with h|h<;>omega
  have e:T.Ls=T.Ls.take l++(L::T.Ls.drop (l+1)):=by rw[<-hL,<-List.drop_eq_getElem_cons hlt,List.take_append_drop]
  have e2:L=L.take j++((L.drop j).take (k-j)++L.drop k):=by
   have:(L.drop j).take (k-j)++L.drop k=L.drop j:=by
    have h2:L.drop k=(L.drop j).drop (k-j):=by rw[List.drop_drop];congr 1;omega
    rw[h2,List.take_append_drop]
   rw[this,List.take_append_drop]
  have e3:L.take k=L.take j++(L.drop j).take (k-j):=by
   conv=>lhs;rw[show k=j+(k-j) by omega]
   exact List.take_add
  have hab:b=a+szL ((L.drop j).take (k-j)):=by rw[hc.to_,hc.from_,e3,Af]
  have hfit:=ok.fit L hLm
  have hall:T.all=((T.Ls.take l).flatten++L.take j)++(L.drop j).take (k-j)++(L.drop k++(T.Ls.drop (l+1)).flatten):=by
   unfold Tr.all
   conv=>lhs;rw[e]
   rw[List.flatten_append,List.flatten_cons]
   conv=>lhs;rw[e2]
   simp only[List.append_assoc]
  refine⟨_,_,_,⟨hall,?_,hc.less,hc.more⟩,hab,?_,by rw[AF];exact hfit,?_⟩
  ·rcases hc.jk with⟨h1,_⟩|⟨h1,h2⟩
   ·left;subst h1;simp
   ·right
    obtain⟨j2,hf⟩:=h.find;have hjl:j<L.length:=by have:=hc.le;omega
    refine⟨L[j],?_,?_⟩
    ·subst h1
     rw[Nat.add_sub_cancel_left,List.drop_eq_getElem_cons hjl];rfl
    ·
     have hf2:JK L key j2 a b:=by rw[<-hL];exact hf
     have:j2=j:=Rb hf2.le (by omega) (hf2.from_.symm.trans hc.from_);subst this;rcases hf2.to_ with⟨e9,_⟩|⟨hj9,e9,_,_⟩
     ·omega
     ·exact BM e9
  ·rw[AF,hc.to_];exact Eb _ _
  ·intro nw hnw hnok hne hsum
   have hchg:chg T l j k L nw=(T.Ls.take l).flatten++L.take j++nw++(L.drop k++(T.Ls.drop (l+1)).flatten):=by unfold chg;simp only[List.append_assoc]
   refine⟨L.take j++nw++L.drop k,by rw[hc.from_,hc.to_];exact Qf L nw j k,?_,?_,?_⟩
   ·intro x hx
    rcases List.mem_append.1 hx with hx|hx
    ·rcases List.mem_append.1 hx with hx|hx
     ·exact ok.ok L hLm x (List.mem_of_mem_take hx)
     ·exact hnok x hx
    ·exact ok.ok L hLm x (List.mem_of_mem_drop hx)
   ·have h9:=Lm hnw hnok
    have h8:szL L=szL (L.take j)+(szL ((L.drop j).take (k-j))+szL (L.drop k)):=by conv=>lhs;rw[e2,Af,Af]
    rw[Af,Af];omega
   ·intro parts hp hpf _
    have h7:=Cut.changed hc ok hnw hnok hp hpf (by rw[hchg];exact hsum) (by rw[hchg];exact hne)
    have ew:(T.Ls.drop (l-1)).take (min (l+2) T.Ls.length-(l-1))=ahead T.Ls l++[L]++Ci T.Ls l:=by
     have hw:=IA hlt;rw[hL]at hw;have hlen:=Nx hlt;rw[hL]at hlen
     have hd:T.Ls.drop (l-1)=(ahead T.Ls l++[L]++Ci T.Ls l)++T.Ls.drop (l+2):=by
      conv=>lhs;rw[hw]
      rw[List.append_assoc,List.drop_append_of_le_length (by rw[List.length_take];omega),List.drop_of_length_le (by rw[List.length_take];omega),List.nil_append]
     rw[hd,<-hlen,List.take_left]
    have hal:(ahead T.Ls l).length=l-(l-1):=by
     unfold ahead;rw[List.length_drop,List.length_take];omega
    have et:(ahead T.Ls l++[L]++Ci T.Ls l).take (l-(l-1))=ahead T.Ls l:=by
     rw[<-hal,List.append_assoc,List.take_left]
    have ed:(ahead T.Ls l++[L]++Ci T.Ls l).drop (l-(l-1)+1)=Ci T.Ls l:=by
     have:l-(l-1)+1=(ahead T.Ls l++[L]).length:=by rw[List.length_append,hal];rfl
     rw[this,List.drop_left]
    have em:T.Ls.drop (min (l+2) T.Ls.length)=T.Ls.drop (l+2):=by
     rcases Nat.lt_or_ge (l+2) T.Ls.length with h|h
     ·rw[Nat.min_eq_left (by omega)]
     ·rw[Nat.min_eq_right h,List.drop_of_length_le (Nat.le_refl _),List.drop_of_length_le h]
    rw[ew,et,ed,em];rw[hchg]at h7;exact h7
end
end Go.Proofs.YtihnldkgeelehaaGreatDoor
