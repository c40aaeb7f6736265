/- StoreFinds: part 8. -/
import Derived.Test.YtihnldkgeelehaaGreatDoorF07
set_option maxRecDepth 100000
set_option maxHeartbeats 4000000
namespace Go.Proofs.YtihnldkgeelehaaGreatDoor
section
def Tr.pgL (T:Tr):List Nat:=(if T.top=0 then []else [T.top])++T.ks
structure WrR (V1:Pst) (P:List Nat) (txs:List ByteArray) (i:Nat) (V2:Pst):Prop where
 used:V2.used=V1.used
 rp:V2.rp=V1.rp
 rn:V2.rn=V1.rn
 tx:∀j,j<i->∀(h1:j<P.length) (h2:j<txs.length),V2.tx P[j]=pad txs[j]
 keep:∀k,(∀j,j<i->∀h:j<P.length,P[j]≠k)->V2.tx k=V1.tx k
theorem WrR.refl (V1:Pst) (P:List Nat) (txs:List ByteArray):WrR V1 P txs 0 V1:=⟨rfl,rfl,rfl,fun _ hj=>absurd hj (Nat.not_lt_zero _),fun _ _=>rfl⟩
theorem WrR.step {V1 V2:Pst} {P:List Nat} {txs:List ByteArray} {i:Nat} (h:WrR V1 P txs i V2) (hn:P.Nodup) (h1:i<P.length) (h2:i<txs.length):WrR V1 P txs (i+1) (V2.write P[i] (pad txs[i])):=by
 refine⟨h.used,h.rp,h.rn,fun j hj a b=> ?_,fun k hk=> ?_⟩
 ·show(if P[j]=P[i]then pad txs[i]else V2.tx P[j])=_
  by_cases e:j=i
  ·subst e;rw[if_pos rfl]
  ·have:P[j]≠P[i]:=fun e2=>e ((List.getElem_inj hn).1 e2)
   rw[if_neg this];exact h.tx j (by omega) a b
 ·show(if k=P[i]then pad txs[i]else V2.tx k)=_
  rw[if_neg (fun e=>hk i (by omega) h1 e.symm)];exact h.keep k (fun j hj hl=>hk j (by omega) hl)
structure QM (V V':Pst) (r:Nat) (T T':Tr):Prop where
 at_:Ck V' r T'
 used:∀k,V'.used k=true↔(V.used k=true/\k∉T.pgL)\/k∈T'.pgL
 new:∀k∈T'.pgL,k∈T.pgL\/V.used k=false
 tx:∀k,V.used k=true->k∉T.pgL->V'.tx k=V.tx k
 rp:∀i,i≠r->V'.rp i=V.rp i
 rn:∀i,i≠r->V'.rn i=V.rn i
theorem Ck.lay {V V1 V2:Pst} {r f t:Nat} {T:Tr} {M:List (List Pr)} {P':List Nat} (hA:Ck V r T) (hft:f<=t) (ht:t<=T.ks.length) (hok:BC (T.Ls.take f++M++T.Ls.drop t)) (hm:M≠[]\/(f=0/\t=T.ks.length))
  {tops:Nat} (htops:tops=if 1<T.ks.length-(t-f)+M.length then 1 else 0)
  (hF:Gf V ((if T.top=0 then []else [T.top])++(T.ks.drop f).take (t-f)) V1 P') (hlen:P'.length=tops+M.length)
  (hW:WrR V1 P' ((if tops=1 then [F5 (T.ks.take f++P'.drop tops++T.ks.drop t)]else [])++M.map Al) P'.length V2):
  QM V (V2.setRoot r (P'.headD 0:Nat) (szL (T.Ls.take f++M++T.Ls.drop t).flatten:Nat)) r T ⟨if tops=1 then P'.headD 0 else 0,T.ks.take f++P'.drop tops++T.ks.drop t,T.Ls.take f++M++T.Ls.drop t⟩:=by
 have hl:=hA.len
 have hsplit:T.ks=T.ks.take f++((T.ks.drop f).take (t-f)++T.ks.drop t):=by
  have e:T.ks.drop t=(T.ks.drop f).drop (t-f):=by rw[List.drop_drop];congr 1;omega
  rw[e,List.take_append_drop,List.take_append_drop]
 have hnd:=hA.nodup;rw[hsplit,List.nodup_append]at hnd;obtain⟨nd1,nd2,nd3⟩:=hnd;rw[List.nodup_append]at nd2;obtain⟨nd4,nd5,nd6⟩:=nd2
 have hap:∀k∈P',k∉T.ks.take f/\k∉T.ks.drop t:=by
  intro k hk;rcases hF.new k hk with h|h
  ·rcases List.mem_append.1 h with h|h
   ·by_cases h0:T.top=0
    ·rw[if_pos h0]at h;simp at h
    ·rw[if_neg h0]at h
     obtain rfl:=List.mem_singleton.1 h;have:=(hA.ltop h0).2.2.2;exact⟨fun e=>this (List.mem_of_mem_take e),fun e=>this (List.mem_of_mem_drop e)⟩
   ·exact⟨fun e=>nd3 k e k (List.mem_append.2 (.inl h)) rfl,fun e=>nd6 k h k e rfl⟩
  ·refine⟨fun e=> ?_,fun e=> ?_⟩
   ·have:=(hA.low k (List.mem_of_mem_take e)).2.2;rw[h]at this;cases this
   ·have:=(hA.low k (List.mem_of_mem_drop e)).2.2;rw[h]at this;cases this
 have hPnot:∀k,k∈T.ks.take f\/k∈T.ks.drop t->k∉(if T.top=0 then []else [T.top])++(T.ks.drop f).take (t-f):=by
  intro k hk h;rcases List.mem_append.1 h with h|h
  ·by_cases h0:T.top=0
   ·rw[if_pos h0]at h;simp at h
   ·rw[if_neg h0]at h
    obtain rfl:=List.mem_singleton.1 h;have:=(hA.ltop h0).2.2.2;rcases hk with e|e
    ·exact this (List.mem_of_mem_take e)
    ·exact this (List.mem_of_mem_drop e)
  ·rcases hk with e|e
   ·exact nd3 k e k (List.mem_append.2 (.inl h)) rfl
   ·exact nd6 k h k e rfl
 have hmem:∀k,k∈T.ks.take f\/k∈T.ks.drop t->k∈T.ks:=fun k hk=>by
  rcases hk with e|e
  ·exact List.mem_of_mem_take e
  ·exact List.mem_of_mem_drop e
 have hkeep:∀k,k∉P'->V.used k=true->V2.tx k=V.tx k:=fun k hk hu=>by
  rw[hW.keep k (fun j _ h e=>hk (e▸List.getElem_mem h)),hF.tx k hu]
 have hus:∀k,V2.used k=true↔(V.used k=true/\k∉(if T.top=0 then []else [T.top])++(T.ks.drop f).take (t-f))\/k∈P':=fun k=>by rw[hW.used];exact hF.used k
 have hP'pos:∀k∈P',0<k/\k<2000:=hF.low;have ht01:tops=0\/tops=1:=by rw[htops];split<;>simp
 have hdl:(P'.drop tops).length=M.length:=by rw[List.length_drop];omega
 have hLlen:(T.Ls.take f++M++T.Ls.drop t).length=f+M.length+(T.ks.length-t):=by
  rw[List.length_append,List.length_append,List.length_take,List.length_drop];omega
 have htopne:tops=1->P'≠[]:=fun e h=>by rw[h]at hlen;simp at hlen;omega
 have hhead:∀h:P'≠[],P'.headD 0=P'[0]'(List.length_pos_iff.2 h):=fun h=>by
  cases P' with
  |nil=>exact absurd rfl h
  |cons a b=>rfl
 have hdropm:∀k,k∈P'.drop tops->k∈P':=fun k h=>List.mem_of_mem_drop h;refine⟨⟨?_,hok,?_,?_,?_,?_,?_,?_,?_⟩,?_,?_,?_,?_,?_⟩
 ·
  show(T.ks.take f++P'.drop tops++T.ks.drop t).length=_;rw[hLlen,List.length_append,List.length_append,hdl,List.length_take,List.length_drop];omega
 ·
  show(if r=r then _ else _)=_;rw[if_pos rfl];rfl
 ·
  show(if r=r then _ else _)=_;rw[if_pos rfl];rcases ht01 with e|e
  ·simp only[e,Nat.zero_ne_one,if_false,if_true,List.drop_zero]
   have hsmall:¬1<T.ks.length-(t-f)+M.length:=fun h=>by rw[if_pos h]at htops;omega
   rw[e]at hlen;rcases hm with h|⟨rfl,rfl⟩
   ·have hmp:=List.length_pos_iff.2 h
    have hf0:f=0:=by omega
    have htl:t=T.ks.length:=by omega
    subst hf0 htl;simp
   ·simp
  ·have h1:=htopne e
   simp only[e,if_true];have:=hP'pos (P'.headD 0) (by rw[hhead h1];exact List.getElem_mem _);rw[if_neg (by omega)]
 ·
  show(if tops=1 then P'.headD 0 else 0)=0↔_;rw[hLlen];rcases ht01 with e|e
  ·rw[if_neg (by omega)]
   have hsmall:¬1<T.ks.length-(t-f)+M.length:=fun h=>by rw[if_pos h]at htops;omega
   exact⟨fun _=>by omega,fun _=>rfl⟩
  ·have h1:=htopne e
   have:=hP'pos (P'.headD 0) (by rw[hhead h1];exact List.getElem_mem _)
   have hbig:1<T.ks.length-(t-f)+M.length:=by
    apply Classical.byContradiction;intro h;rw[if_neg h]at htops;omega
   rw[if_pos e];exact⟨fun h=>by omega,fun h=>by omega⟩
 ·
  show(if tops=1 then P'.headD 0 else 0)≠0->_;intro h
  have e:tops=1:=by
   rcases ht01 with e|e
   ·rw[if_neg (by omega)]at h;exact absurd rfl h
   ·exact e
  have h1:=htopne e;have hin:P'.headD 0∈P':=by rw[hhead h1];exact List.getElem_mem _
  simp only[if_pos e];refine⟨(hP'pos _ hin).2,(hus _).2 (.inr hin),?_,?_⟩
  ·show V2.tx (P'.headD 0)=_
   rw[hhead h1];have:=hW.tx 0 (List.length_pos_iff.2 h1) (List.length_pos_iff.2 h1) (by rw[if_pos e];simp);rw[this];congr 1;simp only[if_pos e,List.singleton_append,List.getElem_cons_zero]
  ·have hx:=hap _ hin
   simp only[List.mem_append,not_or];refine⟨⟨hx.1,fun h2=> ?_⟩,hx.2⟩;rw[hhead h1,e]at h2;obtain⟨j,hj,he⟩:=List.getElem_of_mem h2;rw[List.getElem_drop]at he;have:=(List.getElem_inj hF.nodup).1 he;omega
 ·
  show ∀k∈T.ks.take f++P'.drop tops++T.ks.drop t,_;intro k hk;simp only[List.mem_append]at hk;rcases hk with(hk|hk)|hk
  ·have h1:=hA.low k (hmem k (.inl hk))
   exact⟨h1.1,h1.2.1,(hus k).2 (.inl ⟨h1.2.2,hPnot k (.inl hk)⟩)⟩
  ·have h1:=hP'pos k (hdropm k hk)
   exact⟨h1.1,h1.2,(hus k).2 (.inr (hdropm k hk))⟩
  ·have h1:=hA.low k (hmem k (.inr hk))
   exact⟨h1.1,h1.2.1,(hus k).2 (.inl ⟨h1.2.2,hPnot k (.inr hk)⟩)⟩
 ·
  show ∀i (hi:i<(T.ks.take f++P'.drop tops++T.ks.drop t).length) (hl:i<(T.Ls.take f++M++T.Ls.drop t).length),V2.tx (T.ks.take f++P'.drop tops++T.ks.drop t)[i]=pad (Al (T.Ls.take f++M++T.Ls.drop t)[i]);intro i hi hl2;have lf:(T.ks.take f).length=f:=by rw[List.length_take];omega
  have lf2:(T.Ls.take f).length=f:=by rw[List.length_take];omega
  rcases Nat.lt_or_ge i f with h1|h1
  ·rw[List.getElem_append_left (by rw[List.length_append,lf];omega),List.getElem_append_left (by rw[lf];exact h1),List.getElem_append_left (by rw[List.length_append,lf2];omega),List.getElem_append_left (by rw[lf2];exact h1)]
   have hk:(T.ks.take f)[i]'(by rw[lf];exact h1)∈T.ks.take f:=List.getElem_mem _;rw[hkeep _ (fun e=>(hap _ e).1 hk) (hA.low _ (hmem _ (.inl hk))).2.2];rw[List.getElem_take,List.getElem_take];exact hA.page i (by omega) (by omega)
  ·rcases Nat.lt_or_ge i (f+M.length)with h2|h2
   ·rw[List.getElem_append_left (by rw[List.length_append,lf,hdl];exact h2),List.getElem_append_right (by rw[lf];exact h1),List.getElem_append_left (by rw[List.length_append,lf2];exact h2),List.getElem_append_right (by rw[lf2];exact h1)]
    simp only[lf,lf2,List.getElem_drop];have hj:tops+(i-f)<P'.length:=by omega
    have hj2:tops+(i-f)<((if tops=1 then [F5 (T.ks.take f++P'.drop tops++T.ks.drop t)]else [])++M.map Al).length:=by
     rw[List.length_append,List.length_map];rcases ht01 with e|e
     ·rw[if_neg (by omega)];simp;omega
     ·rw[if_pos e];simp;omega
    rw[hW.tx _ hj hj hj2];congr 1;rcases ht01 with e|e
    ·simp[e]
    ·simp only[e,if_true]
     rw[List.getElem_append_right (by simp)];simp
   ·rw[List.getElem_append_right (by rw[List.length_append,lf,hdl];exact h2),List.getElem_append_right (by rw[List.length_append,lf2];exact h2)]
    have hk:(T.ks.drop t)[i-(T.ks.take f++P'.drop tops).length]'(by rw[List.length_append,lf,hdl,List.length_drop];rw[List.length_append,List.length_append,lf,hdl,List.length_drop]at hi;omega)∈T.ks.drop t:=List.getElem_mem _;rw[hkeep _ (fun e=>(hap _ e).2 hk) (hA.low _ (hmem _ (.inr hk))).2.2];simp only[List.getElem_drop,List.length_append,lf,lf2,hdl];exact hA.page _ (by rw[List.length_append,List.length_append,lf,hdl,List.length_drop]at hi;omega) (by rw[List.length_append,List.length_append,lf,hdl,List.length_drop]at hi;omega)
 ·
  show(T.ks.take f++P'.drop tops++T.ks.drop t).Nodup;rw[List.nodup_append,List.nodup_append];refine⟨⟨nd1,hF.nodup.sublist (List.drop_sublist _ _),fun a ha b hb e=>(hap b (hdropm b hb)).1 (e▸ha)⟩,nd5,fun a ha b hb e=> ?_⟩;subst e;rcases List.mem_append.1 ha with ha|ha
  ·exact nd3 a ha a (List.mem_append.2 (.inr hb)) rfl
  ·exact(hap a (hdropm a ha)).2 hb
 ·
  intro k;show V2.used k=true↔_;rw[hus k]
  have hT:k∈T.pgL↔(k∈(if T.top=0 then []else [T.top])++(T.ks.drop f).take (t-f))\/k∈T.ks.take f\/k∈T.ks.drop t:=by
   unfold Tr.pgL
   conv=>lhs;rw[hsplit]
   simp only[List.mem_append];constructor
   ·rintro(h|h|h|h)
    ·exact .inl (.inl h)
    ·exact .inr (.inl h)
    ·exact .inl (.inr h)
    ·exact .inr (.inr h)
   ·rintro((h|h)|h|h)
    ·exact .inl h
    ·exact .inr (.inr (.inl h))
    ·exact .inr (.inl h)
    ·exact .inr (.inr (.inr h))
  have hT':k∈Tr.pgL ⟨if tops=1 then P'.headD 0 else 0,T.ks.take f++P'.drop tops++T.ks.drop t,T.Ls.take f++M++T.Ls.drop t⟩↔k∈P'\/k∈T.ks.take f\/k∈T.ks.drop t:=by
   unfold Tr.pgL;rcases ht01 with e|e
   ·simp only[e,Nat.zero_ne_one,if_false,if_true,List.nil_append,List.drop_zero,List.mem_append]
    constructor
    ·rintro((h|h)|h)
     ·exact .inr (.inl h)
     ·exact .inl h
     ·exact .inr (.inr h)
    ·rintro(h|h|h)
     ·exact .inl (.inr h)
     ·exact .inl (.inl h)
     ·exact .inr h
   ·have h1:=htopne e
    have hin:P'.headD 0∈P':=by rw[hhead h1];exact List.getElem_mem _
    have hpos:=(hP'pos _ hin).1;simp only[e,if_true];rw[if_neg (by omega)]
    have hc:k∈P'↔k=P'.headD 0\/k∈P'.drop 1:=by
     cases P' with
     |nil=>exact absurd rfl h1
     |cons a b=>simp
    rw[hc];simp only[List.mem_append,List.mem_singleton];constructor
    ·rintro(h|(h|h)|h)
     ·exact .inl (.inl h)
     ·exact .inr (.inl h)
     ·exact .inl (.inr h)
     ·exact .inr (.inr h)
    ·rintro((h|h)|h|h)
     ·exact .inl h
     ·exact .inr (.inl (.inr h))
     ·exact .inr (.inl (.inl h))
     ·exact .inr (.inr h)
  rw[hT,hT'];constructor
  ·rintro(⟨h1,h2⟩|h)
   ·by_cases h3:k∈T.ks.take f\/k∈T.ks.drop t
    ·exact .inr (.inr h3)
    ·exact .inl ⟨h1,fun h=>h.elim h2 h3⟩
   ·exact .inr (.inl h)
  ·rintro(⟨h1,h2⟩|h|h)
   ·exact .inl ⟨h1,fun h=>h2 (.inl h)⟩
   ·exact .inr h
   ·exact .inl ⟨(hA.low k (hmem k h)).2.2,hPnot k h⟩
 ·
  intro k hk
  have hk2:k∈P'\/k∈T.ks.take f\/k∈T.ks.drop t:=by
   unfold Tr.pgL at hk;rcases ht01 with e|e
   ·simp only[e,Nat.zero_ne_one,if_false,if_true,List.nil_append,List.drop_zero,List.mem_append]at hk
    rcases hk with(h|h)|h
    ·exact .inr (.inl h)
    ·exact .inl h
    ·exact .inr (.inr h)
   ·have h1:=htopne e
    have hin:P'.headD 0∈P':=by rw[hhead h1];exact List.getElem_mem _
    have hpos:=(hP'pos _ hin).1;simp only[e,if_true]at hk;rw[if_neg (by omega)]at hk;simp only[List.mem_append,List.mem_singleton]at hk;rcases hk with h|(h|h)|h
    ·exact .inl (h▸hin)
    ·exact .inr (.inl h)
    ·exact .inl (List.mem_of_mem_drop h)
    ·exact .inr (.inr h)
  rcases hk2 with h|h
  ·rcases hF.new k h with h|h
   ·refine .inl ?_
    unfold Tr.pgL;rcases List.mem_append.1 h with h|h
    ·exact List.mem_append.2 (.inl h)
    ·exact List.mem_append.2 (.inr (List.mem_of_mem_drop (List.mem_of_mem_take h)))
   ·exact .inr h
  ·exact .inl (List.mem_append.2 (.inr (hmem k h)))
 ·
  intro k hu hk;show V2.tx k=V.tx k;refine hkeep k (fun e=> ?_) hu;rcases hF.new k e with h|h
  ·refine hk ?_
   unfold Tr.pgL;rcases List.mem_append.1 h with h|h
   ·exact List.mem_append.2 (.inl h)
   ·exact List.mem_append.2 (.inr (List.mem_of_mem_drop (List.mem_of_mem_take h)))
  ·rw[hu]at h;cases h
 ·intro i hi
  show(if i=r then _ else V2.rp i)=_;rw[if_neg hi,hW.rp,hF.rp]
 ·intro i hi
  show(if i=r then _ else V2.rn i)=_;rw[if_neg hi,hW.rn,hF.rn]
end
section
open Go.RowKit Go.Maps
def Vp (B:Nat) (ts:List ByteArray) (w:World):Prop:=∃v,Ai B v w/\Cl (B+1) v ts w
theorem Lu {w:World} {base C o size n:Nat} {e:TypeId} {v u:Value} {xs:List Value} (h:w.ownsRow base e size v n xs) (hC:C<base):(w.setCell ⟨C,o,none⟩ u).ownsRow base e size v n xs:=by
 refine⟨h.1,?_⟩;rcases h.2 with h2|⟨g,cap,cur,h1,h2,h3,h4⟩
 ·exact .inl h2
 ·have hg:g<w.heap.size:=by
   rcases Nat.lt_or_ge g w.heap.size with hh|hh
   ·exact hh
   ·rw[Array.getElem?_eq_none hh]at h3;cases h3
  exact .inr ⟨g,cap,cur,h1,h2,by rw[(Aa.set C o u w).block g hg (by omega)];exact h3,h4⟩
set_option maxHeartbeats 1000000
theorem QG {B:Nat} {ts:List ByteArray} (w:World) (h:Vp B ts w) (hn:ts.length<=1000) (t:ByteArray):
  Calls Tryz.prog 174 #[.string t,.pointer (some ⟨B,0,none⟩)] w fun e w'=>e= .returned (.bool true)/\Vp B (ts++[t]) w'/\Below B w w':=by
 obtain⟨v,h1,h2⟩:=h;have HR:Hid _:=h2;have HN:Hid (ts.length<=1000):=hn;have HO:Hid (Ai B v w):=h1;have c0:=h1.cell;have hlt:=h1.lt;have hvb:∀k,v.ownBlock=some k->B+1<=k:=fun k e=>(World.ownsRow.lt h2 k e).1;have HVB:Hid _:=hvb;have HB:Hid (Below B w (w.alloc (.cells #[.string t] 9))):=(Below.refl B w).alloc (by omega) _;have HO2:Hid _:=World.ownsRow.alloc h2 (.cells #[.string t] 9);obtain⟨i0,hi,hz0,hz1,hz2⟩:=MQ;clear h1 h2 hn hvb;go_enter Tryz.func174,Tryz.ntmps174
 go_wp2_with (at_builtin;refine wpList_append_own _ rfl _ _ 85 rfl (B+1) 9 i0 (.string ⟨#[]⟩) 1 16 Tryz.underlying85 hi hz0 hz1 hz2 rfl (by decide) _ _ _ rfl HO2.out ⟨w.heap.size,0,none⟩ 1 1 [.string t] rfl rfl (Fd w t 9) (by intro u hu;simp at hu;subst hu;rfl) (by have:=HN.out;simp only[maxLen];omega) (by have:=HN.out;omega) (by simp;omega) ?_;intro v' w' hO hG hN;have hne:some B≠v.ownBlock:=(fun e=>absurd (HVB.out B e.symm) (by omega));have o1:Ai B v w':=(HO.out.below ((Below.refl _ w).alloc (Nat.le_refl _) _)).block (hG.block B (by simp;omega) hne);obtain⟨g,cap,hv',hg1,hg2⟩:=World.ownsRow.form hO (by omega);subst hv';have c1:=o1.cell;have c2:=o1.free)
 go_ret;refine⟨rfl,⟨_,o1.set _,?_⟩,?_⟩
 ·show World.ownsRow _ _ _ _ _ _ _
  rw[List.map_append,List.length_append];exact Lu hO (by omega)
 ·exact(HB.out.grown hG (by simp;omega) (fun k e=>by have:=HVB.out k e;omega)).setCell (Nat.le_refl _) _
end
section
open Go.RowKit Go.Maps
end
section
open Go.RowKit Go.Maps
def OM (x:Pr):List Value:=[.string x.k,.string x.i]
def BU (B:Nat) (v:Value) (ps:List Pr) (w:World):Prop:=w.ownsRow B 126 2 v ps.length (ps.flatMap OM)
def LZ (B C:Nat) (ps:List Pr) (w:World):Prop:=∃v,Ai B v w/\BU C v ps w
theorem RY:∃i0:TypeInfo,Tryz.prog.info? 126=some i0/\i0.zero=some (.agg #[.string ⟨#[]⟩,.string ⟨#[]⟩])/\i0.size=2/\i0.bytes=32:=by
 have h:(Tryz.prog.info? 126).map (fun i=>(i.zero,i.size,i.bytes))=some (some (.agg #[.string ⟨#[]⟩,.string ⟨#[]⟩]),2,32):=by kernel_rfl
 cases hq:Tryz.prog.info? 126 with
 |none=>rw[hq]at h;simp at h
 |some i=>rw[hq]at h;simp at h;exact⟨i,rfl,h.1,h.2.1,h.2.2⟩
theorem Aw {w w':World} {base size n:Nat} {e:TypeId} {v:Value} {xs:List Value} {S:Nat->Prop} (h:w.ownsRow base e size v n xs) (ho:Aa S w w') (hS:∀b,S b->b<base):w'.ownsRow base e size v n xs:=by
 refine⟨h.1,?_⟩;rcases h.2 with h2|⟨g,cap,cur,h1,h2,h3,h4⟩
 ·exact .inl h2
 ·have hg:g<w.heap.size:=by
   rcases Nat.lt_or_ge g w.heap.size with hh|hh
   ·exact hh
   ·rw[Array.getElem?_eq_none hh]at h3;cases h3
  exact .inr ⟨g,cap,cur,h1,h2,by rw[ho.block g hg (fun e=>by have:=hS g e;omega)];exact h3,h4⟩
theorem Ab {w w':World} (h:Below w.heap.size w w') (S:Nat->Prop):Aa S w w':=⟨h.os,h.tape,h.output,h.size,fun k hk _=>h.block k hk⟩
theorem Ai.only {B:Nat} {v:Value} {w w':World} {S:Nat->Prop} (h:Ai B v w) (ho:Aa S w w') (hS:¬S B):Ai B v w':=h.block (ho.block B h.lt hS)
theorem CO.only {B:Nat} {a b:Value} {w w':World} {S:Nat->Prop} (h:CO B a b w) (ho:Aa S w w') (hS:¬S B):CO B a b w':=h.block (ho.block B h.lt hS)
end
section
open Go
section
variable {P:Program} {ops:Array Oper} {Q:Exit->Act->World->Prop} {md:Region.Mode} {S:World->Prop} {js:Nat}
def Eo (P:Program) (md:Region.Mode) (ops:Array Oper) (Q:Exit->Act->World->Prop) (S:World->Prop) (js:Nat):Nat->Array Bool->Act->World->Prop
 |0,listed,a,w=>Region.ready md ops listed=[]/\Q .normal a w
 |fuel+1,listed,a,w=>
  (Region.ready md ops listed=[]->Q .normal a w)/\
  ∀i∈Region.ready md ops listed,wpOp P ops Q i (fun a' w'=>(i=js->wpAny P md ops Q fuel (listed.setIfInBounds i true) a' w')/\(i≠js->S w'/\Eo P md ops Q S js fuel (listed.setIfInBounds i true) a' w')) a w
theorem F8:∀(fuel:Nat) (listed:Array Bool) (a:Act) (w:World),Eo P md ops Q S js fuel listed a w->wpAny P md ops Q fuel listed a w
 |0,_,_,_,h=>h
 |fuel+1,_,_,_,h=>⟨h.1,fun i hi=>wpOp_mono (fun a' w' h'=>by
   by_cases e:i=js
   ·exact h'.1 e
   ·exact F8 fuel _ a' w' (h'.2 e).2) (h.2 i hi)⟩
theorem Le {i:Nat} {oi:Oper} {v:Value} (hi:ops[i]? =some oi) (hsel:∀(j:Nat) (o:Oper) cs b,ops[j]? =some o->o.op≠ .select cs b)
  (hQ:∀c a w,Q (.panic c) (a.put oi.dst v) w->Q (.panic c) a w) (hne:i≠js) (hw:∀o,ops[js]? =some o->∃e∈o.after,Region.binds md e=true/\e.on=i):
  ∀(fuel:Nat) (listed:Array Bool) (a:Act) (w:World),
   (∀j oj,ops[j]? =some oj->j≠i->listed.getD j true=false->(∀e∈oj.after,Region.binds md e=true->e.on≠i)->oi.apart ops oj=true)->
   i∈Region.ready md ops listed->YieldsIf P ops S oi v a->S w->
   Eo P md ops Q S js fuel (listed.setIfInBounds i true) (a.put oi.dst v) w->Eo P md ops Q S js (fuel+1) listed a w:=by
 intro fuel
 induction fuel with
 |zero=>
  intro listed a w _ hr hy hS H;refine⟨fun h=>(by rw[h]at hr;cases hr),fun j hj=> ?_⟩
  by_cases hji:j=i
  ·subst hji;exact hy.wpOp hi hS ⟨fun e=>absurd e hne,fun _=>⟨hS,H⟩⟩
  ·have:=ready_mono hj hji
   rw[H.1]at this
   cases this
 |succ fuel ih=>
  intro listed a w hfree hr hy hS H;refine⟨fun h=>(by rw[h]at hr;cases hr),fun j hj=> ?_⟩
  by_cases hji:j=i
  ·subst hji;exact hy.wpOp hi hS ⟨fun e=>absurd e hne,fun _=>⟨hS,H⟩⟩
  ·have h1:=H.2 j (ready_mono hj hji)
   obtain⟨hjun,oj,hoj,hall⟩:=mem_ready.1 hj
   have hnot:∀e∈oj.after,Region.binds md e=true->e.on≠i:=fun e he hb heq=>by
    have h1:=hall e he hb;have h0:=(mem_ready.1 hr).1;rw[heq]at h1;rcases Nat.lt_or_ge i listed.size with h'|h'
    ·simp[h']at h0 h1;rw[h0]at h1;cases h1
    ·simp[Array.getElem?_eq_none h']at h1
   have hjs:j≠js:=fun e=>by
    obtain⟨x,hx,hb,ho⟩:=hw oj (e▸hoj);exact hnot x hx hb ho
   have h2:=wpOp_putIf hoj (hfree j oj hoj hji hjun hnot) (fun cs b=>hsel i oi cs b hi) (fun cs b=>hsel j oj cs b hoj) hQ hy h1
   have hfree':∀k ok,ops[k]? =some ok->k≠i->(listed.setIfInBounds j true).getD k true=false->
     (∀e∈ok.after,Region.binds md e=true->e.on≠i)->oi.apart ops ok=true:=fun k ok hk hki hun hno=>by
    refine hfree k ok hk hki ?_ hno
    by_cases hjk:j=k
    ·subst hjk;exact hjun
    ·rw[getD_set_ne true hjk]at hun;exact hun
   refine wpOp_mono (fun a' w' h3=>⟨fun e=>absurd e hjs,fun _=> ?_⟩) h2;obtain⟨k1,k2⟩:=h3.2.2 hjs;refine⟨k1,ih (listed.setIfInBounds j true) a' w' hfree' (ready_mono hr (Ne.symm hji)) h3.1 k1 ?_⟩;rw[Array.setIfInBounds_comm _ _ hji];exact k2
theorem Ad {i:Nat} {oi:Oper} {v:Value} {fuel:Nat} {listed:Array Bool} {a:Act} {w:World} (hi:ops[i]? =some oi)
  (hs:Region.noSelect ops=true) (hf:Region.free md ops listed i=true) (hr:(Region.ready md ops listed).contains i=true)
  (hQ:∀c a w,Q (.panic c) (a.put oi.dst v) w->Q (.panic c) a w) (hne:i≠js) (hw:((ops[js]?).map fun o=>o.after.any fun e=>Region.binds md e && e.on == i)=some true) (hy:YieldsIf P ops S oi v a) (hS:S w)
  (h:Eo P md ops Q S js fuel (listed.setIfInBounds i true) (a.put oi.dst v) w):Eo P md ops Q S js (fuel+1) listed a w:=
 Le hi (Region.noSelect_spec hs) hQ hne (fun o ho=>by
  rw[ho]at hw;simp only[Option.map_some,Option.some.injEq]at hw;obtain⟨k,hk,hb⟩:=Array.any_eq_true.1 hw;simp at hb;exact⟨_,Array.getElem_mem hk,hb.1,hb.2⟩) fuel listed a w (Region.free_spec hi hf) (by simpa using hr) hy hS h
theorem AW {i:Nat} {o:Oper} {fuel:Nat} {listed:Array Bool} {a:Act} {w:World} (hr:Region.ready md ops listed=[i]) (ho:ops[i]? =some o) (hne:i≠js) (hwt:Region.wanted o (yielded ops a.tmps)=true)
  (h:∀K':Act->World->Prop,Shut (∀a w,S w->(S w->Eo P md ops Q S js fuel (listed.setIfInBounds i true) a w)->K' a w)->Oper.wp P o a w K' Q):Eo P md ops Q S js (fuel+1) listed a w:=
 ⟨fun h0=>(by rw[hr]at h0;cases h0),fun j hj=>by
   rw[hr]at hj;obtain rfl:=List.mem_singleton.1 hj;exact wpOp_step ho (fun K' hK=>by rw[if_pos hwt];exact h K' (fun a w hS hW=>hK a w ⟨fun e=>absurd e hne,fun _=>⟨hS,hW hS⟩⟩))⟩
theorem Di {o:Oper} {fuel:Nat} {listed:Array Bool} {a:Act} {w:World} (hr:Region.ready md ops listed=[js]) (hr2:Region.ready md ops (listed.setIfInBounds js true)=[]) (ho:ops[js]? =some o) (hwt:Region.wanted o (yielded ops a.tmps)=true)
  (h:∀K':Act->World->Prop,Shut (∀a w,Q .normal a w->K' a w)->Oper.wp P o a w K' Q):Eo P md ops Q S js (fuel+1) listed a w:=
 ⟨fun h0=>(by rw[hr]at h0;cases h0),fun j hj=>by
   rw[hr]at hj;obtain rfl:=List.mem_singleton.1 hj
   have hd:∀a w,Q .normal a w->wpAny P md ops Q fuel (listed.setIfInBounds j true) a w:=fun a w hq=>by
    cases fuel with
    |zero=>exact⟨hr2,hq⟩
    |succ f=>exact⟨fun _=>hq,by rw[hr2];simp⟩
   exact wpOp_step ho (fun K' hK=>by rw[if_pos hwt];exact h K' (fun a w hq=>hK a w ⟨fun _=>hd a w hq,fun e=>absurd rfl e⟩))⟩
theorem BZ {id:Nat} {a:Act} {w:World} (hm:P.follows .mixedOrders=true) (hS:S w.drew)
  (h:S w.drew->Eo P .any ops Q S js ops.size (Array.replicate ops.size false) a w.drew):(Code.region id ops true).wp P Q a w:=
 wp_region_any hm (F8 _ _ _ _ (h hS))
end
end
section
open Go.RowKit Go.Maps
theorem BR {wa wb:World} {b:Nat} (h:wb.heap[b]? =wa.heap[b]?) (o:Nat):wb.cell? ⟨b,o,none⟩=wa.cell? ⟨b,o,none⟩:=by simp only[World.cell?];rw[h]
theorem By {wa wb:World} {S:Nat->Prop} {k:Option Nat} (h:wa.grownBy wb k) (hk:∀b,k=some b->S b):Aa S wa wb:=
 ⟨h.os,h.tape,h.output,h.size,fun b hb hs=>h.block b hb (fun e=>hs (hk b e.symm))⟩
set_option maxHeartbeats 1000000
theorem Oy {fw Bf Bw Bl C:Nat} {cw:Array Value} {ps:List Pr} {wnt:Nat->ByteArray->Bool} {W:Nat->Prop} {I:Nat->World->Prop} (w:World) (from_:ByteArray) (x:Pr) (n:Int) (hx:x.Ok) (hfw:Bf<Bw) (hwl:Bw<Bl) (hlc:Bl<C) (hC:C<=w.heap.size) (hn:ps.length<=40000)
  (h1:Ai Bf (.string from_) w) (h2:Ai Bw (.func (.func fw) #[] cw) w) (h3:LZ Bl C ps w) (hW:∀b,W b->b<Bf) (eg:∀args w,(callFunc fw args).run Tryz.prog w= .ok (.enter fw args) w)
  (hI:I ps.length w) (hst:∀k wx wy,I k wx->Aa (fun b=>Bf<=b) wx wy->I k wy)
  (hc:∀k key wx,k<=40000->I k wx->Calls Tryz.prog fw (#[.string key]++cw) wx fun e w'=>e= .returned (.bool (wnt k key))/\I (k+1) w'/\Aa W wx w'):
  Calls Tryz.prog 117 #[.agg #[.string x.k,.string x.i],.int .i64 n,.pointer (some ⟨Bf,0,none⟩),.pointer (some ⟨Bw,0,none⟩),.pointer (some ⟨Bl,0,none⟩)] w fun e w'=>
   (bl x.k from_=true/\e= .returned (.bool true)/\Below w.heap.size w w')\/(bl x.k from_=false/\wnt ps.length x.k=false/\e= .returned (.bool false)/\LZ Bl C ps w'/\Aa (fun b=>W b\/b=Bl\/C<=b) w w')\/
   (bl x.k from_=false/\wnt ps.length x.k=true/\e= .returned (.bool true)/\LZ Bl C (ps++[x]) w'/\I (ps.length+1) w'/\Aa (fun b=>W b\/b=Bl\/C<=b) w w'):=by
 obtain⟨kx,ix⟩:=x;obtain⟨ok1,ok2,ok3⟩:=hx;simp only at ok1 ok2 ok3 ⊢;obtain⟨v,l1,l2⟩:=h3;have HST:Hid _:=hst;have HL1:Hid _:=l1;have HL2:Hid _:=l2;have H1:Hid _:=h1;have H2:Hid _:=h2;have hB:Below w.heap.size w (w.alloc (.cells #[.string kx,.string ix] 126)):=(Below.refl _ w).alloc (Nat.le_refl _) _;have HC:Hid (Calls Tryz.prog fw (#[.string kx]++cw) (w.alloc (.cells #[.string kx,.string ix] 126)) fun e w'=>e= .returned (.bool (wnt ps.length kx))/\I (ps.length+1) w'/\Aa W (w.alloc (.cells #[.string kx,.string ix] 126)) w'):=hc ps.length kx _ hn (hst _ _ _ hI (Ab hB _));have HNV:Hid (v.ownBlock≠some w.heap.size):=fun e=>absurd ((World.ownsRow.lt l2 _ e).2) (by omega);have c1:=(h1.below hB).cell;have c2:=(h2.below hB).cell;have HB:Hid _:=hB;have HWW:Hid _:=hW;clear hc l1 l2 h1 h2 hB hW hst hI
 cases hb:bl kx from_
 ·have hb':Op.bytesLess kx.toList from_.toList=false:=hb
  cases hwt:wnt ps.length kx
  ·rw[hwt]at HC
   go_enter Tryz.func117,Tryz.ntmps117;go_wp2_with fail;refine(show Calls _ _ _ _ _ from HC.out).mono ?_;rintro _ w2 ⟨rfl,_,ho⟩;have hWW:=HWW.out;have hlf:=HL1.out.lt;have HL3:Hid (Ai Bl v w2):=(HL1.out.below HB.out).only ho (fun e=>by have:=hWW _ e;omega);have HL4:Hid (BU C v ps w2):=Aw (World.ownsRow.alloc HL2.out _) ho (fun b e=>by have:=hWW _ e;omega);have HO2:Hid (Aa (fun b=>W b\/b=Bl\/C<=b) w w2):=(Ab HB.out _).trans (ho.mono (fun _ e=> .inl e)) (fun _ e=> .inl e);clear ho hlf hWW;go_wp2;go_ret
   first|exact .inr (.inl ⟨trivial,trivial,rfl,⟨_,HL3.out,HL4.out⟩,HO2.out⟩)|exact⟨rfl,⟨_,HL3.out,HL4.out⟩,HO2.out⟩
  ·rw[hwt]at HC
   have HWT:Hid (wnt ps.length kx=true):=hwt;obtain⟨i0,hi,hz0,hz1,hz2⟩:=RY;clear hwt;go_enter Tryz.func117,Tryz.ntmps117;go_wp2_with fail;refine(show Calls _ _ _ _ _ from HC.out).mono ?_;rintro _ w2 ⟨rfl,hi2,ho⟩;have hlf:=HL1.out.lt;have hWW:=HWW.out;have HI2:Hid (I (ps.length+1) w2):=hi2;have HV2:Hid (CO w.heap.size (.string kx) (.string ix) w2):=(CO.new w _ _ 126).only ho (fun e=>by have:=hWW _ e;omega);have HL3:Hid (Ai Bl v w2):=(HL1.out.below HB.out).only ho (fun e=>by have:=hWW _ e;omega);have HL4:Hid (BU C v ps w2):=Aw (World.ownsRow.alloc HL2.out _) ho (fun b e=>by have:=hWW _ e;omega);have HO2:Hid (Aa (fun b=>W b\/b=Bl\/C<=b) w w2):=(Ab HB.out _).trans (ho.mono (fun _ e=> .inl e)) (fun _ e=> .inl e);clear ho hlf hWW hi2 c1 c2;go_wp2_with fail;refine BZ (S:=fun wx=>wx.cell? ⟨w.heap.size,0,none⟩=some (.string kx)/\wx.cell? ⟨w.heap.size,1,none⟩=some (.string ix)/\wx.cell? ⟨Bl,0,none⟩=some v) (js:=10) (by kernel_rfl) (⟨HV2.out.c0,HV2.out.c1,HL3.out.cell⟩) ?_;intro g0;refine Ad (i:=0) (oi:={dst:=some 17,op:=Op.load 97 (Operand.tmp 4),type:=97,pos:= "tree.go:125",after:= #[],guard:=none}) (v:=v) rfl (by kernel_rfl) (by kernel_rfl) (by kernel_rfl) (fun _ _ _ h=>h) (by decide) (by kernel_rfl) (Or.inl ⟨by rfl,fun wx h=>by have h8:=h.2.2;go_simp⟩) g0 ?_;simp only[Act.put,List.setIfInBounds_toArray,List.set_cons_zero,List.set_cons_succ];refine Ad (i:=1) (oi:={dst:=some 18,op:=Op.fieldAddr 126 (Operand.tmp 5) 0,type:=0,pos:= "tree.go:125",after:= #[],guard:=none}) (v:= .pointer (some ⟨w.heap.size,0,none⟩)) rfl (by kernel_rfl) (by kernel_rfl) (by kernel_rfl) (fun _ _ _ h=>h) (by decide) (by kernel_rfl) (Or.inl ⟨by rfl,fun wx _=>by go_simp⟩) g0 ?_;simp only[Act.put,List.setIfInBounds_toArray,List.set_cons_zero,List.set_cons_succ];refine Ad (i:=2) (oi:={dst:=some 19,op:=Op.load 9 (Operand.tmp 18),type:=9,pos:= "tree.go:125",after:= #[{on:=1,ground:=Ground.data}],guard:=none}) (v:= .string kx) rfl (by kernel_rfl) (by kernel_rfl) (by kernel_rfl) (fun _ _ _ h=>h) (by decide) (by kernel_rfl) (Or.inl ⟨by rfl,fun wx h=>by have h8:=h.1;go_simp⟩) g0 ?_;simp only[Act.put,List.setIfInBounds_toArray,List.set_cons_zero,List.set_cons_succ];refine Ad (i:=4) (oi:={dst:=some 21,op:=Op.fieldAddr 126 (Operand.tmp 5) 1,type:=0,pos:= "tree.go:125",after:= #[],guard:=none}) (v:= .pointer (some ⟨w.heap.size,1,none⟩)) rfl (by kernel_rfl) (by kernel_rfl) (by kernel_rfl) (fun _ _ _ h=>h) (by decide) (by kernel_rfl) (Or.inl ⟨by rfl,fun wx _=>by go_simp⟩) g0 ?_;simp only[Act.put,List.setIfInBounds_toArray,List.set_cons_zero,List.set_cons_succ];refine Ad (i:=5) (oi:={dst:=some 22,op:=Op.load 9 (Operand.tmp 21),type:=9,pos:= "tree.go:125",after:= #[{on:=4,ground:=Ground.data}],guard:=none}) (v:= .string ix) rfl (by kernel_rfl) (by kernel_rfl) (by kernel_rfl) (fun _ _ _ h=>h) (by decide) (by kernel_rfl) (Or.inl ⟨by rfl,fun wx h=>by have h8:=h.2.1;go_simp⟩) g0 ?_;simp only[Act.put,List.setIfInBounds_toArray,List.set_cons_zero,List.set_cons_succ];refine AW (i:=3) (o:={dst:=some 20,op:=Op.call {callee:=Callee.value (Operand.func 118),args:= #[Operand.tmp 19],argTypes:= #[9]},type:=9,pos:= "tree.go:125",after:= #[{on:=2,ground:=Ground.data}],guard:=none}) (by kernel_rfl) rfl (by decide) (by rfl) (fun K hK=> ?_)
   go_simp
   refine(Db kx _ (by omega)).mono ?_;rintro _ w3 ⟨rfl,hb3⟩;have HB3:Hid _:=hb3;clear hb3;refine hK.out _ _ (⟨Ae HB3.out g0.1,Ae HB3.out g0.2.1,Ae HB3.out g0.2.2⟩) (fun g1=> ?_);clear hK K
   try simp only[Act.put,List.setIfInBounds_toArray,List.set_cons_zero,List.set_cons_succ]
   refine AW (i:=6) (o:={dst:=some 23,op:=Op.call {callee:=Callee.value (Operand.func 118),args:= #[Operand.tmp 22],argTypes:= #[9]},type:=9,pos:= "tree.go:125",after:= #[{on:=5,ground:=Ground.data},{on:=3,ground:=Ground.chain}],guard:=none}) (by kernel_rfl) rfl (by decide) (by rfl) (fun K hK=> ?_)
   go_simp
   refine(Db ix _ (by omega)).mono ?_;rintro _ w4 ⟨rfl,hb4⟩;have HB4:Hid _:=hb4;clear hb4;refine hK.out _ _ (⟨Ae HB4.out g1.1,Ae HB4.out g1.2.1,Ae HB4.out g1.2.2⟩) (fun g2=> ?_);clear hK K
   try simp only[Act.put,List.setIfInBounds_toArray,List.set_cons_zero,List.set_cons_succ]
   refine Ad (i:=7) (oi:={dst:=some 24,op:=Op.build 126 #[(0,Operand.tmp 20),(1,Operand.tmp 23)],type:=126,pos:= "tree.go:125",after:= #[{on:=3,ground:=Ground.data},{on:=6,ground:=Ground.data}],guard:=none}) (v:= .agg #[.string kx,.string ix]) rfl (by kernel_rfl) (by kernel_rfl) (by kernel_rfl) (fun _ _ _ h=>h) (by decide) (by kernel_rfl) (Or.inl ⟨by rfl,fun wx _=>by go_simp⟩) g2 ?_;simp only[Act.put,List.setIfInBounds_toArray,List.set_cons_zero,List.set_cons_succ];refine AW (i:=8) (o:={dst:=some 25,op:=Op.buildSlice 97 1 #[(0,Operand.tmp 24)],type:=97,pos:= "tree.go:125",after:= #[{on:=7,ground:=Ground.data}],guard:=none}) (by kernel_rfl) rfl (by decide) (by rfl) (fun K hK=> ?_);have HB5:Hid (Below w4.heap.size w4 (w4.alloc (.cells #[.string kx,.string ix] 126))):=(Below.refl _ _).alloc (Nat.le_refl _) _
   go_simp
   try simp only[Act.put,List.setIfInBounds_toArray,List.set_cons_zero,List.set_cons_succ]
   refine hK.out _ _ (⟨Ae HB5.out g2.1,Ae HB5.out g2.2.1,Ae HB5.out g2.2.2⟩) (fun g3=> ?_);clear hK K
   try simp only[Act.put,List.setIfInBounds_toArray,List.set_cons_zero,List.set_cons_succ]
   have HRW:Hid (BU C v ps (w4.alloc (.cells #[.string kx,.string ix] 126))):=Aw (Aw (Aw (Aw HL4.out (Ab (Below.refl _ w2).drew (fun _=>False)) (fun _ e=>e.elim)) (Ab HB3.out (fun _=>False)) (fun _ e=>e.elim)) (Ab HB4.out (fun _=>False)) (fun _ e=>e.elim)) (Ab HB5.out (fun _=>False)) (fun _ e=>e.elim);have HO5:Hid (Aa (fun b=>W b\/b=Bl\/C<=b) w (w4.alloc (.cells #[.string kx,.string ix] 126))):=(((HO2.out.trans (Ab (Below.refl _ w2).drew _) (fun _ e=> .inl e)).trans (Ab HB3.out _) (fun _ e=> .inl e)).trans (Ab HB4.out _) (fun _ e=> .inl e)).trans (Ab HB5.out _) (fun _ e=> .inl e);have HOW5:Hid (Ai Bl v (w4.alloc (.cells #[.string kx,.string ix] 126))):=(((HL3.out.drew).below HB3.out).below HB4.out).below HB5.out;have HI5:Hid (I (ps.length+1) (w4.alloc (.cells #[.string kx,.string ix] 126))):=HST.out _ _ _ HI2.out ((((Ab (Below.refl _ w2).drew _).trans (Ab HB3.out _) (fun _ e=> .inl e)).trans (Ab HB4.out _) (fun _ e=> .inl e)).trans (Ab HB5.out _) (fun _ e=> .inl e));have HSZ5:Hid (C<=(w4.alloc (.cells #[.string kx,.string ix] 126)).heap.size):=Nat.le_trans hC HO5.out.size;refine AW (i:=9) (o:={dst:=some 26,op:=Op.call {callee:=Callee.builtin Builtin.append,args:= #[Operand.tmp 17,Operand.tmp 25],argTypes:= #[97,97]},type:=97,pos:= "tree.go:125",after:= #[{on:=0,ground:=Ground.data},{on:=8,ground:=Ground.data},{on:=6,ground:=Ground.chain}],guard:=none}) (by kernel_rfl) rfl (by decide) (by rfl) (fun K hK=> ?_);refine wp_append_own _ _ _ 97 rfl C 126 i0 (.agg #[.string ⟨#[]⟩,.string ⟨#[]⟩]) 2 32 Tryz.underlying97 hi hz0 hz1 hz2 rfl (by decide) _ _ _ rfl HRW.out ⟨w4.heap.size,0,none⟩ 1 1 [.string kx,.string ix] rfl rfl (G3 w4 _ _ 126) (by intro u hu;simp at hu;rcases hu with rfl|rfl<;>rfl) (by simp only[maxLen];omega) (by omega) (by have:=HSZ5.out;omega) ?_;intro v' w' hO hG hN;have hne:some Bl≠v.ownBlock:=fun e=>absurd ((World.ownsRow.lt HRW.out Bl e.symm).1) (by omega);have hne2:some w.heap.size≠v.ownBlock:=fun e=>HNV.out e.symm;obtain⟨z5,hz5⟩:∃z5,w4.alloc (.cells #[.string kx,.string ix] 126)=z5:=⟨_,rfl⟩;rw[hz5]at hG g3 HOW5 HI5 HO5 HRW;have HOW6:Hid (Ai Bl v w'):=HOW5.out.block (hG.block Bl HOW5.out.lt hne);have hl6:=World.block_lt_of_cell? z5 _ g3.1;have hOn:Aa (fun b=>C<=b) z5 w':=By hG (fun k e=>by have:=(World.ownsRow.lt HRW.out k e).1;omega);refine hK.out _ _ (⟨(BR (hG.block _ hl6 hne2) _).trans g3.1,(BR (hG.block _ hl6 hne2) _).trans g3.2.1,HOW6.out.cell⟩) (fun g4=> ?_);clear hK K
   try simp only[Act.put,List.setIfInBounds_toArray,List.set_cons_zero,List.set_cons_succ]
   refine Di (o:={dst:=none,op:=Op.store 97 (Operand.tmp 4) (Operand.tmp 26),type:=0,pos:= "tree.go:125",after:= #[{on:=9,ground:=Ground.data},{on:=9,ground:=Ground.chain},{on:=0,ground:=Ground.phase},{on:=1,ground:=Ground.phase},{on:=2,ground:=Ground.phase},{on:=3,ground:=Ground.phase},{on:=4,ground:=Ground.phase},{on:=5,ground:=Ground.phase},{on:=6,ground:=Ground.phase},{on:=7,ground:=Ground.phase},{on:=8,ground:=Ground.phase},{on:=9,ground:=Ground.phase}],guard:=none}) (by kernel_rfl) (by kernel_rfl) rfl (by rfl) (fun K hK=> ?_);obtain⟨g,cap,hv',hg1,hg2⟩:=World.ownsRow.form hO (by omega);subst hv';have c1:=HOW6.out.cell;have c2:=HOW6.out.free
   go_simp
   refine hK.out _ _ ?_;clear hK K
   try simp only[Act.put,List.setIfInBounds_toArray,List.set_cons_zero,List.set_cons_succ]
   go_wp2;go_ret;refine⟨rfl,⟨_,HOW6.out.set _,?_⟩,?_,?_⟩
   ·show World.ownsRow _ _ _ _ _ _ _
    rw[List.flatMap_append,List.length_append];exact Lu hO (by omega)
   ·exact HST.out _ _ _ HI5.out ((hOn.mono (fun _ e=>by omega)).trans (Aa.set Bl 0 _ _) (fun _ e=> .inl (by omega)))
   ·exact(HO5.out.trans (hOn.mono (fun _ e=> .inr (.inr e))) (fun _ e=> .inl e)).trans (Aa.set Bl 0 _ _) (fun _ e=> .inl (.inr (.inl e)))
 ·have hb':Op.bytesLess kx.toList from_.toList=true:=hb
  go_enter Tryz.func117,Tryz.ntmps117;go_wp2;go_ret
  first|exact .inl ⟨trivial,rfl,HB.out⟩|exact⟨rfl,HB.out⟩
def Bd (wnt:Nat->ByteArray->Bool) (from_:ByteArray):Nat->List Pr->List Pr
 |_,[]=>[]
 |k,x::r=>if bl x.k from_=true then Bd wnt from_ k r else if wnt k x.k=true then x::Bd wnt from_ (k+1) r else []
section
variable {wnt:Nat->ByteArray->Bool} {from_:ByteArray}
theorem GM:∀(l:List Pr) (k:Nat),(Bd wnt from_ k l).length<=l.length
 | [],_=>Nat.le_refl _
 |x::r,k=>by
  unfold Bd;split
  ·exact Nat.le_trans (GM r k) (by simp)
  ·split
   ·simp only[List.length_cons];have:=GM r (k+1);omega
   ·simp
theorem IC:∀(l m:List Pr) (k:Nat),(∀x∈l,bl x.k from_=true)->Bd wnt from_ k (l++m)=Bd wnt from_ k m
 | [],_,_,_=>rfl
 |x::r,m,k,h=>by
  rw[List.cons_append,Bd,if_pos (h x (by simp))];exact IC r m k (fun y hy=>h y (by simp[hy]))
theorem OQ:∀l:List Pr,l.length<=szL l
 | []=>Nat.le_refl _
 |x::r=>by
  have:=OQ r;rw[szL,List.length_cons];unfold Pr.sz;omega
structure Gg (wnt:Nat->ByteArray->Bool) (from_:ByteArray) (I:Nat->World->Prop) (W:Nat->Prop) (fw Bf Bw Bl C:Nat) (cw:Array Value) (w0:World) (ps:List Pr) (wx:World):Prop where
 o1:Ai Bf (.string from_) wx
 o2:Ai Bw (.func (.func fw) #[] cw) wx
 pv:LZ Bl C ps wx
 ii:I ps.length wx
 on:Aa (fun b=>W b\/b=Bl\/C<=b) w0 wx
 hC:C<=wx.heap.size
structure SK (wnt:Nat->ByteArray->Bool) (I:Nat->World->Prop) (W:Nat->Prop) (fw Bf Bw Bl C:Nat) (cw:Array Value):Prop where
 fb:Bf<Bw
 wl:Bw<Bl
 lc:Bl<C
 hW:∀b,W b->b<Bf
 eg:∀args w,(callFunc fw args).run Tryz.prog w= .ok (.enter fw args) w
 hst:∀k wx wy,I k wx->Aa (fun b=>Bf<=b) wx wy->I k wy
 hc:∀k key wx,k<=40000->I k wx->Calls Tryz.prog fw (#[.string key]++cw) wx fun e w'=>e= .returned (.bool (wnt k key))/\I (k+1) w'/\Aa W wx w'
variable {I:Nat->World->Prop} {W:Nat->Prop} {fw Bf Bw Bl C:Nat} {cw:Array Value} {w0 wx wy:World} {ps:List Pr}
theorem LZ.only {S:Nat->Prop} (h:LZ Bl C ps wx) (ho:Aa S wx wy) (h1:¬S Bl) (h2:∀b,S b->b<C):LZ Bl C ps wy:=by
 obtain⟨v,k1,k2⟩:=h;exact⟨v,k1.only ho h1,Aw k2 ho h2⟩
theorem Gg.below (hc:SK wnt I W fw Bf Bw Bl C cw) (h:Gg wnt from_ I W fw Bf Bw Bl C cw w0 ps wx) (hb:Below wx.heap.size wx wy):Gg wnt from_ I W fw Bf Bw Bl C cw w0 ps wy:=
 ⟨h.o1.below hb,h.o2.below hb,h.pv.only (Ab hb (fun _=>False)) (fun e=>e) (fun _ e=>e.elim),hc.hst _ _ _ h.ii (Ab hb _),h.on.trans (Ab hb _) (fun _ e=> .inl e),Nat.le_trans h.hC hb.size⟩
theorem Gg.drew (hc:SK wnt I W fw Bf Bw Bl C cw) (h:Gg wnt from_ I W fw Bf Bw Bl C cw w0 ps wx):Gg wnt from_ I W fw Bf Bw Bl C cw w0 ps wx.drew:=h.below hc (Below.refl _ wx).drew
def SJ (W:Nat->Prop) (Bl C:Nat) (w0:World) (fin:List Pr) (wx:World):Prop:=LZ Bl C fin wx/\Aa (fun b=>W b\/b=Bl\/C<=b) w0 wx
theorem Gg.step (hc:SK wnt I W fw Bf Bw Bl C cw) (h:Gg wnt from_ I W fw Bf Bw Bl C cw w0 ps wx) (x:Pr) (hx:x.Ok) (n:Int) (hn:ps.length<=40000) (rest:List Pr):
  Calls Tryz.prog 117 #[.agg #[.string x.k,.string x.i],.int .i64 n,.pointer (some ⟨Bf,0,none⟩),.pointer (some ⟨Bw,0,none⟩),.pointer (some ⟨Bl,0,none⟩)] wx fun e w'=>
   ∃b,e= .returned (.bool b)/\(if b then ∃ps',Gg wnt from_ I W fw Bf Bw Bl C cw w0 ps' w'/\ps'++Bd wnt from_ ps'.length rest=ps++Bd wnt from_ ps.length (x::rest)else SJ W Bl C w0 (ps++Bd wnt from_ ps.length (x::rest)) w'):=by
 refine(Oy wx from_ x n hx hc.fb hc.wl hc.lc h.hC hn h.o1 h.o2 h.pv hc.hW hc.eg h.ii hc.hst hc.hc).mono ?_
 have hf:¬(W Bf\/Bf=Bl\/C<=Bf):=by
  have:=hc.hW Bf;have:=hc.fb;have:=hc.wl;have:=hc.lc;rintro(e|e|e)
  ·have:=hc.hW _ e;omega
  ·omega
  ·omega
 have hw:¬(W Bw\/Bw=Bl\/C<=Bw):=by
  have:=hc.fb;have:=hc.wl;have:=hc.lc;rintro(e|e|e)
  ·have:=hc.hW _ e;omega
  ·omega
  ·omega
 rintro e w' (⟨h1,rfl,h2⟩|⟨h1,h2,rfl,h3,h4⟩|⟨h1,h2,rfl,h3,h4,h5⟩)
 ·refine⟨true,rfl,ps,h.below hc h2,?_⟩
  rw[Bd,if_pos h1]
 ·refine⟨false,rfl,?_,h.on.trans h4 (fun _ e=> .inl e)⟩
  rw[Bd,if_neg (by rw[h1];decide),if_neg (by rw[h2];decide),List.append_nil];exact h3
 ·refine⟨true,rfl,ps++[x],⟨h.o1.only h5 hf,h.o2.only h5 hw,h3,?_,h.on.trans h5 (fun _ e=> .inl e),Nat.le_trans h.hC h5.size⟩,?_⟩
  ·rw[List.length_append];exact h4
  ·rw[List.length_append,Bd,if_neg (by rw[h1];decide),if_pos h2,List.append_assoc]
   rfl
theorem LQ {Bt:Nat} (hc:SK wnt I W fw Bf Bw Bl C cw) (h:Gg wnt from_ I W fw Bf Bw Bl C cw w0 ps wx) (ht:Ai Bt (.func (.func 117) #[] #[.pointer (some ⟨Bf,0,none⟩),.pointer (some ⟨Bw,0,none⟩),.pointer (some ⟨Bl,0,none⟩)]) wx) {L rest fin:List Pr} (hok:∀x∈L,x.Ok) (hs:szL L<=4096)
  (hfin:ps++Bd wnt from_ ps.length (L++rest)=fin) (hlen:fin.length<=40000):
  Calls Tryz.prog 120 #[.string (Al L),.pointer (some ⟨Bt,0,none⟩)] wx fun e w'=>∃b,e= .returned (.bool b)/\(if b then ∃ps',Gg wnt from_ I W fw Bf Bw Bl C cw w0 ps' w'/\ps'++Bd wnt from_ ps'.length rest=fin else SJ W Bl C w0 fin w'):=by
 have HE:Hid _:=h;have HC:Hid _:=hc;have c0:=ht.cell;have HF:Hid _:=hfin;clear h hc ht hfin;go_enter Tryz.func120,Tryz.ntmps120;go_wp2_with fail
 refine(Fm (fun j wy=>∃ps',Gg wnt from_ I W fw Bf Bw Bl C cw w0 ps' wy/\ps'++Bd wnt from_ ps'.length (L.drop j++rest)=fin) (fun wy=>SJ W Bl C w0 fin wy) (enters_of Tryz.func117 (by kernel_rfl) rfl) (EG hok hs) (fun j wy hh=>by
   obtain⟨ps',k1,k2⟩:=hh;exact⟨ps',k1.drew HC.out,k2⟩) (fun j hj wy hh=> ?_) _ ⟨ps,HE.out,by rw[List.drop_zero];exact HF.out⟩).mono ?_
 ·obtain⟨ps',k1,k2⟩:=hh
  rw[List.drop_eq_getElem_cons hj,List.cons_append]at k2
  have hl:ps'.length<=40000:=by
   have:=congrArg List.length k2;rw[List.length_append]at this;omega
  refine(k1.step HC.out L[j] (hok _ (List.getElem_mem hj)) _ hl (L.drop (j+1)++rest)).mono ?_;rintro e w' ⟨b,rfl,hb⟩;refine⟨b,rfl,?_⟩
  cases b
  ·simp only[Bool.false_eq_true,if_false]at hb ⊢
   rw[k2]at hb;exact hb
  ·simp only[if_true]at hb ⊢
   obtain⟨p2,e1,e2⟩:=hb;exact⟨p2,e1,e2.trans k2⟩
 rintro e w' ⟨b,rfl,hb⟩;have HB:Hid _:=hb;clear hb;go_wp2;go_ret
 cases b
 ·exact⟨false,rfl,HB.out⟩
 ·obtain⟨ps',k1,k2⟩:=HB.out
  rw[List.drop_length]at k2;exact⟨true,rfl,ps',k1,k2⟩
end
end
end Go.Proofs.YtihnldkgeelehaaGreatDoor
